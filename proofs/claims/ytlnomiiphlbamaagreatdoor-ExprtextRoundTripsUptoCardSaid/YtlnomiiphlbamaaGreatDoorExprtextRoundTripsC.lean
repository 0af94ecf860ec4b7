/-
  ExprtextRoundTrips returns true for every expression, and the argument reads afterwards as it read before.
  Conditions: the package-level variables that the row lists hold what the program's own initialisers lay (the card ties them); what the call reads is together of bulk at most 1048576.
  An expression that is an argument, opened: the tree that its cells hold, of a size below its bulk.
  ExprtextRoundTrips.
-/
import Derived.Test.YtlnomiiphlbamaaGreatDoorEtLaid
import Derived.Test.YtlnomiiphlbamaaGreatDoorExMem
import Derived.Test.YtlnomiiphlbamaaGreatDoorEtCan
import Derived.Test.YtlnomiiphlbamaaGreatDoorExOver
namespace Go.Proofs.YtlnomiiphlbamaaGreatDoor.EtW
open Go Go.RowKit Go.ChangeShapes Go.WideShapes Go.ChangeAt Go.Proofs.YtlnomiiphlbamaaGreatDoor.LexM Go.Proofs.YtlnomiiphlbamaaGreatDoor.LexW Go.Proofs.YtlnomiiphlbamaaGreatDoor.ExM Go.Proofs.YtlnomiiphlbamaaGreatDoor.ExW

theorem bulk_all {H : Type} {l : List (DataW H)} (h : Rows.uptoSmall H l = true) : Rows.uptoBulkAll l ≤ 1048576 := of_decide_eq_true h
theorem cellsX : Tryz.prog.cellsOf 3 = 1 ∧ Tryz.prog.cellsOf 9 = 1 ∧ Tryz.prog.cellsOf 24 = 4 ∧ Tryz.prog.cellsOf 22 = 1 ∧ Tryz.prog.bytesOf 24 = 56 := by
  refine ⟨?_, ?_, ?_, ?_, ?_⟩ <;> kernel_rfl
theorem add_at (b off k : Nat) : (⟨b, off, none⟩ : Addr).add k = ⟨b, off + k, none⟩ := by
  unfold Addr.add
  by_cases h : k = 0
  · subst h; simp
  · simp [h]
theorem pick_list {α : Type} {Q : Nat → α → Prop} : ∀ n : Nat, (∀ i, i < n → ∃ t, Q i t) → ∃ l : List α, l.length = n ∧ ∀ i t, l[i]? = some t → Q i t
  | 0, _ => ⟨[], rfl, fun i t h => by simp at h⟩
  | n + 1, h => by
    obtain ⟨l, hl, hq⟩ := pick_list n (fun i hi => h i (by omega))
    obtain ⟨t, ht⟩ := h n (by omega)
    refine ⟨l ++ [t], by simp [hl], fun i u hu => ?_⟩
    by_cases hi : i < n
    · rw [List.getElem?_append_left (by omega)] at hu
      exact hq i u hu
    · have hil : i < (l ++ [t]).length := (List.getElem?_eq_some_iff.1 hu).1
      have e : i = n := by simp [hl] at hil; omega
      subst e
      rw [List.getElem?_append_right (by omega), hl] at hu
      have : t = u := by simpa using hu
      rw [← this]; exact ht
theorem weights_in {H : Type} {P : Program} {e : TypeId} : ∀ {l : List (DataW H)} {d : DataW H}, d ∈ l → ∀ n ∈ d.weights P e, n ∈ DataW.weightsAll P e l
  | d' :: r, d, hd, n, hn => by
    simp only [DataW.weightsAll, List.mem_append]
    rcases List.mem_cons.1 hd with rfl | h
    · exact .inl hn
    · exact .inr (weights_in h n hn)
/-- Four cells in a row that is read. -/
theorem four_of {W : World} {a : Addr} {i : Nat} {c0 c1 c2 c3 : Value} (h : ∀ j, j < 4 → W.cell? ((a.add (i * 4)).add j) = ([c0, c1, c2, c3] : List Value)[j]?) {b off : Nat} (e : a = ⟨b, off, none⟩) :
    W.cell? ⟨b, off + i * 4, none⟩ = some c0 ∧ W.cell? ⟨b, off + i * 4 + 1, none⟩ = some c1 ∧ W.cell? ⟨b, off + i * 4 + 2, none⟩ = some c2 ∧ W.cell? ⟨b, off + i * 4 + 3, none⟩ = some c3 := by
  subst e
  simp only [add_at] at h
  exact ⟨h 0 (by omega), h 1 (by omega), h 2 (by omega), h 3 (by omega)⟩
theorem szs_bulk {H : Type} : ∀ (l : List Ex) (r : List (DataW H)), l.length = r.length → (∀ (i : Nat) (a : Ex) (y : DataW H), l[i]? = some a → r[i]? = some y → sz a ≤ Rows.uptoBulk y) → szs l ≤ Rows.uptoBulkAll r
  | [], [], _, _ => by rw [szs_nil]; omega
  | a :: l, y :: r, h, k => by
    have h1 := k 0 a y rfl rfl
    have h2 := szs_bulk l r (by simpa using h) (fun i b z hb hz => k (i + 1) b z hb hz)
    rw [szs_cons, Rows.uptoBulkAll]
    omega
set_option maxRecDepth 100000 in
/-- An expression in the cells that are read. -/
theorem open_ex {H : Type} {enc : TypeId × Value → H} {W : World} : ∀ (fuel : Nat) (cs : List Value) (x : DataW H × List MemPlace), cs.length = 4 →
    DataW.trod enc Tryz.prog W 0 (fun _ => true) true fuel 24 cs = some x → (∀ y ∈ x.2, y.block < W.heap.size) → (∀ n ∈ x.1.weights Tryz.prog 24, n ≤ 140737488351232) →
    ∃ (e : Ex) (p : Option Addr) (cap : Nat), cs = [.int .i64 e.op, .int .i64 e.n, .string e.nm, .slice p e.args.length cap] ∧ ExAt W.heap.size W (xv e.op e.n e.nm (.slice p e.args.length cap)) e ∧ sz e ≤ Rows.uptoBulk x.1 := by
  intro fuel
  induction fuel using Nat.strongRecOn with
  | _ fuel ih =>
  intro cs x hl h hlt hw
  obtain ⟨k1, k2, k3, k5, k6⟩ := cellsX
  obtain ⟨xs, n, rfl, rfl, _, hlen, hfd⟩ := DataW.trod_struct Tryz.underlying24 h
  match cs, hl with
  | [c0, c1, c2, c3], _ =>
    match xs, hlen with
    | [y0, y1, y2, y3], _ =>
      have h0 : DataW.trod enc Tryz.prog W 0 (fun _ => true) true n 3 ([c0, c1, c2, c3].take (Tryz.prog.cellsOf 3)) = some y0 := hfd 0 _ rfl
      rw [k1, show [c0, c1, c2, c3].take 1 = [c0] from rfl] at h0
      have h1 : DataW.trod enc Tryz.prog W 0 (fun _ => true) true n 3 ([c1, c2, c3].take (Tryz.prog.cellsOf 3)) = some y1 := hfd 1 _ rfl
      rw [k1, show [c1, c2, c3].take 1 = [c1] from rfl] at h1
      have h2 : DataW.trod enc Tryz.prog W 0 (fun _ => true) true n 9 ([c2, c3].take (Tryz.prog.cellsOf 9)) = some y2 := hfd 2 _ rfl
      rw [k2, show [c2, c3].take 1 = [c2] from rfl] at h2
      have h3 : DataW.trod enc Tryz.prog W 0 (fun _ => true) true n 22 ([c3].take (Tryz.prog.cellsOf 22)) = some y3 := hfd 3 _ rfl
      rw [k5, show [c3].take 1 = [c3] from rfl] at h3
      obtain ⟨m0, e0, _, w0⟩ := DataW.trod_int Tryz.underlying3 h0
      obtain ⟨m1, e1, _, w1⟩ := DataW.trod_int Tryz.underlying3 h1
      obtain ⟨s2, e2, rfl, w2⟩ := DataW.trod_string Tryz.underlying9 h2
      obtain rfl : c0 = .int .i64 m0 := by simpa using e0
      obtain rfl : c1 = .int .i64 m1 := by simpa using e1
      obtain rfl : c2 = .string s2 := by simpa using e2
      have hwS : ∀ q ∈ (DataW.lit (Lit.string s2.data.toList) : DataW H).weights Tryz.prog 9, q ≤ 140737488351232 := fun q hq => hw q (by
        simp only [DataW.weights, Tryz.underlying24]
        exact DataW.weights_mem_each (j := 2) rfl rfl q hq)
      have hwA : ∀ q ∈ y3.1.weights Tryz.prog 22, q ≤ 140737488351232 := fun q hq => hw q (by
        simp only [DataW.weights, Tryz.underlying24]
        exact DataW.weights_mem_each (j := 3) rfl rfl q hq)
      have hs2 : s2.size ≤ 140737488351232 := by
        have := hwS s2.data.toList.length (by simp [DataW.weights])
        rw [len_data] at this; exact this
      rcases DataW.trod_slice Tryz.underlying22 h3 with ⟨hcs, _⟩ | ⟨a, len, cap, elems, rest, m, rfl, hcs, rfl, _, hlc, _, hel, hE, _, _⟩
      · obtain rfl : c3 = .slice none 0 0 := by simpa using hcs
        exact ⟨.mk m0 m1 s2 [], none, 0, rfl, ExAt.mk (ks := []) (fun _ => none) (fun _ => 0) hs2 (by simp) (by simp) (fun h => by simp at h) (fun i a hi => by simp at hi), by rw [sz_mk, szs_nil]; simp only [Rows.uptoBulk]; omega⟩
      · obtain rfl : c3 = .slice (some a) len cap := by simpa using hcs
        rw [k3] at hE hlt
        have hbytes : len ≤ 140737488351232 := by
          have := hwA ((elems.length + rest.length) * 56) (by simp only [DataW.weights, Tryz.underlying22, k6, List.length_map]; simp)
          omega
        have each : ∀ i, i < len → ∃ t : Ex × Option Addr × Nat, (∀ j, j < 4 → W.cell? ((a.add (i * 4)).add j) = ([.int .i64 t.1.op, .int .i64 t.1.n, .string t.1.nm, .slice t.2.1 t.1.args.length t.2.2] : List Value)[j]?) ∧ ExAt W.heap.size W (xv t.1.op t.1.n t.1.nm (.slice t.2.1 t.1.args.length t.2.2)) t.1 ∧ ∀ y, elems[i]? = some y → sz t.1 ≤ Rows.uptoBulk y.1 := fun i hi => by
          have hi2 : i < elems.length := by omega
          have hb := hE i hi
          rw [List.getElem?_eq_getElem hi2, Option.bind_eq_some_iff] at hb
          obtain ⟨cs', hc', ht'⟩ := hb
          obtain ⟨_, hcl, hat⟩ := World.cells?_some hc'
          have hmem : elems[i] ∈ elems := List.getElem_mem hi2
          obtain ⟨e', p', cap', rfl, hx', hz'⟩ := ih m (by omega) cs' elems[i] hcl ht'
            (fun y hy => hlt y (by simp only [List.flatMap_cons, List.mem_append]; exact .inr (.inr (.inr (.inl (.inr (List.mem_flatMap.2 ⟨_, List.mem_append.2 (.inl hmem), hy⟩))))))) 
            (fun q hq => hwA q (by
              simp only [DataW.weights, Tryz.underlying22, List.mem_cons, List.mem_append]
              exact .inr (.inl (weights_in (List.mem_map.2 ⟨_, hmem, rfl⟩) q hq))))
          exact ⟨(e', p', cap'), hat, hx', fun y hy => by rw [List.getElem?_eq_getElem hi2] at hy; cases hy; exact hz'⟩
        obtain ⟨l, hll, hq⟩ := pick_list len each
        have hkl : (l.map (·.1)).length = len := by rw [List.length_map, hll]
        refine ⟨.mk m0 m1 s2 (l.map (·.1)), some a, cap, by simp only [Ex.op, Ex.n, Ex.nm, Ex.args, hkl], ?_, ?_⟩
        rotate_left
        · have q := szs_bulk (l.map (·.1)) (elems.map (·.1)) (by simp [hll, hel]) (fun i a y ha hy => by
            rw [List.getElem?_map] at ha hy
            obtain ⟨t, ht, rfl⟩ := Option.map_eq_some_iff.1 ha
            obtain ⟨u, hu, rfl⟩ := Option.map_eq_some_iff.1 hy
            exact (hq i t ht).2.2 u hu)
          have e1 : ∀ (A B C D : DataW H), Rows.uptoBulk (.agg [A, B, C, D]) = Rows.uptoBulk A + (Rows.uptoBulk B + (Rows.uptoBulk C + (Rows.uptoBulk D + 0))) + 1 := fun _ _ _ _ => by simp only [Rows.uptoBulk, Rows.uptoBulkAll]
          have e2 : ∀ (E R : List (DataW H)), Rows.uptoBulk (.slice E R) = Rows.uptoBulkAll E + Rows.uptoBulkAll R + 1 := fun _ _ => by simp only [Rows.uptoBulk]
          rw [sz_mk]
          simp only [List.map_cons, List.map_nil]
          rw [e1, e2]
          omega
        simp only [Ex.op, Ex.n, Ex.nm, Ex.args]
        have get : ∀ (i : Nat) (e' : Ex), (l.map (·.1))[i]? = some e' → ∃ t : Ex × Option Addr × Nat, l[i]? = some t ∧ t.1 = e' := fun i e' he => by
          rw [List.getElem?_map] at he
          obtain ⟨t, ht, rfl⟩ := Option.map_eq_some_iff.1 he
          exact ⟨t, ht, rfl⟩
        refine ExAt.mk (fun i => ((l[i]?).map (·.2.1)).getD none) (fun i => ((l[i]?).map (·.2.2)).getD 0) hs2 (by omega) (by omega) (fun h0 => ?_) (fun i e' he => ?_)
        · obtain ⟨b, off, spot⟩ := a
          have hspot : spot = none := by
            obtain ⟨t0, ht0⟩ : ∃ t, l[0]? = some t := ⟨_, List.getElem?_eq_getElem (by omega)⟩
            have := (hq 0 t0 ht0).1 0 (by omega)
            simpa [Addr.add] using World.cell?_spot this
          subst hspot
          refine ⟨b, off, rfl, hlt (.cell b off) (by
            simp only [List.flatMap_cons, List.mem_append]
            exact .inr (.inr (.inr (.inl (.inl (MemPlace.mem_row.2 ⟨0, by omega, by simp⟩)))))), fun i e' he => ?_⟩
          obtain ⟨t, ht, rfl⟩ := get i e' he
          simp only [ht]
          exact four_of (hq i t ht).1 rfl
        · obtain ⟨t, ht, rfl⟩ := get i e' he
          simp only [ht]
          exact (hq i t ht).2.1
set_option maxRecDepth 100000 in
theorem open_expr {H : Type} {enc : TypeId × Value → H} {W : World} {r : Reach} {b0 : Nat} {v : Value} {d : DataW H} {p : List MemPlace} (hval : Value.okWide Tryz.prog W r b0 24 v)
    (h : DataW.Trod enc Tryz.prog W 0 (fun _ => true) true 24 v d p) (hlt : ∀ x ∈ p, x.block < W.heap.size) (hw : ∀ n ∈ d.weights Tryz.prog 24, n ≤ 140737488351232) : ∃ e : Ex, ExAt W.heap.size W v e ∧ sz e ≤ Rows.uptoBulk d := by
  obtain ⟨cs, rfl, hcs⟩ := okWide_struct Tryz.underlying24 hval
  rw [cellsX.2.2.1] at hcs
  obtain ⟨fuel, hf⟩ := h
  obtain ⟨e, q, cap, he, hx, hz⟩ := open_ex fuel cs.toList (d, p) (by simpa using hcs) (by simpa [Value.cells] using hf) hlt hw
  have hc : cs = #[.int .i64 e.op, .int .i64 e.n, .string e.nm, .slice q e.args.length cap] := by
    apply Array.ext'
    rw [he]
  rw [hc]
  exact ⟨e, hx, hz⟩
end Go.Proofs.YtlnomiiphlbamaaGreatDoor.EtW
namespace Go.Proofs.YtlnomiiphlbamaaGreatDoor.EtW
open Go Go.RowKit Go.Proofs.YtlnomiiphlbamaaGreatDoor.NumM Go.Proofs.YtlnomiiphlbamaaGreatDoor.LexW Go.Proofs.YtlnomiiphlbamaaGreatDoor.LexM Go.Proofs.YtlnomiiphlbamaaGreatDoor.ExM Go.Proofs.YtlnomiiphlbamaaGreatDoor.ExW Go.Proofs.YtlnomiiphlbamaaGreatDoor.EtM

set_option maxRecDepth 100000 in
set_option maxHeartbeats 4000000 in
theorem rt_bad (e : Ex) (v : Value) (w : World) (hx : ExAt w.heap.size w v e) (hsz : sz e ≤ 2000000) (ht : TabE w) (hv : vld e ≠ 0) : Calls Tryz.prog 4 #[v] w fun e w' => e = .returned (.bool true) ∧ Below w.heap.size w w' := by
  obtain ⟨p, c, pl, cl, rfl, hs, _⟩ := hx.form
  have W1 : Below w.heap.size w (w.alloc (.cells #[.int .i64 e.op, .int .i64 e.n, .string e.nm, .slice p e.args.length c] 24)) := (Below.refl _ _).alloc (Nat.le_refl _) _
  have F1 := Four.new w (.int .i64 e.op) (.int .i64 e.n) (.string e.nm) (.slice p e.args.length c) 24
  have hx1 : ExAt (w.alloc (.cells #[.int .i64 e.op, .int .i64 e.n, .string e.nm, .slice p e.args.length c] 24)).heap.size (w.alloc (.cells #[.int .i64 e.op, .int .i64 e.n, .string e.nm, .slice p e.args.length c] 24)) (xv e.op e.n e.nm (.slice p e.args.length c)) e := hx.later W1
  have VC := Lib.hid (validR_any e _ _ hx1 hsz)
  have PC0 := Lib.hid (fun W (hW : Below (w.alloc (.cells #[.int .i64 e.op, .int .i64 e.n, .string e.nm, .slice p e.args.length c] 24)).heap.size (w.alloc (.cells #[.int .i64 e.op, .int .i64 e.n, .string e.nm, .slice p e.args.length c] 24)) W) => by
    have q := print_any e _ W (hx1.later hW) hsz (ht.later (W1.then_ hW))
    rw [show prS e = [] from by unfold prS; rw [if_pos hv]] at q
    exact q)
  have AC := Lib.hid (fun W (hW : Below w.heap.size w W) => awake_any W (ht.later hW))
  have HF1 := Lib.hid F1
  have HW1 := Lib.hid W1
  have b0 := F1.c0
  have b1 := F1.c1
  have b2 := F1.c2
  have b3 := F1.c3
  clear hx hx1 W1 F1 hs hsz ht
  obtain ⟨V, hV⟩ : ∃ x, vld e = x := ⟨_, rfl⟩
  rw [hV] at VC hv
  clear hV
  show Calls _ _ #[.agg #[.int .i64 e.op, .int .i64 e.n, .string e.nm, .slice p e.args.length c]] w _
  generalize e.op = o at *
  generalize e.n = n at *
  generalize e.nm = s at *
  generalize e.args.length = k at *
  have tq : ((mb []).toList == []) = true := by rw [Lib.toList_data]; rfl
  go_enter Tryz.func4, Tryz.ntmps4
  go_wp2_with (first
    | (go_at_call 10; ((with_reducible refine VC.out.mono ?_); rintro e w3 ⟨rfl, hb⟩; have F3 := HF1.out.stay hb; clear b0 b1 b2 b3; have b0 := F3.c0; have b1 := F3.c1; have b2 := F3.c2; have b3 := F3.c3; have HB3 := Lib.hid (HW1.out.then_ hb); have PC := Lib.hid (PC0.out _ hb); clear hb F3))
    | (go_at_call 7; ((with_reducible refine PC.out.mono ?_); rintro e w4 ⟨rfl, hb⟩; have HB4 := Lib.hid (HB3.out.then_ hb); clear hb))
    | (go_at_call 9; ((with_reducible refine (AC.out _ HB4.out).mono ?_); rintro e w5 ⟨rfl, hb⟩; have HB5 := Lib.hid (HB4.out.then_ hb); clear hb)))
  go_ret
  exact ⟨rfl, HB5.out⟩
set_option maxRecDepth 100000 in
set_option maxHeartbeats 8000000 in
theorem rt_short (e : Ex) (v : Value) (w : World) (hx : ExAt w.heap.size w v e) (hsz : sz e ≤ 2000000) (ht : TabE w) (hv : vld e = 0) {T : List UInt8} (hT : prn e = T) (hl : T.length ≤ 16384) : Calls Tryz.prog 4 #[v] w fun e w' => e = .returned (.bool true) ∧ Below w.heap.size w w' := by
  obtain ⟨p, c, pl, cl, rfl, hs, _⟩ := hx.form
  have W1 : Below w.heap.size w (w.alloc (.cells #[.int .i64 e.op, .int .i64 e.n, .string e.nm, .slice p e.args.length c] 24)) := (Below.refl _ _).alloc (Nat.le_refl _) _
  have F1 := Four.new w (.int .i64 e.op) (.int .i64 e.n) (.string e.nm) (.slice p e.args.length c) 24
  have hx1 : ExAt (w.alloc (.cells #[.int .i64 e.op, .int .i64 e.n, .string e.nm, .slice p e.args.length c] 24)).heap.size (w.alloc (.cells #[.int .i64 e.op, .int .i64 e.n, .string e.nm, .slice p e.args.length c] 24)) (xv e.op e.n e.nm (.slice p e.args.length c)) e := hx.later W1
  have VC := Lib.hid (by have q := validR_any e _ _ hx1 hsz; rw [hv] at q; exact q : Calls Tryz.prog 10 #[xv e.op e.n e.nm (.slice p e.args.length c)] (w.alloc (.cells #[.int .i64 e.op, .int .i64 e.n, .string e.nm, .slice p e.args.length c] 24)) (ExW.tInt 0 (w.alloc (.cells #[.int .i64 e.op, .int .i64 e.n, .string e.nm, .slice p e.args.length c] 24))))
  have PC0 := Lib.hid (fun W (hW : Below (w.alloc (.cells #[.int .i64 e.op, .int .i64 e.n, .string e.nm, .slice p e.args.length c] 24)).heap.size (w.alloc (.cells #[.int .i64 e.op, .int .i64 e.n, .string e.nm, .slice p e.args.length c] 24)) W) => by
    have q := print_any e _ W (hx1.later hW) hsz (ht.later (W1.then_ hW))
    rw [show prS e = T from by unfold prS; rw [if_neg (by rw [hv]; decide), hT]] at q
    exact q)
  have hp := par_prn hv (by rw [hT]; exact hl)
  rw [hT] at hp
  have P2 := Lib.hid (fun W (hW : Below w.heap.size w W) => by
    have q := parse_any (mb T) W (ht.later hW)
    have e : parS (mb T).data.toList = (e, 0, 0) := hp
    rw [e] at q
    exact q)
  have SC := Lib.hid (fun W v (hW : Below (w.alloc (.cells #[.int .i64 e.op, .int .i64 e.n, .string e.nm, .slice p e.args.length c] 24)).heap.size (w.alloc (.cells #[.int .i64 e.op, .int .i64 e.n, .string e.nm, .slice p e.args.length c] 24)) W) (hy : ExAt W.heap.size W v e) => (by have q := sameR_any e e _ W _ _ hy (hx1.later hW) (Nat.le_refl _) hsz; rw [eqB_refl] at q; exact q : Calls Tryz.prog 12 #[v, xv e.op e.n e.nm (.slice p e.args.length c)] W (tBool true W)))
  have AC := Lib.hid (fun W (hW : Below w.heap.size w W) => awake_any W (ht.later hW))
  have HF1 := Lib.hid F1
  have HW1 := Lib.hid W1
  have b0 := F1.c0
  have b1 := F1.c1
  have b2 := F1.c2
  have b3 := F1.c3
  have t1 : ¬ (16384 : Int) < (T.length : Int) := by omega
  clear hx hx1 W1 F1 hs hsz ht hp hv hl
  show Calls _ _ #[.agg #[.int .i64 e.op, .int .i64 e.n, .string e.nm, .slice p e.args.length c]] w _
  generalize e.op = o at *
  generalize e.n = n at *
  generalize e.nm = s at *
  generalize e.args.length = k at *
  clear hT
  go_enter Tryz.func4, Tryz.ntmps4
  go_wp2_with (first
    | (go_at_call 10; ((with_reducible refine VC.out.mono ?_); rintro e w3 ⟨rfl, hb⟩; have F3 := HF1.out.stay hb; clear b0 b1 b2 b3; have b0 := F3.c0; have b1 := F3.c1; have b2 := F3.c2; have b3 := F3.c3; have Q3 := Lib.hid hb; have HB3 := Lib.hid (HW1.out.then_ hb); have PC := Lib.hid (PC0.out _ hb); clear hb F3))
    | (go_at_call 7; ((with_reducible refine PC.out.mono ?_); rintro e w4 ⟨rfl, hb⟩; have Q4 := Lib.hid (Q3.out.then_ hb); have HB4 := Lib.hid (HB3.out.then_ hb); clear hb))
    | (go_at_call 11; ((with_reducible refine (P2.out _ HB4.out).mono ?_); rintro e w5 ⟨o5, n5, s5, p5, k5, c5, rfl, hb, hf⟩; have hq := hb.alloc hb.size (.cells #[.int .i64 o5, .int .i64 n5, .string s5, .slice p5 k5 c5] 24); have G5 := Four.new w5 (.int .i64 o5) (.int .i64 n5) (.string s5) (.slice p5 k5 c5) 24; have F5 := Lib.hid (fr_alloc hf (.cells #[.int .i64 o5, .int .i64 n5, .string s5, .slice p5 k5 c5] 24)); have Q5 := Lib.hid (Q4.out.then_ hq); have HB5 := Lib.hid (HB4.out.then_ hq); have F4 := HF1.out.stay Q5.out; clear b0 b1 b2 b3 hb hf hq; have b0 := F4.c0; have b1 := F4.c1; have b2 := F4.c2; have b3 := F4.c3; have a0 := G5.c0; have a1 := G5.c1; have a2 := G5.c2; have a3 := G5.c3; have S5 := Lib.hid (SC.out _ _ Q5.out F5.out.at_); clear F4 G5))
    | (go_at_call 12; ((with_reducible refine S5.out.mono ?_); rintro e w6 ⟨rfl, hb⟩; have HB6 := Lib.hid (HB5.out.then_ hb); clear hb))
    | (go_at_call 9; ((with_reducible refine (AC.out _ HB6.out).mono ?_); rintro e w7 ⟨rfl, hb⟩; have HB7 := Lib.hid (HB6.out.then_ hb); clear hb)))
  go_ret
  exact ⟨rfl, HB7.out⟩
set_option maxRecDepth 100000 in
set_option maxHeartbeats 8000000 in
theorem rt_long (e : Ex) (v : Value) (w : World) (hx : ExAt w.heap.size w v e) (hsz : sz e ≤ 2000000) (ht : TabE w) (hv : vld e = 0) {T : List UInt8} (hT : prn e = T) (hl : ¬ T.length ≤ 16384) (hl2 : T.length ≤ 200000000) {x2 : Ex} {l2 r2 : Int} (hp : parS T = (x2, l2, r2)) : Calls Tryz.prog 4 #[v] w fun e w' => e = .returned (.bool true) ∧ Below w.heap.size w w' := by
  obtain ⟨p, c, pl, cl, rfl, hs, _⟩ := hx.form
  have W1 : Below w.heap.size w (w.alloc (.cells #[.int .i64 e.op, .int .i64 e.n, .string e.nm, .slice p e.args.length c] 24)) := (Below.refl _ _).alloc (Nat.le_refl _) _
  have F1 := Four.new w (.int .i64 e.op) (.int .i64 e.n) (.string e.nm) (.slice p e.args.length c) 24
  have hx1 : ExAt (w.alloc (.cells #[.int .i64 e.op, .int .i64 e.n, .string e.nm, .slice p e.args.length c] 24)).heap.size (w.alloc (.cells #[.int .i64 e.op, .int .i64 e.n, .string e.nm, .slice p e.args.length c] 24)) (xv e.op e.n e.nm (.slice p e.args.length c)) e := hx.later W1
  have VC := Lib.hid (by have q := validR_any e _ _ hx1 hsz; rw [hv] at q; exact q : Calls Tryz.prog 10 #[xv e.op e.n e.nm (.slice p e.args.length c)] (w.alloc (.cells #[.int .i64 e.op, .int .i64 e.n, .string e.nm, .slice p e.args.length c] 24)) (ExW.tInt 0 (w.alloc (.cells #[.int .i64 e.op, .int .i64 e.n, .string e.nm, .slice p e.args.length c] 24))))
  have PC0 := Lib.hid (fun W (hW : Below (w.alloc (.cells #[.int .i64 e.op, .int .i64 e.n, .string e.nm, .slice p e.args.length c] 24)).heap.size (w.alloc (.cells #[.int .i64 e.op, .int .i64 e.n, .string e.nm, .slice p e.args.length c] 24)) W) => by
    have q := print_any e _ W (hx1.later hW) hsz (ht.later (W1.then_ hW))
    rw [show prS e = T from by unfold prS; rw [if_neg (by rw [hv]; decide), hT]] at q
    exact q)
  have P2 := Lib.hid (fun W (hW : Below w.heap.size w W) => by
    have q := parse_any (mb T) W (ht.later hW)
    have e : parS (mb T).data.toList = (x2, l2, r2) := hp
    rw [e] at q
    exact q)
  have AC := Lib.hid (fun W (hW : Below w.heap.size w W) => awake_any W (ht.later hW))
  have HF1 := Lib.hid F1
  have HW1 := Lib.hid W1
  have b0 := F1.c0
  have b1 := F1.c1
  have b2 := F1.c2
  have b3 := F1.c3
  have t1 : (16384 : Int) < (T.length : Int) := by omega
  clear hx hx1 W1 F1 hs hsz ht hp hv hl
  show Calls _ _ #[.agg #[.int .i64 e.op, .int .i64 e.n, .string e.nm, .slice p e.args.length c]] w _
  generalize e.op = o at *
  generalize e.n = n at *
  generalize e.nm = s at *
  generalize e.args.length = k at *
  clear hT
  go_enter Tryz.func4, Tryz.ntmps4
  go_wp2_with (first
    | (go_at_call 10; ((with_reducible refine VC.out.mono ?_); rintro e w3 ⟨rfl, hb⟩; have F3 := HF1.out.stay hb; clear b0 b1 b2 b3; have b0 := F3.c0; have b1 := F3.c1; have b2 := F3.c2; have b3 := F3.c3; have HB3 := Lib.hid (HW1.out.then_ hb); have PC := Lib.hid (PC0.out _ hb); clear hb F3))
    | (go_at_call 7; ((with_reducible refine PC.out.mono ?_); rintro e w4 ⟨rfl, hb⟩; have HB4 := Lib.hid (HB3.out.then_ hb); clear hb))
    | (go_at_call 11; ((with_reducible refine (P2.out _ HB4.out).mono ?_); rintro e w5 ⟨o5, n5, s5, p5, k5, c5, rfl, hb, hf⟩; have HB5 := Lib.hid (HB4.out.then_ (hb.alloc hb.size (.cells #[.int .i64 o5, .int .i64 n5, .string s5, .slice p5 k5 c5] 24))); clear hb hf))
    | (go_at_call 9; ((with_reducible refine (AC.out _ HB5.out).mono ?_); rintro e w7 ⟨rfl, hb⟩; have HB7 := Lib.hid (HB5.out.then_ hb); clear hb)))
  go_ret
  exact ⟨rfl, HB7.out⟩
theorem roundTrips_any (e : Ex) (v : Value) (w : World) (hx : ExAt w.heap.size w v e) (hsz : sz e ≤ 2000000) (ht : TabE w) : Calls Tryz.prog 4 #[v] w fun e w' => e = .returned (.bool true) ∧ Below w.heap.size w w' := by
  by_cases hv : vld e = 0
  · have hpl := prn_len e ((vld_zero e).1 hv).1
    unfold Bd lnP at hpl
    by_cases hl : (prn e).length ≤ 16384
    · exact rt_short e v w hx hsz ht hv rfl hl
    · exact rt_long e v w hx hsz ht hv (x2 := (parS (prn e)).1) rfl hl (by show (txP (bare e)).length ≤ _; omega) rfl
  · exact rt_bad e v w hx hsz ht hv
end Go.Proofs.YtlnomiiphlbamaaGreatDoor.EtW
namespace Go.Proofs.YtlnomiiphlbamaaGreatDoor.exprtextRoundTripsCard
open Go Go.ChangeShapes Go.WideShapes Go.ChangeAt Go.RowKit Go.Proofs.YtlnomiiphlbamaaGreatDoor.EtW

set_option maxRecDepth 100000 in
theorem contract (H : Type) (enc : TypeId × Value → H) (W : World) (base : Nat) (args : Array Value) (ds gs : List (DataW H)) (before : List MemPlace)
    (hval0 : ∀ (j : Nat) t v, Tryz.f4.params[j]? = some t → args[j]? = some v → Value.okWide Tryz.prog W .any base t v)
    (hW : DataW.Whole enc Tryz.prog Tryz.f4.params.toList Rows.exprtextRoundTripsSpec.vars false W args.toList ds gs before)
    (hsz0 : (DataW.weightsEach Tryz.prog (Tryz.f4.params.toList ++ Rows.exprtextRoundTripsSpec.plain.varTypes Tryz.prog) (ds ++ gs)).all (· ≤ reachBytes) = true) (hL : laidMetH Tryz.prog laidAll W) (hk : Rows.uptoSmall H (ds ++ gs) = true) :
    Calls Tryz.prog 4 args W fun e W' => ∃ v, e = .returned v ∧ Rows.exprtextRoundTripsSpec.post enc Tryz.prog Tryz.f4 false true false false W args v W' := by
  have hval : ∀ (j : Nat) t v, Tryz.f4.params[j]? = some t → args[j]? = some v → Value.okWide Tryz.prog W .any base t v := hval0
  have _hsz : (DataW.weightsEach Tryz.prog (Tryz.f4.params.toList ++ Rows.exprtextRoundTripsSpec.plain.varTypes Tryz.prog) (ds ++ gs)).all (· ≤ reachBytes) = true := hsz0
  have hW' := hW
  obtain ⟨p, q, hA0, hV, rfl, _, _⟩ := hW
  have hA : DataW.TrodAll enc Tryz.prog W 0 (fun _ => true) true Tryz.f4.params.toList args.toList ds p := hA0
  rw [Tryz.params4] at hA hval _hsz
  obtain ⟨v0, vs0, d0, ds0, p0, q0, hargs, rfl, rfl, h0, r0⟩ := trodAll_cons hA
  obtain ⟨rfl, rfl, rfl⟩ := trodAll_nil r0
  obtain rfl : args = #[v0] := by cases args; simp_all
  obtain ⟨rfl, rfl⟩ := trodVars_none hV
  have hsz := _hsz
  have hk0 := h0
  have hlt0 : ∀ x ∈ p0, x.block < W.heap.size := fun x hx => hW'.lt x (by simp [hx])
  have hw0 : ∀ n ∈ d0.weights Tryz.prog 24, n ≤ 140737488351232 := fun n hn => reach_le (List.all_eq_true.1 hsz n (DataW.weights_mem_each (j := 0) rfl rfl n hn))
  obtain ⟨e0, ea0, ez0⟩ := open_expr (hval 0 24 v0 rfl rfl) h0 hlt0 hw0
  have hB := bulk_all hk
  simp only [Rows.uptoBulkAll, List.append_nil] at hB
  clear hA0 hval0
  simp only [List.append_nil] at hW'
  refine (roundTrips_any e0 v0 W ea0 (by omega) (tab_of_laid hL)).mono fun e W' ⟨he, hnx⟩ => ?_
  subst he
  exact ⟨_, rfl, _, _, _, [], (p0 ++ []), [], hW', trodAll_cons_mk (shut_bool Tryz.underlying4 _) trodAll_mk0, (trodAll_cons_mk (Below.trod laidOut (by kernel_rfl) (of_decide_eq_true (by kernel_rfl)) hk0 hnx hlt0) trodAll_mk0), rfl, hnx.frame _, fun h => by cases h⟩
theorem reads (os : Os) {H : Type} (enc : TypeId × Value → H) : ∃ places, DataW.whole enc Tryz.prog ((World.doorLaid Tryz.prog 400 os).forCall (fun _ _ => 0) ⟨#[], #[.agg #[.int .i64 0, .int .i64 0, .string ⟨#[]⟩, .slice none 0 0]], []⟩).memory Tryz.f4.params.toList Rows.exprtextRoundTripsSpec.vars false (#[.agg #[.int .i64 0, .int .i64 0, .string ⟨#[]⟩, .slice none 0 0]] : Array Value).toList 8 = some ([.agg [.lit (.int .i64 0), .lit (.int .i64 0), .lit (.string []), .nil]], [], places) :=
  ⟨[], by kernel_rfl⟩
set_option maxRecDepth 100000 in
theorem lifted (os : Os) (started : os.Started) (H : Type) (enc : TypeId × Value → H) (F : Stop.Interp) :
    ReturnsInHanded {} Tryz.checked os 4 .any ((Rows.OpenSpec.upto Rows.exprtextRoundTripsSpec).preRow enc Tryz.prog Tryz.f4 Rows.exprtextRoundTripsUptoRow.domain false Rows.exprtextRoundTripsUptoRow.laid) (((Rows.OpenSpec.upto Rows.exprtextRoundTripsSpec).at F).post enc Tryz.prog Tryz.f4 false true false false) := by
  obtain ⟨places, hx⟩ := reads os enc
  refine returnsInHanded_of_row (C := Tryz.checked) (s := (Rows.OpenSpec.upto Rows.exprtextRoundTripsSpec)) own started (by kernel_rfl) Tryz.func4
    (witness_row_atRef (enc := enc) (C := Tryz.checked) false (World.doorLaid Tryz.prog 400 os) #[.agg #[.int .i64 0, .int .i64 0, .string ⟨#[]⟩, .slice none 0 0]] rfl (by kernel_rfl) (by kernel_rfl) (by kernel_rfl)
      (OpenSpec.preRow_of_cond 8 hx (by kernel_rfl) (fun k hk => by cases hk; kernel_rfl) (by kernel_rfl) (door_met os _))) ?_
  intro W base args ds gs before hval hW _ hcond hsz hL _ _
  exact contract H enc W base args ds gs before hval hW hsz hL (hcond _ rfl)

/-- The row: the call returns true, and each argument reads afterwards as it read before. -/
theorem said : Rows.ExprtextRoundTripsUptoSaid :=
  OpenClaim.holds_of_cond 4 Tryz.f4 rfl rfl rfl rfl rfl rfl rfl ⟨rfl, rfl, rfl, rfl, rfl⟩ rfl rfl rfl rfl rfl (by kernel_rfl) Tryz.func4 (by kernel_rfl)
    (of_decide_eq_true (by kernel_rfl)) (by unfold Func.isWrapper; first | (rw [if_pos (by decide +kernel)]; kernel_rfl) | (rw [if_neg (by decide +kernel)]; exact ⟨rfl, rfl⟩))
    (fun os started H enc _ F => by rw [OpenClaim.pre_eq_preRow]; exact lifted os started H enc F)

/-- No parameter wants a stand-in; what the program's looks are. -/
theorem plain (f : FuncId) (fn : Func) (hf : Tryz.pinned.checked.prog.funcNamed "testbench/testbenchlaw09.ExprtextRoundTrips" = some f) (hfn : Tryz.pinned.checked.prog.funcs[f]? = some fn) :
    true = Tryz.pinned.checked.prog.looks [] ∧ ∀ (j : Nat) t, fn.params[j]? = some t → Tryz.pinned.checked.prog.wantsStandIn t = false := by
  obtain rfl : f = 4 := Option.some.inj ((show Tryz.prog.funcNamed "testbench/testbenchlaw09.ExprtextRoundTrips" = some 4 by kernel_rfl).symm.trans hf) |>.symm
  obtain rfl : fn = Tryz.f4 := (Option.some.inj (Tryz.func4.symm.trans hfn)).symm
  refine ⟨by kernel_rfl, fun j t ht => ?_⟩
  rw [Tryz.params4] at ht
  have hm : t ∈ [24] := by simpa using Array.mem_of_getElem? ht
  have hall : ([24].all fun u => !Tryz.prog.wantsStandIn u) = true := by kernel_rfl
  exact (show Tryz.prog.wantsStandIn t = false by simpa using List.all_eq_true.1 hall t hm)

/-- The tied card. -/
theorem card : Rows.ExprtextRoundTripsUptoCardSaid :=
  Claim7.holds_tied_plain_at .later [] _ _ _ _ said (fun _ h => by cases h) (by kernel_rfl) (fun _ h => by cases h) exprtextRoundTripsUpto_row_tie rfl ⟨rfl, rfl⟩ (by kernel_rfl) rfl plain (by kernel_rfl)
end Go.Proofs.YtlnomiiphlbamaaGreatDoor.exprtextRoundTripsCard
