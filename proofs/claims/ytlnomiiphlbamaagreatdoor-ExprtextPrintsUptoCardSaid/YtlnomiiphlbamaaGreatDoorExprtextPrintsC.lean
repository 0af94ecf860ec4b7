/-
  ExprtextPrints returns true for every expression, and the argument reads afterwards as it read before.
  Conditions: the package-level variables that the row lists hold what the program's own initialisers lay (the card ties them); what the call reads is together of bulk at most 1048576.
  An expression that is an argument, opened: the tree that its cells hold, of a size below its bulk.
  What the reference's decimal, sign, prefix, level and Split return.
  What the reference's plain and text return, shape by shape.
  What the reference's plain returns at ranges; its Print; ExprtextPrints.
-/
import Derived.Test.YtlnomiiphlbamaaGreatDoorEtLaid
import Derived.Test.YtlnomiiphlbamaaGreatDoorExMem
import Derived.Test.YtlnomiiphlbamaaGreatDoorEtPrG
import Derived.Test.YtlnomiiphlbamaaGreatDoorExRefB
import Derived.Lib.SlBytesRow
import Derived.Deep.RegionWith
import Derived.Test.YtlnomiiphlbamaaGreatDoorEtCan
import Derived.Test.YtlnomiiphlbamaaGreatDoorExOver
namespace Go.Proofs.YtlnomiiphlbamaaGreatDoor.EtW
open Go Go.RowKit Go.ChangeShapes Go.WideShapes Go.ChangeAt Go.Proofs.YtlnomiiphlbamaaGreatDoor.LexM Go.Proofs.YtlnomiiphlbamaaGreatDoor.LexW Go.Proofs.YtlnomiiphlbamaaGreatDoor.ExM Go.Proofs.YtlnomiiphlbamaaGreatDoor.ExW

theorem bulk_all {H : Type} {l : List (DataW H)} (h : Rows.uptoSmall H l = true) : Rows.uptoBulkAll l ≤ 1048576 := of_decide_eq_true h
theorem cellsX : Tryz.prog.cellsOf 3 = 1 ∧ Tryz.prog.cellsOf 9 = 1 ∧ Tryz.prog.cellsOf 24 = 4 ∧ Tryz.prog.cellsOf 22 = 1 ∧ Tryz.prog.bytesOf 24 = 56 := by
  refine ⟨?_, ?_, ?_, ?_, ?_⟩ <;> kernel_rfl
theorem add_at (b off k : Nat) : (⟨b, off, none⟩ : Addr).add k = ⟨b, off + k, none⟩ := by
  unfold Addr.add
  by_cases h : k = 0
  · subst h; simp
  · simp [h]
theorem pick_list {α : Type} {Q : Nat → α → Prop} : ∀ n : Nat, (∀ i, i < n → ∃ t, Q i t) → ∃ l : List α, l.length = n ∧ ∀ i t, l[i]? = some t → Q i t
  | 0, _ => ⟨[], rfl, fun i t h => by simp at h⟩
  | n + 1, h => by
    obtain ⟨l, hl, hq⟩ := pick_list n (fun i hi => h i (by omega))
    obtain ⟨t, ht⟩ := h n (by omega)
    refine ⟨l ++ [t], by simp [hl], fun i u hu => ?_⟩
    by_cases hi : i < n
    · rw [List.getElem?_append_left (by omega)] at hu
      exact hq i u hu
    · have hil : i < (l ++ [t]).length := (List.getElem?_eq_some_iff.1 hu).1
      have e : i = n := by simp [hl] at hil; omega
      subst e
      rw [List.getElem?_append_right (by omega), hl] at hu
      have : t = u := by simpa using hu
      rw [← this]; exact ht
theorem weights_in {H : Type} {P : Program} {e : TypeId} : ∀ {l : List (DataW H)} {d : DataW H}, d ∈ l → ∀ n ∈ d.weights P e, n ∈ DataW.weightsAll P e l
  | d' :: r, d, hd, n, hn => by
    simp only [DataW.weightsAll, List.mem_append]
    rcases List.mem_cons.1 hd with rfl | h
    · exact .inl hn
    · exact .inr (weights_in h n hn)
/-- Four cells in a row that is read. -/
theorem four_of {W : World} {a : Addr} {i : Nat} {c0 c1 c2 c3 : Value} (h : ∀ j, j < 4 → W.cell? ((a.add (i * 4)).add j) = ([c0, c1, c2, c3] : List Value)[j]?) {b off : Nat} (e : a = ⟨b, off, none⟩) :
    W.cell? ⟨b, off + i * 4, none⟩ = some c0 ∧ W.cell? ⟨b, off + i * 4 + 1, none⟩ = some c1 ∧ W.cell? ⟨b, off + i * 4 + 2, none⟩ = some c2 ∧ W.cell? ⟨b, off + i * 4 + 3, none⟩ = some c3 := by
  subst e
  simp only [add_at] at h
  exact ⟨h 0 (by omega), h 1 (by omega), h 2 (by omega), h 3 (by omega)⟩
theorem szs_bulk {H : Type} : ∀ (l : List Ex) (r : List (DataW H)), l.length = r.length → (∀ (i : Nat) (a : Ex) (y : DataW H), l[i]? = some a → r[i]? = some y → sz a ≤ Rows.uptoBulk y) → szs l ≤ Rows.uptoBulkAll r
  | [], [], _, _ => by rw [szs_nil]; omega
  | a :: l, y :: r, h, k => by
    have h1 := k 0 a y rfl rfl
    have h2 := szs_bulk l r (by simpa using h) (fun i b z hb hz => k (i + 1) b z hb hz)
    rw [szs_cons, Rows.uptoBulkAll]
    omega
set_option maxRecDepth 100000 in
/-- An expression in the cells that are read. -/
theorem open_ex {H : Type} {enc : TypeId × Value → H} {W : World} : ∀ (fuel : Nat) (cs : List Value) (x : DataW H × List MemPlace), cs.length = 4 →
    DataW.trod enc Tryz.prog W 0 (fun _ => true) true fuel 24 cs = some x → (∀ y ∈ x.2, y.block < W.heap.size) → (∀ n ∈ x.1.weights Tryz.prog 24, n ≤ 140737488351232) →
    ∃ (e : Ex) (p : Option Addr) (cap : Nat), cs = [.int .i64 e.op, .int .i64 e.n, .string e.nm, .slice p e.args.length cap] ∧ ExAt W.heap.size W (xv e.op e.n e.nm (.slice p e.args.length cap)) e ∧ sz e ≤ Rows.uptoBulk x.1 := by
  intro fuel
  induction fuel using Nat.strongRecOn with
  | _ fuel ih =>
  intro cs x hl h hlt hw
  obtain ⟨k1, k2, k3, k5, k6⟩ := cellsX
  obtain ⟨xs, n, rfl, rfl, _, hlen, hfd⟩ := DataW.trod_struct Tryz.underlying24 h
  match cs, hl with
  | [c0, c1, c2, c3], _ =>
    match xs, hlen with
    | [y0, y1, y2, y3], _ =>
      have h0 : DataW.trod enc Tryz.prog W 0 (fun _ => true) true n 3 ([c0, c1, c2, c3].take (Tryz.prog.cellsOf 3)) = some y0 := hfd 0 _ rfl
      rw [k1, show [c0, c1, c2, c3].take 1 = [c0] from rfl] at h0
      have h1 : DataW.trod enc Tryz.prog W 0 (fun _ => true) true n 3 ([c1, c2, c3].take (Tryz.prog.cellsOf 3)) = some y1 := hfd 1 _ rfl
      rw [k1, show [c1, c2, c3].take 1 = [c1] from rfl] at h1
      have h2 : DataW.trod enc Tryz.prog W 0 (fun _ => true) true n 9 ([c2, c3].take (Tryz.prog.cellsOf 9)) = some y2 := hfd 2 _ rfl
      rw [k2, show [c2, c3].take 1 = [c2] from rfl] at h2
      have h3 : DataW.trod enc Tryz.prog W 0 (fun _ => true) true n 22 ([c3].take (Tryz.prog.cellsOf 22)) = some y3 := hfd 3 _ rfl
      rw [k5, show [c3].take 1 = [c3] from rfl] at h3
      obtain ⟨m0, e0, _, w0⟩ := DataW.trod_int Tryz.underlying3 h0
      obtain ⟨m1, e1, _, w1⟩ := DataW.trod_int Tryz.underlying3 h1
      obtain ⟨s2, e2, rfl, w2⟩ := DataW.trod_string Tryz.underlying9 h2
      obtain rfl : c0 = .int .i64 m0 := by simpa using e0
      obtain rfl : c1 = .int .i64 m1 := by simpa using e1
      obtain rfl : c2 = .string s2 := by simpa using e2
      have hwS : ∀ q ∈ (DataW.lit (Lit.string s2.data.toList) : DataW H).weights Tryz.prog 9, q ≤ 140737488351232 := fun q hq => hw q (by
        simp only [DataW.weights, Tryz.underlying24]
        exact DataW.weights_mem_each (j := 2) rfl rfl q hq)
      have hwA : ∀ q ∈ y3.1.weights Tryz.prog 22, q ≤ 140737488351232 := fun q hq => hw q (by
        simp only [DataW.weights, Tryz.underlying24]
        exact DataW.weights_mem_each (j := 3) rfl rfl q hq)
      have hs2 : s2.size ≤ 140737488351232 := by
        have := hwS s2.data.toList.length (by simp [DataW.weights])
        rw [len_data] at this; exact this
      rcases DataW.trod_slice Tryz.underlying22 h3 with ⟨hcs, _⟩ | ⟨a, len, cap, elems, rest, m, rfl, hcs, rfl, _, hlc, _, hel, hE, _, _⟩
      · obtain rfl : c3 = .slice none 0 0 := by simpa using hcs
        exact ⟨.mk m0 m1 s2 [], none, 0, rfl, ExAt.mk (ks := []) (fun _ => none) (fun _ => 0) hs2 (by simp) (by simp) (fun h => by simp at h) (fun i a hi => by simp at hi), by rw [sz_mk, szs_nil]; simp only [Rows.uptoBulk]; omega⟩
      · obtain rfl : c3 = .slice (some a) len cap := by simpa using hcs
        rw [k3] at hE hlt
        have hbytes : len ≤ 140737488351232 := by
          have := hwA ((elems.length + rest.length) * 56) (by simp only [DataW.weights, Tryz.underlying22, k6, List.length_map]; simp)
          omega
        have each : ∀ i, i < len → ∃ t : Ex × Option Addr × Nat, (∀ j, j < 4 → W.cell? ((a.add (i * 4)).add j) = ([.int .i64 t.1.op, .int .i64 t.1.n, .string t.1.nm, .slice t.2.1 t.1.args.length t.2.2] : List Value)[j]?) ∧ ExAt W.heap.size W (xv t.1.op t.1.n t.1.nm (.slice t.2.1 t.1.args.length t.2.2)) t.1 ∧ ∀ y, elems[i]? = some y → sz t.1 ≤ Rows.uptoBulk y.1 := fun i hi => by
          have hi2 : i < elems.length := by omega
          have hb := hE i hi
          rw [List.getElem?_eq_getElem hi2, Option.bind_eq_some_iff] at hb
          obtain ⟨cs', hc', ht'⟩ := hb
          obtain ⟨_, hcl, hat⟩ := World.cells?_some hc'
          have hmem : elems[i] ∈ elems := List.getElem_mem hi2
          obtain ⟨e', p', cap', rfl, hx', hz'⟩ := ih m (by omega) cs' elems[i] hcl ht'
            (fun y hy => hlt y (by simp only [List.flatMap_cons, List.mem_append]; exact .inr (.inr (.inr (.inl (.inr (List.mem_flatMap.2 ⟨_, List.mem_append.2 (.inl hmem), hy⟩))))))) 
            (fun q hq => hwA q (by
              simp only [DataW.weights, Tryz.underlying22, List.mem_cons, List.mem_append]
              exact .inr (.inl (weights_in (List.mem_map.2 ⟨_, hmem, rfl⟩) q hq))))
          exact ⟨(e', p', cap'), hat, hx', fun y hy => by rw [List.getElem?_eq_getElem hi2] at hy; cases hy; exact hz'⟩
        obtain ⟨l, hll, hq⟩ := pick_list len each
        have hkl : (l.map (·.1)).length = len := by rw [List.length_map, hll]
        refine ⟨.mk m0 m1 s2 (l.map (·.1)), some a, cap, by simp only [Ex.op, Ex.n, Ex.nm, Ex.args, hkl], ?_, ?_⟩
        rotate_left
        · have q := szs_bulk (l.map (·.1)) (elems.map (·.1)) (by simp [hll, hel]) (fun i a y ha hy => by
            rw [List.getElem?_map] at ha hy
            obtain ⟨t, ht, rfl⟩ := Option.map_eq_some_iff.1 ha
            obtain ⟨u, hu, rfl⟩ := Option.map_eq_some_iff.1 hy
            exact (hq i t ht).2.2 u hu)
          have e1 : ∀ (A B C D : DataW H), Rows.uptoBulk (.agg [A, B, C, D]) = Rows.uptoBulk A + (Rows.uptoBulk B + (Rows.uptoBulk C + (Rows.uptoBulk D + 0))) + 1 := fun _ _ _ _ => by simp only [Rows.uptoBulk, Rows.uptoBulkAll]
          have e2 : ∀ (E R : List (DataW H)), Rows.uptoBulk (.slice E R) = Rows.uptoBulkAll E + Rows.uptoBulkAll R + 1 := fun _ _ => by simp only [Rows.uptoBulk]
          rw [sz_mk]
          simp only [List.map_cons, List.map_nil]
          rw [e1, e2]
          omega
        simp only [Ex.op, Ex.n, Ex.nm, Ex.args]
        have get : ∀ (i : Nat) (e' : Ex), (l.map (·.1))[i]? = some e' → ∃ t : Ex × Option Addr × Nat, l[i]? = some t ∧ t.1 = e' := fun i e' he => by
          rw [List.getElem?_map] at he
          obtain ⟨t, ht, rfl⟩ := Option.map_eq_some_iff.1 he
          exact ⟨t, ht, rfl⟩
        refine ExAt.mk (fun i => ((l[i]?).map (·.2.1)).getD none) (fun i => ((l[i]?).map (·.2.2)).getD 0) hs2 (by omega) (by omega) (fun h0 => ?_) (fun i e' he => ?_)
        · obtain ⟨b, off, spot⟩ := a
          have hspot : spot = none := by
            obtain ⟨t0, ht0⟩ : ∃ t, l[0]? = some t := ⟨_, List.getElem?_eq_getElem (by omega)⟩
            have := (hq 0 t0 ht0).1 0 (by omega)
            simpa [Addr.add] using World.cell?_spot this
          subst hspot
          refine ⟨b, off, rfl, hlt (.cell b off) (by
            simp only [List.flatMap_cons, List.mem_append]
            exact .inr (.inr (.inr (.inl (.inl (MemPlace.mem_row.2 ⟨0, by omega, by simp⟩)))))), fun i e' he => ?_⟩
          obtain ⟨t, ht, rfl⟩ := get i e' he
          simp only [ht]
          exact four_of (hq i t ht).1 rfl
        · obtain ⟨t, ht, rfl⟩ := get i e' he
          simp only [ht]
          exact (hq i t ht).2.1
set_option maxRecDepth 100000 in
theorem open_expr {H : Type} {enc : TypeId × Value → H} {W : World} {r : Reach} {b0 : Nat} {v : Value} {d : DataW H} {p : List MemPlace} (hval : Value.okWide Tryz.prog W r b0 24 v)
    (h : DataW.Trod enc Tryz.prog W 0 (fun _ => true) true 24 v d p) (hlt : ∀ x ∈ p, x.block < W.heap.size) (hw : ∀ n ∈ d.weights Tryz.prog 24, n ≤ 140737488351232) : ∃ e : Ex, ExAt W.heap.size W v e ∧ sz e ≤ Rows.uptoBulk d := by
  obtain ⟨cs, rfl, hcs⟩ := okWide_struct Tryz.underlying24 hval
  rw [cellsX.2.2.1] at hcs
  obtain ⟨fuel, hf⟩ := h
  obtain ⟨e, q, cap, he, hx, hz⟩ := open_ex fuel cs.toList (d, p) (by simpa using hcs) (by simpa [Value.cells] using hf) hlt hw
  have hc : cs = #[.int .i64 e.op, .int .i64 e.n, .string e.nm, .slice q e.args.length cap] := by
    apply Array.ext'
    rw [he]
  rw [hc]
  exact ⟨e, hx, hz⟩
end Go.Proofs.YtlnomiiphlbamaaGreatDoor.EtW
namespace Go.Proofs.YtlnomiiphlbamaaGreatDoor.EtR
open Go Go.RowKit Go.Proofs.YtlnomiiphlbamaaGreatDoor.NumM Go.Proofs.YtlnomiiphlbamaaGreatDoor.LexW Go.Proofs.YtlnomiiphlbamaaGreatDoor.LexM Go.Proofs.YtlnomiiphlbamaaGreatDoor.ExM Go.Proofs.YtlnomiiphlbamaaGreatDoor.ExW Go.Proofs.YtlnomiiphlbamaaGreatDoor.EtM Go.Proofs.YtlnomiiphlbamaaGreatDoor.EtW
def numP (n : Int) : List UInt8 := Lib.itoa n ++ [59]

theorem rets1 {a b : ByteArray} (h : a = b) : Ending.returned (.string a) = .returned (.string b) := by rw [h]

theorem dec_len (u k : Nat) (h : u < 10 ^ (k + 1)) : (Lib.decDigits u).length ≤ k + 1 := by
  induction k generalizing u with
  | zero => rw [dec_small (by omega)]; simp
  | succ k ih =>
    by_cases h1 : u < 10
    · rw [dec_small h1]; simp
    · rw [dec_big h1, List.length_append]
      have := ih (u / 10) (by rw [Nat.pow_succ] at h; omega)
      simp only [List.length_cons, List.length_nil]; omega
theorem itoa_len {n : Int} (h0 : -9223372036854775808 ≤ n) (h1 : n ≤ 9223372036854775807) : (Lib.itoa n).length ≤ 20 := by
  unfold Lib.itoa
  by_cases h : n < 0
  · rw [if_pos h, List.length_cons]
    have := dec_len n.natAbs 18 (by omega)
    omega
  · rw [if_neg h]
    have := dec_len n.toNat 18 (by omega)
    omega
theorem alloc_size (w : World) (o : Obj) : (w.alloc o).heap.size = w.heap.size + 1 := Go.Deep.nblk_alloc _ _

/-- The last digit. -/
def dc (u : Nat) : UInt8 := UInt8.ofNat (48 + u % 10)
theorem dec_last {u : Nat} (h : ¬ u < 10) : Lib.decDigits u = Lib.decDigits (u / 10) ++ [dc u] := dec_big h
theorem dec_first {u : Nat} (h : u < 10) : Lib.decDigits u = [dc u] := by
  rw [dec_small h, dc, show u % 10 = u by omega]
theorem conv_one (u : Nat) (x : Int) (hx : x = 48 + (u : Int) % 10) (wr : World) :
    Sem.run Tryz.prog (convert 107 9 (.slice (some ⟨wr.heap.size, 0, none⟩) 1 1)) (wr.alloc (.cells #[.int .u8 x] 5)) =
      .ok (.string ⟨#[dc u]⟩) (wr.alloc (.cells #[.int .u8 x] 5)) := by
  subst hx
  have hb : Lib.Bytes (wr.alloc (.cells #[.int .u8 (48 + (u : Int) % 10)] 5)) wr.heap.size 0 ⟨#[dc u]⟩ := by
    intro i hi
    obtain rfl : i = 0 := by have : i < 1 := hi; omega
    have e : ((48 + u % 10 : Nat) : Int) = 48 + (u : Int) % 10 := by omega
    have t : (dc u).toNat = 48 + u % 10 := dig_toNat (by omega)
    show _ = some (Value.int .u8 ((dc u).toNat : Int))
    rw [t, e]
    simp
  exact Lib.run_convert_whole (P := Tryz.prog) _ 107 5 9 Tryz.underlying107 Tryz.underlying5 Tryz.underlying9 wr.heap.size 0 ⟨#[dc u]⟩ hb 1
theorem conv_later (u : Nat) (x : Int) (hx : x = 48 + (u : Int) % 10) {wr w1 : World} (h : Below (wr.alloc (.cells #[.int .u8 x] 5)).heap.size (wr.alloc (.cells #[.int .u8 x] 5)) w1) :
    Sem.run Tryz.prog (convert 107 9 (.slice (some ⟨wr.heap.size, 0, none⟩) 1 1)) w1 = .ok (.string ⟨#[dc u]⟩) w1 := by
  subst hx
  have hb : Lib.Bytes w1 wr.heap.size 0 ⟨#[dc u]⟩ := by
    intro i hi
    obtain rfl : i = 0 := by have : i < 1 := hi; omega
    have e : ((48 + u % 10 : Nat) : Int) = 48 + (u : Int) % 10 := by omega
    have t : (dc u).toNat = 48 + u % 10 := dig_toNat (by omega)
    show w1.cell? ⟨wr.heap.size, 0 + 0, none⟩ = some (Value.int .u8 ((dc u).toNat : Int))
    rw [t, e, h.cell (p := ⟨wr.heap.size, 0 + 0, none⟩) (by show wr.heap.size < _; rw [alloc_size]; omega)]
    simp
  exact Lib.run_convert_whole (P := Tryz.prog) _ 107 5 9 Tryz.underlying107 Tryz.underlying5 Tryz.underlying9 wr.heap.size 0 ⟨#[dc u]⟩ hb 1
theorem dc_wrap (u : Nat) : IntKind.u8.wrap (IntKind.i64.wrap (48 + (u : Int).tmod 10)) = 48 + (u : Int) % 10 := by
  rw [IntKind.wrap_i64, IntKind.wrap_u8, Int.tmod_eq_emod_of_nonneg (by omega)]; omega
theorem dec_len20 {u : Nat} (h : u ≤ 9223372036854775808) : (bs (Lib.decDigits u)).size ≤ 20 := by
  rw [← len_data]
  have := dec_len u 18 (by omega)
  show (Lib.decDigits u).length ≤ 20
  omega
set_option maxRecDepth 100000 in
set_option maxHeartbeats 1000000 in
theorem refDigits_any (u : Nat) : ∀ (w : World), u ≤ 9223372036854775808 →
    Calls Tryz.prog 123 #[.int .i64 (-(u : Int))] w fun e w' => e = .returned (.string (bs (Lib.decDigits u))) ∧ Below w.heap.size w w' := by
  induction u using Nat.strongRecOn with
  | _ u ih =>
    intro w hu
    by_cases h : u < 10
    · have F := Lib.hid (dec_first h)
      have hcv := conv_one u (48 + (u : Int)) (by omega)
      go_enter Tryz.func123, Tryz.ntmps123
      go_wp2_with (fail)
      go_ret
      exact ⟨rets1 (by rw [F.out]), (Below.refl _ _).alloc (Nat.le_refl _) _⟩
    · have F := Lib.hid (dec_last h)
      have ih' := fun w => ih (u / 10) (by omega) w (by omega)
      rw [show (-((u / 10 : Nat) : Int)) = IntKind.i64.wrap (-((u : Int) / 10)) by rw [IntKind.wrap_i64]; omega] at ih'
      have IH := Lib.hid ih'
      have L := dec_len20 (u := u / 10) (by omega)
      have L2 : (Lib.decDigits (u / 10)).length ≤ 20 := by rw [← len_data] at L; exact L
      have hcv := conv_one u _ (dc_wrap u)
      have DW := Lib.hid (dc_wrap u)
      have hcv4 := conv_later (wr := w) (w1 := (w.alloc (.cells #[.int .u8 (IntKind.u8.wrap (IntKind.i64.wrap (48 + (u : Int).tmod 10)))] 5)).drew) u _ (dc_wrap u) ((Below.refl _ _).drew)
      clear ih ih'
      go_enter Tryz.func123, Tryz.ntmps123
      go_wp2_with (fail)
      go_region_with (go_at_call 123; refine (IH.out _).mono ?_; rintro e w1 ⟨rfl, hb1⟩; first | (have hcv3 : Sem.run Tryz.prog (convert 107 9 (.slice (some ⟨w.heap.size, 0, none⟩) 1 1)) w1 = .ok (.string ⟨#[dc u]⟩) w1 := conv_later (wr := w) u _ DW.out (((Below.refl _ _).drew).trans hb1)) | skip)
      all_goals go_wp2
      all_goals go_ret
      all_goals
        have e : bs (Lib.decDigits (u / 10)) ++ ⟨#[dc u]⟩ = bs (Lib.decDigits u) := bs_inj (by rw [F.out]; simp)
        first
        | exact ⟨rets1 e, ((Below.refl _ _).drew.trans hb1).alloc hb1.size _⟩
        | exact ⟨rets1 e, (((Below.refl _ _).alloc (Nat.le_refl _) _).drew).trans (hb1.mono (by show w.heap.size ≤ (w.alloc _).heap.size; rw [alloc_size]; omega))⟩

set_option maxRecDepth 100000 in
set_option maxHeartbeats 400000 in
theorem refDecimal_any (n : Int) (w : World) (h0 : -9223372036854775808 ≤ n) (h1 : n ≤ 9223372036854775807) :
    Calls Tryz.prog 106 #[.int .i64 n] w fun e w' => e = .returned (.string (bs (Lib.itoa n))) ∧ Below w.heap.size w w' := by
  by_cases h : n < 0
  · have F : Hid (bs (Lib.itoa n) = ⟨#[45]⟩ ++ bs (Lib.decDigits n.natAbs)) := Lib.hid (bs_inj (by unfold Lib.itoa; rw [if_pos h]; simp))
    have hd := refDigits_any n.natAbs w (by omega)
    rw [show -(n.natAbs : Int) = n by omega] at hd
    have HD := Lib.hid hd
    have L := dec_len20 (u := n.natAbs) (by omega)
    have L2 : (Lib.decDigits n.natAbs).length ≤ 20 := by rw [← len_data] at L; exact L
    clear hd
    go_enter Tryz.func106, Tryz.ntmps106
    go_wp2_with (first | (go_at_call 123; refine HD.out.mono ?_; rintro e w1 ⟨rfl, hb1⟩) | go_in)
    go_ret
    exact ⟨rets1 F.out.symm, by assumption⟩
  · have F : Hid (bs (Lib.itoa n) = bs (Lib.decDigits n.natAbs)) := Lib.hid (by unfold Lib.itoa; rw [if_neg h, show n.toNat = n.natAbs by omega])
    have hd := refDigits_any n.natAbs w (by omega)
    rw [show -(n.natAbs : Int) = -n by omega] at hd
    have HD := Lib.hid hd
    clear hd
    go_enter Tryz.func106, Tryz.ntmps106
    go_wp2_with (first | (go_at_call 123; refine HD.out.mono ?_; rintro e w1 ⟨rfl, hb1⟩) | go_in)
    go_ret
    exact ⟨rets1 F.out.symm, by assumption⟩
theorem itoa_size {n : Int} (h0 : -9223372036854775808 ≤ n) (h1 : n ≤ 9223372036854775807) : (bs (Lib.itoa n)).size ≤ 20 := by
  rw [← len_data]; exact itoa_len h0 h1
set_option maxRecDepth 100000 in
set_option maxHeartbeats 400000 in
theorem refNumber_any (n : Int) (w : World) (h0 : -9223372036854775808 ≤ n) (h1 : n ≤ 9223372036854775807) :
    Calls Tryz.prog 76 #[.int .i64 n] w fun e w' => e = .returned (.string (bs (numP n))) ∧ Below w.heap.size w w' := by
  have F : Hid (bs (Lib.itoa n) ++ ⟨#[59]⟩ = bs (numP n)) := Lib.hid (bs_inj (by unfold numP; simp))
  have L := itoa_size h0 h1
  have L2 := itoa_len h0 h1
  go_enter Tryz.func76, Tryz.ntmps76
  go_wp2_with (first | (go_at_call 106; refine (refDecimal_any n _ h0 h1).mono ?_; rintro e w1 ⟨rfl, hb1⟩) | go_in)
  go_ret
  exact ⟨rets1 F.out, by assumption⟩

set_option maxRecDepth 100000 in
set_option maxHeartbeats 1000000 in
theorem decimalR_any (n : Int) (w : World) (h0 : 0 ≤ n) (h1 : n ≤ 65535) : Calls Tryz.prog 40 #[.int .i64 n] w fun e w' => e = .returned (.string (bs (Lib.itoa n))) ∧ Below w.heap.size w w' := by
  have NC := Lib.hid (refNumber_any n w (by omega) (by omega))
  have L := itoa_len (n := n) (by omega) (by omega)
  obtain ⟨B, hB⟩ : ∃ B : ByteArray, bs (numP n) = B := ⟨_, rfl⟩
  have hl : B.size = (Lib.itoa n).length + 1 := by rw [← hB]; show (Lib.itoa n ++ [59]).length = _; simp
  have F : Hid (B.extract 0 (Lib.itoa n).length = bs (Lib.itoa n)) := Lib.hid (bs_inj (by rw [← hB]; simp [numP]))
  rw [hB] at NC
  generalize bs (Lib.itoa n) = T at *
  generalize (Lib.itoa n).length = m at *
  have i1 : ((B.size : Int) - 1).toNat = m := by omega
  have i2 : (B.size : Int) - 1 ≤ (B.size : Int) := by omega
  have i3 : (0 : Int) ≤ (B.size : Int) - 1 := by omega
  have i4 : (B.size : Int) - 1 = (m : Int) := by omega
  clear hB hl h0 h1
  go_enter Tryz.func40, Tryz.ntmps40
  go_wp2_with (go_at_call 76; ((with_reducible refine NC.out.mono ?_); rintro e w1 ⟨rfl, hb⟩; have HB := Lib.hid hb; clear hb))
  go_ret
  exact ⟨rets1 F.out, HB.out⟩
def sgM (o : Int) : List UInt8 := if o = 21 then [] else bMark o
def sgL (o : Int) : Int := if o = 21 then 0 else bLev o
set_option maxRecDepth 100000 in
set_option maxHeartbeats 4000000 in
theorem signR_any (o : Int) (w : World) : Calls Tryz.prog 36 #[.int .i64 o] w fun e w' => e = .returned (.tuple #[.string (bs (sgM o)), .int .i64 (sgL o)]) ∧ w = w' := by
  by_cases h20 : o = 20
  · subst h20
    go_enter Tryz.func36, Tryz.ntmps36
    go_wp2
    go_ret2
    exact ⟨rfl, rfl⟩
  by_cases h19 : o = 19
  · subst h19
    go_enter Tryz.func36, Tryz.ntmps36
    go_wp2
    go_ret2
    exact ⟨rfl, rfl⟩
  by_cases h11 : o = 11
  · subst h11
    go_enter Tryz.func36, Tryz.ntmps36
    go_wp2
    go_ret2
    exact ⟨rfl, rfl⟩
  by_cases h12 : o = 12
  · subst h12
    go_enter Tryz.func36, Tryz.ntmps36
    go_wp2
    go_ret2
    exact ⟨rfl, rfl⟩
  by_cases h10 : o = 10
  · subst h10
    go_enter Tryz.func36, Tryz.ntmps36
    go_wp2
    go_ret2
    exact ⟨rfl, rfl⟩
  by_cases h15 : o = 15
  · subst h15
    go_enter Tryz.func36, Tryz.ntmps36
    go_wp2
    go_ret2
    exact ⟨rfl, rfl⟩
  by_cases h16 : o = 16
  · subst h16
    go_enter Tryz.func36, Tryz.ntmps36
    go_wp2
    go_ret2
    exact ⟨rfl, rfl⟩
  by_cases h17 : o = 17
  · subst h17
    go_enter Tryz.func36, Tryz.ntmps36
    go_wp2
    go_ret2
    exact ⟨rfl, rfl⟩
  by_cases h18 : o = 18
  · subst h18
    go_enter Tryz.func36, Tryz.ntmps36
    go_wp2
    go_ret2
    exact ⟨rfl, rfl⟩
  by_cases h13 : o = 13
  · subst h13
    go_enter Tryz.func36, Tryz.ntmps36
    go_wp2
    go_ret2
    exact ⟨rfl, rfl⟩
  by_cases h14 : o = 14
  · subst h14
    go_enter Tryz.func36, Tryz.ntmps36
    go_wp2
    go_ret2
    exact ⟨rfl, rfl⟩
  by_cases h7 : o = 7
  · subst h7
    go_enter Tryz.func36, Tryz.ntmps36
    go_wp2
    go_ret2
    exact ⟨rfl, rfl⟩
  by_cases h8 : o = 8
  · subst h8
    go_enter Tryz.func36, Tryz.ntmps36
    go_wp2
    go_ret2
    exact ⟨rfl, rfl⟩
  by_cases h9 : o = 9
  · subst h9
    go_enter Tryz.func36, Tryz.ntmps36
    go_wp2
    go_ret2
    exact ⟨rfl, rfl⟩
  have e1 : sgM o = [] := by
    unfold sgM bMark
    by_cases h : o = 21
    · rw [if_pos h]
    · simp only [h, h20, h19, h11, h12, h10, h15, h16, h17, h18, h13, h14, h7, h8, h9, if_false]
  have e2 : sgL o = 0 := by
    unfold sgL bLev
    by_cases h : o = 21
    · rw [if_pos h]
    · simp only [h, h20, h19, h11, h12, h10, h15, h16, h17, h18, h13, h14, h7, h8, h9, if_false]
  rw [e1, e2]
  have n20 : (o == 20) = false := by simpa using h20
  have n19 : (o == 19) = false := by simpa using h19
  have n11 : (o == 11) = false := by simpa using h11
  have n12 : (o == 12) = false := by simpa using h12
  have n10 : (o == 10) = false := by simpa using h10
  have n15 : (o == 15) = false := by simpa using h15
  have n16 : (o == 16) = false := by simpa using h16
  have n17 : (o == 17) = false := by simpa using h17
  have n18 : (o == 18) = false := by simpa using h18
  have n13 : (o == 13) = false := by simpa using h13
  have n14 : (o == 14) = false := by simpa using h14
  have n7 : (o == 7) = false := by simpa using h7
  have n8 : (o == 8) = false := by simpa using h8
  have n9 : (o == 9) = false := by simpa using h9
  clear e1 e2 h20 h19 h11 h12 h10 h15 h16 h17 h18 h13 h14 h7 h8 h9
  go_enter Tryz.func36, Tryz.ntmps36
  go_wp2
  go_ret2
  exact ⟨rfl, rfl⟩
set_option maxRecDepth 100000 in
set_option maxHeartbeats 4000000 in
theorem prefixR_any (o : Int) (w : World) : Calls Tryz.prog 38 #[.int .i64 o] w fun e w' => e = .returned (.string (bs (pMark o))) ∧ w = w' := by
  by_cases h4 : o = 4
  · subst h4
    go_enter Tryz.func38, Tryz.ntmps38
    go_wp2
    go_ret
    exact ⟨rfl, rfl⟩
  by_cases h5 : o = 5
  · subst h5
    go_enter Tryz.func38, Tryz.ntmps38
    go_wp2
    go_ret
    exact ⟨rfl, rfl⟩
  by_cases h6 : o = 6
  · subst h6
    go_enter Tryz.func38, Tryz.ntmps38
    go_wp2
    go_ret
    exact ⟨rfl, rfl⟩
  have e1 : pMark o = [] := by
    unfold pMark
    simp only [h4, h5, h6, if_false]
  rw [e1]
  have n4 : (o == 4) = false := by simpa using h4
  have n5 : (o == 5) = false := by simpa using h5
  have n6 : (o == 6) = false := by simpa using h6
  clear e1 h4 h5 h6
  go_enter Tryz.func38, Tryz.ntmps38
  go_wp2
  go_ret
  exact ⟨rfl, rfl⟩
theorem sgL_nn (o : Int) : 0 ≤ sgL o := by
  unfold sgL bLev
  repeat' split
  all_goals omega
set_option maxRecDepth 100000 in
set_option maxHeartbeats 4000000 in
theorem levelR_any (o : Int) (w : World) : Calls Tryz.prog 75 #[.int .i64 o] w fun e w' => e = .returned (.int .i64 (lvS o)) ∧ w = w' := by
  have SC := Lib.hid (signR_any o)
  have PC := Lib.hid (prefixR_any o)
  by_cases h0 : 0 < sgL o
  · have e1 : lvS o = sgL o := by
      unfold sgL at h0 ⊢
      by_cases h : o = 21
      · rw [if_pos h] at h0; omega
      · rw [if_neg h] at h0 ⊢
        unfold lvS
        have h22 : o ≠ 22 := fun e => by subst e; exact absurd h0 (by decide)
        have h23 : o ≠ 23 := fun e => by subst e; exact absurd h0 (by decide)
        rw [if_neg h22, if_neg h23, if_pos (by omega)]
    rw [e1]
    generalize sgL o = l at *
    generalize bs (sgM o) = m at *
    clear e1
    go_enter Tryz.func75, Tryz.ntmps75
    go_wp2_with (go_at_call 36; ((with_reducible refine (SC.out _).mono ?_); rintro e w' ⟨rfl, rfl⟩))
    go_ret
    exact ⟨rfl, rfl⟩
  · have hz : sgL o = 0 := by have := sgL_nn o; omega
    have hb : o ≠ 21 → bLev o = 0 := fun h => by unfold sgL at hz; rwa [if_neg h] at hz
    rw [hz] at SC
    generalize bs (sgM o) = m at *
    clear h0 hz
    by_cases h22 : o = 22
    · subst h22
      go_enter Tryz.func75, Tryz.ntmps75
      go_wp2_with (go_at_call 36; ((with_reducible refine (SC.out _).mono ?_); rintro e w' ⟨rfl, rfl⟩))
      go_ret
      exact ⟨rfl, rfl⟩
    by_cases h21 : o = 21
    · subst h21
      go_enter Tryz.func75, Tryz.ntmps75
      go_wp2_with (go_at_call 36; ((with_reducible refine (SC.out _).mono ?_); rintro e w' ⟨rfl, rfl⟩))
      go_ret
      exact ⟨rfl, rfl⟩
    by_cases h23 : o = 23
    · subst h23
      go_enter Tryz.func75, Tryz.ntmps75
      go_wp2_with (go_at_call 36; ((with_reducible refine (SC.out _).mono ?_); rintro e w' ⟨rfl, rfl⟩))
      go_ret
      exact ⟨rfl, rfl⟩
    have n22 : (o == 22) = false := by simpa using h22
    have n21 : (o == 21) = false := by simpa using h21
    have n23 : (o == 23) = false := by simpa using h23
    by_cases hp : o = 4 ∨ o = 5 ∨ o = 6
    · have e1 : lvS o = 13 := by unfold lvS; rw [if_neg h22, if_neg h23, if_neg (by rw [hb h21]; decide), if_pos hp]
      rw [e1]
      rcases hp with rfl | rfl | rfl
      all_goals
        clear e1 hb h22 h21 h23
        go_enter Tryz.func75, Tryz.ntmps75
        go_wp2_with (first | (go_at_call 36; ((with_reducible refine (SC.out _).mono ?_); rintro e w' ⟨rfl, rfl⟩)) | (go_at_call 38; ((with_reducible refine (PC.out _).mono ?_); rintro e w' ⟨rfl, rfl⟩)))
        go_ret
        exact ⟨rfl, rfl⟩
    · have e1 : lvS o = 14 := by unfold lvS; rw [if_neg h22, if_neg h23, if_neg (by rw [hb h21]; decide), if_neg hp]
      have e2 : pMark o = [] := by
        simp only [not_or] at hp
        unfold pMark
        simp only [hp.1, hp.2.1, hp.2.2, if_false]
      rw [e1]
      rw [e2] at PC
      clear e1 e2 hp hb h22 h21 h23
      go_enter Tryz.func75, Tryz.ntmps75
      go_wp2_with (first | (go_at_call 36; ((with_reducible refine (SC.out _).mono ?_); rintro e w' ⟨rfl, rfl⟩)) | (go_at_call 38; ((with_reducible refine (PC.out _).mono ?_); rintro e w' ⟨rfl, rfl⟩)))
      go_ret
      exact ⟨rfl, rfl⟩
set_option maxRecDepth 100000 in
set_option maxHeartbeats 4000000 in
/-- Split of an element's name. -/
theorem splitR_yes (s : ByteArray) (w : World) (hs : s.size ≤ 140737488351232) {r : List UInt8} {d : UInt8} (h : s.data.toList = r ++ [91, d, 93]) (hn : nmB r = true) (h1 : 48 ≤ d.toNat) (h2 : d.toNat ≤ 55) : Calls Tryz.prog 39 #[.string s] w fun e w' => e = .returned (.tuple #[.string (bs r), .int .i64 ((d.toNat : Int) - 48), .bool true]) ∧ Below w.heap.size w w' := by
  have hsz : s.size = r.length + 3 := by rw [← len_data, h]; simp
  obtain ⟨m, hm⟩ : ∃ m, r.length = m := ⟨_, rfl⟩
  rw [hm] at hsz
  have hm1 : 1 ≤ m := by
    have := (nm_parts hn).1
    rw [← hm]; exact List.length_pos_iff.2 this
  have g0 : m < s.size := by omega
  have g1 : m + 1 < s.size := by omega
  have g2 : m + 2 < s.size := by omega
  have gv : ∀ (k : Nat) (hk : k < s.size), s[k] = s.data.toList[k]'(by rw [len_data]; exact hk) := fun k hk => by simp; rfl
  have v0 : (s[m].toNat : Int) = 91 := by rw [gv m g0]; simp [h, ← hm]
  have v1 : (s[m + 1].toNat : Int) = (d.toNat : Int) := by rw [gv (m + 1) g1]; simp [h, ← hm]
  have v2 : (s[m + 2].toNat : Int) = 93 := by rw [gv (m + 2) g2]; simp [h, ← hm]
  have hx : s.extract 0 m = bs r := bs_inj (by rw [ext_list, h]; simp [← hm])
  have NC : Hid (∀ W, Calls Tryz.prog 58 #[.string (bs r)] W (tBool true W)) := Lib.hid fun W => by
    have q := nameR_any (bs r) W (by show r.length ≤ _; omega)
    have e : nmB (bs r).data.toList = true := hn
    rw [e] at q
    exact q
  have HX := Lib.hid hx
  have i1 : ((s.size : Int) - 1).toNat = m + 2 := by omega
  have i2 : ((s.size : Int) - 2).toNat = m + 1 := by omega
  have i3 : ((s.size : Int) - 3).toNat = m := by omega
  have j1 : (s.size : Int) - 1 < (s.size : Int) := by omega
  have j2 : (s.size : Int) - 2 < (s.size : Int) := by omega
  have j3 : (s.size : Int) - 3 < (s.size : Int) := by omega
  have h4' : ¬ (s.size : Int) < 4 := by omega
  obtain ⟨d', hd⟩ : ∃ d' : Nat, d.toNat = d' := ⟨_, rfl⟩
  rw [hd] at v1 h1 h2 ⊢
  have k1 : (48 : Int) ≤ (d' : Int) := by omega
  have k2 : (d' : Int) ≤ 55 := by omega
  rw [← hx] at NC
  rw [← hx]
  clear h hn gv hx hd hm
  go_enter Tryz.func39, Tryz.ntmps39
  go_wp2_with (go_at_call 58; ((with_reducible refine (NC.out _).mono ?_); rintro e w1 ⟨rfl, hb⟩; have HB1 := Lib.hid hb; clear hb))
  refine bodyPost_ret (v := .tuple #[.string (s.extract 0 m), .int .i64 ((d' : Int) - 48), .bool true]) (by simp [results, Tryz.results39, go_sem]) rfl ?_
  exact ⟨rfl, HB1.out⟩
end Go.Proofs.YtlnomiiphlbamaaGreatDoor.EtR
namespace Go.Proofs.YtlnomiiphlbamaaGreatDoor.EtR
open Go Go.RowKit Go.Proofs.YtlnomiiphlbamaaGreatDoor.NumM Go.Proofs.YtlnomiiphlbamaaGreatDoor.LexW Go.Proofs.YtlnomiiphlbamaaGreatDoor.LexM Go.Proofs.YtlnomiiphlbamaaGreatDoor.ExM Go.Proofs.YtlnomiiphlbamaaGreatDoor.ExW Go.Proofs.YtlnomiiphlbamaaGreatDoor.EtM Go.Proofs.YtlnomiiphlbamaaGreatDoor.EtW

def PlainC (a : Ex) : Prop := ∀ (N : Nat) (w : World) (v : Value), ExAt N w v a → N ≤ w.heap.size → TabE w → Calls Tryz.prog 18 #[v] w (tSt (txP (bare a)) w)
set_option maxRecDepth 100000 in
set_option maxHeartbeats 2000000 in
theorem textR_of {a : Ex} (hB : PlainC a) (hlen : lnP (bare a) ≤ 200000000) (lv : Int) (N : Nat) (w : World) (v : Value) (hx : ExAt N w v a) (hN : N ≤ w.heap.size) (ht : TabE w) : Calls Tryz.prog 37 #[v, .int .i64 lv] w (tSt (txP (plc lv (bx a))) w) := by
  obtain ⟨p, c, pl, cl, rfl, hs, _⟩ := hx.form
  have W1 : Below w.heap.size w (w.alloc (.cells #[.int .i64 a.op, .int .i64 a.n, .string a.nm, .slice p a.args.length c] 24)) := (Below.refl _ _).alloc (Nat.le_refl _) _
  have F1 := Four.new w (.int .i64 a.op) (.int .i64 a.n) (.string a.nm) (.slice p a.args.length c) 24
  have LC := Lib.hid (levelR_any a.op)
  have BC := Lib.hid (hB N (w.alloc (.cells #[.int .i64 a.op, .int .i64 a.n, .string a.nm, .slice p a.args.length c] 24)) _ (hx.under (W1.mono hN)) (Nat.le_trans hN W1.size) (ht.later W1))
  have HP : Hid (txP (plc lv (bx a)) = if lvS a.op < lv then 40 :: (txP (bare a) ++ [41]) else txP (bare a)) := Lib.hid (txP_plc lv (bx a))
  rw [HP.out]
  clear HP
  have HW1 := Lib.hid W1
  have HF1 := Lib.hid F1
  have c0 := F1.c0
  have c1 := F1.c1
  have c2 := F1.c2
  have c3 := F1.c3
  clear hx hB W1 F1 ht hs
  show Calls _ _ #[.agg #[.int .i64 a.op, .int .i64 a.n, .string a.nm, .slice p a.args.length c], .int .i64 lv] w _
  obtain ⟨T, hT⟩ : ∃ T, txP (bare a) = T := ⟨_, rfl⟩
  unfold lnP at hlen
  rw [hT] at BC hlen ⊢
  clear hT
  generalize a.op = o at *
  generalize a.n = n at *
  generalize a.nm = s at *
  generalize a.args.length = k at *
  have hml : (mb T).size ≤ 200000000 := hlen
  by_cases g : lvS o < lv
  · rw [if_pos g]
    go_enter Tryz.func37, Tryz.ntmps37
    go_wp2_with (first
      | (go_at_call 18; ((with_reducible refine BC.out.mono ?_); rintro e w2 ⟨rfl, hb⟩; have F2 := HF1.out.stay hb; clear c0 c1 c2 c3; have c0 := F2.c0; have HB2 := Lib.hid (HW1.out.then_ hb); clear hb F2))
      | (go_at_call 75; ((with_reducible refine (LC.out _).mono ?_); rintro e w' ⟨rfl, rfl⟩)))
    go_ret
    exact tSt_mk (by simp [ByteArray.data_append]) HB2.out
  · rw [if_neg g]
    go_enter Tryz.func37, Tryz.ntmps37
    go_wp2_with (first
      | (go_at_call 18; ((with_reducible refine BC.out.mono ?_); rintro e w2 ⟨rfl, hb⟩; have F2 := HF1.out.stay hb; clear c0 c1 c2 c3; have c0 := F2.c0; have HB2 := Lib.hid (HW1.out.then_ hb); clear hb F2))
      | (go_at_call 75; ((with_reducible refine (LC.out _).mono ?_); rintro e w' ⟨rfl, rfl⟩)))
    go_ret
    exact ⟨rfl, HB2.out⟩
set_option maxRecDepth 100000 in
set_option maxHeartbeats 4000000 in
theorem plain_ons {A1 : Ex} (hA1 : PlainC A1) (lA1 : lnP (bare A1) ≤ 200000000) : PlainC (.mk 25 0 ⟨#[]⟩ [A1]) := by
  intro N w v hx hN ht
  obtain ⟨p, c, pl, cl, rfl, hs, ha⟩ := hx.form
  simp only [Ex.op, Ex.n, Ex.nm, Ex.args, List.length_cons, List.length_nil, Nat.zero_add] at hs ha ⊢
  obtain ⟨b, off, rfl, hbs, hcell⟩ := ha.hp (by simp)
  have W1 : Below w.heap.size w (w.alloc (.cells #[.int .i64 25, .int .i64 0, .string ⟨#[]⟩, .slice (some ⟨b, off, none⟩) 1 c] 24)) := (Below.refl _ _).alloc (Nat.le_refl _) _
  have F1 := Four.new w (.int .i64 25) (.int .i64 0) (.string ⟨#[]⟩) (.slice (some ⟨b, off, none⟩) 1 c) 24
  have x0 := ha.hx 0 A1 rfl
  obtain ⟨q0, q1, q2, q3⟩ := hcell 0 A1 rfl
  have d00 : (w.alloc (.cells #[.int .i64 25, .int .i64 0, .string ⟨#[]⟩, .slice (some ⟨b, off, none⟩) 1 c] 24)).cell? ⟨b, off, none⟩ = some (.int .i64 A1.op) := (W1.cell (p := ⟨b, off, none⟩) (Nat.lt_of_lt_of_le hbs hN)).trans (by simpa [Nat.add_assoc] using q0)
  have d01 : (w.alloc (.cells #[.int .i64 25, .int .i64 0, .string ⟨#[]⟩, .slice (some ⟨b, off, none⟩) 1 c] 24)).cell? ⟨b, off + 1, none⟩ = some (.int .i64 A1.n) := (W1.cell (p := ⟨b, off + 1, none⟩) (Nat.lt_of_lt_of_le hbs hN)).trans (by simpa [Nat.add_assoc] using q1)
  have d02 : (w.alloc (.cells #[.int .i64 25, .int .i64 0, .string ⟨#[]⟩, .slice (some ⟨b, off, none⟩) 1 c] 24)).cell? ⟨b, off + 2, none⟩ = some (.string A1.nm) := (W1.cell (p := ⟨b, off + 2, none⟩) (Nat.lt_of_lt_of_le hbs hN)).trans (by simpa [Nat.add_assoc] using q2)
  have d03 : (w.alloc (.cells #[.int .i64 25, .int .i64 0, .string ⟨#[]⟩, .slice (some ⟨b, off, none⟩) 1 c] 24)).cell? ⟨b, off + 3, none⟩ = some (.slice (pl 0) A1.args.length (cl 0)) := (W1.cell (p := ⟨b, off + 3, none⟩) (Nat.lt_of_lt_of_le hbs hN)).trans (by simpa [Nat.add_assoc] using q3)
  have T0c := Lib.hid (fun W (hW : Below (w.alloc (.cells #[.int .i64 25, .int .i64 0, .string ⟨#[]⟩, .slice (some ⟨b, off, none⟩) 1 c] 24)).heap.size (w.alloc (.cells #[.int .i64 25, .int .i64 0, .string ⟨#[]⟩, .slice (some ⟨b, off, none⟩) 1 c] 24)) W) => textR_of hA1 lA1 1 N W _ ((x0.under (W1.mono hN)).under (hW.mono (by rw [World.size_alloc]; omega))) (Nat.le_trans hN (Nat.le_trans W1.size hW.size)) (ht.later (W1.then_ hW)))
  have m0 := lnP_plc 1 (bx A1)
  have m0' : lnP (bx A1).2 = lnP (bare A1) := rfl
  rw [m0'] at m0
  unfold lnP at m0 lA1
  have HP : Hid (txP (bare (.mk 25 0 ⟨#[]⟩ [A1])) = onesW ++ 40 :: (txP (plc 1 (bx A1)) ++ [41])) := Lib.hid (by rw [bare_mk]; show txP (.wd 1 0 onesW :: .mk [40] :: (plc 1 (bx A1) ++ [.mk [41]])) = _; rw [txP_cons, txP_cons, txP_app]; rfl)
  obtain ⟨t0, ht0⟩ : ∃ T, txP (plc 1 (bx A1)) = T := ⟨_, rfl⟩
  rw [ht0] at T0c m0
  have ml0 : t0.length ≤ 200000010 := by omega
  rw [ht0] at HP
  rw [HP.out]
  clear HP
  show Calls _ _ #[.agg #[.int .i64 25, .int .i64 0, .string ⟨#[]⟩, .slice (some ⟨b, off, none⟩) 1 c]] w _
  obtain ⟨A1o, hA1o⟩ : ∃ x, A1.op = x := ⟨_, rfl⟩
  rw [hA1o] at T0c d00
  obtain ⟨A1n, hA1n⟩ : ∃ x, A1.n = x := ⟨_, rfl⟩
  rw [hA1n] at T0c d01
  obtain ⟨A1s, hA1s⟩ : ∃ x, A1.nm = x := ⟨_, rfl⟩
  rw [hA1s] at T0c d02
  obtain ⟨A1k, hA1k⟩ : ∃ x, A1.args.length = x := ⟨_, rfl⟩
  rw [hA1k] at T0c d03
  obtain ⟨A1p, hA1p⟩ : ∃ x, pl 0 = x := ⟨_, rfl⟩
  rw [hA1p] at T0c d03
  obtain ⟨A1c, hA1c⟩ : ∃ x, cl 0 = x := ⟨_, rfl⟩
  rw [hA1c] at T0c d03
  have e0 := F1.c0
  have e1 := F1.c1
  have e2 := F1.c2
  have e3 := F1.c3
  have HW1 := Lib.hid W1
  have KK := Lib.hid (fun W (hW : Below (w.alloc (.cells #[.int .i64 25, .int .i64 0, .string ⟨#[]⟩, .slice (some ⟨b, off, none⟩) 1 c] 24)).heap.size (w.alloc (.cells #[.int .i64 25, .int .i64 0, .string ⟨#[]⟩, .slice (some ⟨b, off, none⟩) 1 c] 24)) W) => And.intro ((F1.stay hW).c3) (And.intro ((hW.cell (p := ⟨b, off, none⟩) (cell_lt d00)).trans d00) (And.intro ((hW.cell (p := ⟨b, off + 1, none⟩) (cell_lt d01)).trans d01) (And.intro ((hW.cell (p := ⟨b, off + 2, none⟩) (cell_lt d02)).trans d02) ((hW.cell (p := ⟨b, off + 3, none⟩) (cell_lt d03)).trans d03)))))
  have SC : Hid (∀ W, Calls Tryz.prog 36 #[.int .i64 25] W fun e w' => e = .returned (.tuple #[.string ⟨#[]⟩, .int .i64 0]) ∧ W = w') := Lib.hid (fun W => signR_any 25 W)
  have PC : Hid (∀ W, Calls Tryz.prog 38 #[.int .i64 25] W fun e w' => e = .returned (.string ⟨#[]⟩) ∧ W = w') := Lib.hid (fun W => prefixR_any 25 W)
  clear hx ha ht hs W1 hA1 lA1 x0 m0 m0' hA1o hA1n hA1s hA1k hA1p hA1c hcell q0 q1 q2 q3
  clear F1 ht0
  go_enter Tryz.func18, Tryz.ntmps18
  go_wp2_with (first | (go_at_call 36; ((with_reducible refine (SC.out _).mono ?_); rintro e w' ⟨rfl, rfl⟩)) | (go_at_call 38; ((with_reducible refine (PC.out _).mono ?_); rintro e w' ⟨rfl, rfl⟩)) | (go_at_call 37; (with_reducible refine (T0c.out _ ?_).mono ?_); (first | exact Below.refl _ _); rintro e w3 ⟨rfl, hb⟩; have HB0 := Lib.hid ((Below.refl _ _).then_ hb); have KN0 := KK.out _ HB0.out; clear hb))
  go_ret
  exact tSt_mk (by simp [ByteArray.data_append, onesW]) (HW1.out.then_ HB0.out)
set_option maxRecDepth 100000 in
set_option maxHeartbeats 4000000 in
theorem plain_elm {s : ByteArray} {A1 : Ex} (hn : nmB s.data.toList = true) (hA1 : PlainC A1) (lA1 : lnP (bare A1) ≤ 200000000) : PlainC (.mk 3 0 s [A1]) := by
  intro N w v hx hN ht
  obtain ⟨p, c, pl, cl, rfl, hs, ha⟩ := hx.form
  simp only [Ex.op, Ex.n, Ex.nm, Ex.args, List.length_cons, List.length_nil, Nat.zero_add] at hs ha ⊢
  obtain ⟨b, off, rfl, hbs, hcell⟩ := ha.hp (by simp)
  have W1 : Below w.heap.size w (w.alloc (.cells #[.int .i64 3, .int .i64 0, .string s, .slice (some ⟨b, off, none⟩) 1 c] 24)) := (Below.refl _ _).alloc (Nat.le_refl _) _
  have F1 := Four.new w (.int .i64 3) (.int .i64 0) (.string s) (.slice (some ⟨b, off, none⟩) 1 c) 24
  have x0 := ha.hx 0 A1 rfl
  obtain ⟨q0, q1, q2, q3⟩ := hcell 0 A1 rfl
  have d00 : (w.alloc (.cells #[.int .i64 3, .int .i64 0, .string s, .slice (some ⟨b, off, none⟩) 1 c] 24)).cell? ⟨b, off, none⟩ = some (.int .i64 A1.op) := (W1.cell (p := ⟨b, off, none⟩) (Nat.lt_of_lt_of_le hbs hN)).trans (by simpa [Nat.add_assoc] using q0)
  have d01 : (w.alloc (.cells #[.int .i64 3, .int .i64 0, .string s, .slice (some ⟨b, off, none⟩) 1 c] 24)).cell? ⟨b, off + 1, none⟩ = some (.int .i64 A1.n) := (W1.cell (p := ⟨b, off + 1, none⟩) (Nat.lt_of_lt_of_le hbs hN)).trans (by simpa [Nat.add_assoc] using q1)
  have d02 : (w.alloc (.cells #[.int .i64 3, .int .i64 0, .string s, .slice (some ⟨b, off, none⟩) 1 c] 24)).cell? ⟨b, off + 2, none⟩ = some (.string A1.nm) := (W1.cell (p := ⟨b, off + 2, none⟩) (Nat.lt_of_lt_of_le hbs hN)).trans (by simpa [Nat.add_assoc] using q2)
  have d03 : (w.alloc (.cells #[.int .i64 3, .int .i64 0, .string s, .slice (some ⟨b, off, none⟩) 1 c] 24)).cell? ⟨b, off + 3, none⟩ = some (.slice (pl 0) A1.args.length (cl 0)) := (W1.cell (p := ⟨b, off + 3, none⟩) (Nat.lt_of_lt_of_le hbs hN)).trans (by simpa [Nat.add_assoc] using q3)
  have T0c := Lib.hid (fun W (hW : Below (w.alloc (.cells #[.int .i64 3, .int .i64 0, .string s, .slice (some ⟨b, off, none⟩) 1 c] 24)).heap.size (w.alloc (.cells #[.int .i64 3, .int .i64 0, .string s, .slice (some ⟨b, off, none⟩) 1 c] 24)) W) => textR_of hA1 lA1 1 N W _ ((x0.under (W1.mono hN)).under (hW.mono (by rw [World.size_alloc]; omega))) (Nat.le_trans hN (Nat.le_trans W1.size hW.size)) (ht.later (W1.then_ hW)))
  have m0 := lnP_plc 1 (bx A1)
  have m0' : lnP (bx A1).2 = lnP (bare A1) := rfl
  rw [m0'] at m0
  unfold lnP at m0 lA1
  have HP : Hid (txP (bare (.mk 3 0 s [A1])) = s.data.toList ++ 91 :: (txP (plc 1 (bx A1)) ++ [93])) := Lib.hid (by rw [bare_mk]; show txP (.wd 1 0 s.data.toList :: .mk [91] :: (plc 1 (bx A1) ++ [.mk [93]])) = _; rw [txP_cons, txP_cons, txP_app]; rfl)
  obtain ⟨t0, ht0⟩ : ∃ T, txP (plc 1 (bx A1)) = T := ⟨_, rfl⟩
  rw [ht0] at T0c m0
  have ml0 : t0.length ≤ 200000010 := by omega
  rw [ht0] at HP
  rw [HP.out]
  clear HP
  show Calls _ _ #[.agg #[.int .i64 3, .int .i64 0, .string s, .slice (some ⟨b, off, none⟩) 1 c]] w _
  obtain ⟨A1o, hA1o⟩ : ∃ x, A1.op = x := ⟨_, rfl⟩
  rw [hA1o] at T0c d00
  obtain ⟨A1n, hA1n⟩ : ∃ x, A1.n = x := ⟨_, rfl⟩
  rw [hA1n] at T0c d01
  obtain ⟨A1s, hA1s⟩ : ∃ x, A1.nm = x := ⟨_, rfl⟩
  rw [hA1s] at T0c d02
  obtain ⟨A1k, hA1k⟩ : ∃ x, A1.args.length = x := ⟨_, rfl⟩
  rw [hA1k] at T0c d03
  obtain ⟨A1p, hA1p⟩ : ∃ x, pl 0 = x := ⟨_, rfl⟩
  rw [hA1p] at T0c d03
  obtain ⟨A1c, hA1c⟩ : ∃ x, cl 0 = x := ⟨_, rfl⟩
  rw [hA1c] at T0c d03
  have e0 := F1.c0
  have e1 := F1.c1
  have e2 := F1.c2
  have e3 := F1.c3
  have HW1 := Lib.hid W1
  have KK := Lib.hid (fun W (hW : Below (w.alloc (.cells #[.int .i64 3, .int .i64 0, .string s, .slice (some ⟨b, off, none⟩) 1 c] 24)).heap.size (w.alloc (.cells #[.int .i64 3, .int .i64 0, .string s, .slice (some ⟨b, off, none⟩) 1 c] 24)) W) => And.intro ((F1.stay hW).c2) (And.intro ((F1.stay hW).c3) (And.intro ((hW.cell (p := ⟨b, off, none⟩) (cell_lt d00)).trans d00) (And.intro ((hW.cell (p := ⟨b, off + 1, none⟩) (cell_lt d01)).trans d01) (And.intro ((hW.cell (p := ⟨b, off + 2, none⟩) (cell_lt d02)).trans d02) ((hW.cell (p := ⟨b, off + 3, none⟩) (cell_lt d03)).trans d03))))))
  have hsl : s.size ≤ 16 := nmB_len hn
  clear hn
  have z0 : ¬ 9223372036854775807 < s.size + 1 := by omega
  have z1 : ¬ 9223372036854775807 < s.size + 1 + t0.length := by omega
  have z2 : ¬ 9223372036854775807 < s.size + 1 + t0.length + 1 := by omega
  have SC : Hid (∀ W, Calls Tryz.prog 36 #[.int .i64 3] W fun e w' => e = .returned (.tuple #[.string ⟨#[]⟩, .int .i64 0]) ∧ W = w') := Lib.hid (fun W => signR_any 3 W)
  have PC : Hid (∀ W, Calls Tryz.prog 38 #[.int .i64 3] W fun e w' => e = .returned (.string ⟨#[]⟩) ∧ W = w') := Lib.hid (fun W => prefixR_any 3 W)
  clear hx ha ht hs W1 hA1 lA1 x0 m0 m0' hA1o hA1n hA1s hA1k hA1p hA1c hcell q0 q1 q2 q3
  clear F1 ht0
  go_enter Tryz.func18, Tryz.ntmps18
  go_wp2_with (first | (go_at_call 36; ((with_reducible refine (SC.out _).mono ?_); rintro e w' ⟨rfl, rfl⟩)) | (go_at_call 38; ((with_reducible refine (PC.out _).mono ?_); rintro e w' ⟨rfl, rfl⟩)))
  go_region_held3 (fun w' => w'.cell? ⟨w.heap.size, 2, none⟩ = some (.string s) ∧ w'.cell? ⟨w.heap.size, 3, none⟩ = some (.slice (some ⟨b, off, none⟩) 1 c) ∧ w'.cell? ⟨b, off, none⟩ = some (.int .i64 A1o) ∧ w'.cell? ⟨b, off + 1, none⟩ = some (.int .i64 A1n) ∧ w'.cell? ⟨b, off + 2, none⟩ = some (.string A1s) ∧ w'.cell? ⟨b, off + 3, none⟩ = some (.slice A1p A1k A1c)) (first | exact KK.out _ (Below.refl _ _).drew | exact KK.out _ (Below.refl _ _) | exact KK.out _ HB0.out) (first | (go_at_call 37; (with_reducible refine (T0c.out _ ?_).mono ?_); (first | exact (Below.refl _ _).drew | exact Below.refl _ _); rintro e w3 ⟨rfl, hb⟩; have HB0 := Lib.hid (((Below.refl _ _).drew).then_ hb); have KN0 := KK.out _ HB0.out; clear hb))
  all_goals
    go_wp2
    go_ret
    exact tSt_mk (by simp [ByteArray.data_append]) (HW1.out.then_ HB0.out)
set_option maxRecDepth 100000 in
set_option maxHeartbeats 4000000 in
theorem plain_iff {A1 A2 A3 : Ex} (hA1 : PlainC A1) (lA1 : lnP (bare A1) ≤ 200000000) (hA2 : PlainC A2) (lA2 : lnP (bare A2) ≤ 200000000) (hA3 : PlainC A3) (lA3 : lnP (bare A3) ≤ 200000000) : PlainC (.mk 22 0 ⟨#[]⟩ [A1, A2, A3]) := by
  intro N w v hx hN ht
  obtain ⟨p, c, pl, cl, rfl, hs, ha⟩ := hx.form
  simp only [Ex.op, Ex.n, Ex.nm, Ex.args, List.length_cons, List.length_nil, Nat.zero_add, Nat.reduceAdd] at hs ha ⊢
  obtain ⟨b, off, rfl, hbs, hcell⟩ := ha.hp (by simp)
  have W1 : Below w.heap.size w (w.alloc (.cells #[.int .i64 22, .int .i64 0, .string ⟨#[]⟩, .slice (some ⟨b, off, none⟩) 3 c] 24)) := (Below.refl _ _).alloc (Nat.le_refl _) _
  have F1 := Four.new w (.int .i64 22) (.int .i64 0) (.string ⟨#[]⟩) (.slice (some ⟨b, off, none⟩) 3 c) 24
  have x0 := ha.hx 0 A1 rfl
  obtain ⟨q0, q1, q2, q3⟩ := hcell 0 A1 rfl
  have d00 : (w.alloc (.cells #[.int .i64 22, .int .i64 0, .string ⟨#[]⟩, .slice (some ⟨b, off, none⟩) 3 c] 24)).cell? ⟨b, off, none⟩ = some (.int .i64 A1.op) := (W1.cell (p := ⟨b, off, none⟩) (Nat.lt_of_lt_of_le hbs hN)).trans (by simpa [Nat.add_assoc] using q0)
  have d01 : (w.alloc (.cells #[.int .i64 22, .int .i64 0, .string ⟨#[]⟩, .slice (some ⟨b, off, none⟩) 3 c] 24)).cell? ⟨b, off + 1, none⟩ = some (.int .i64 A1.n) := (W1.cell (p := ⟨b, off + 1, none⟩) (Nat.lt_of_lt_of_le hbs hN)).trans (by simpa [Nat.add_assoc] using q1)
  have d02 : (w.alloc (.cells #[.int .i64 22, .int .i64 0, .string ⟨#[]⟩, .slice (some ⟨b, off, none⟩) 3 c] 24)).cell? ⟨b, off + 2, none⟩ = some (.string A1.nm) := (W1.cell (p := ⟨b, off + 2, none⟩) (Nat.lt_of_lt_of_le hbs hN)).trans (by simpa [Nat.add_assoc] using q2)
  have d03 : (w.alloc (.cells #[.int .i64 22, .int .i64 0, .string ⟨#[]⟩, .slice (some ⟨b, off, none⟩) 3 c] 24)).cell? ⟨b, off + 3, none⟩ = some (.slice (pl 0) A1.args.length (cl 0)) := (W1.cell (p := ⟨b, off + 3, none⟩) (Nat.lt_of_lt_of_le hbs hN)).trans (by simpa [Nat.add_assoc] using q3)
  have T0c := Lib.hid (fun W (hW : Below (w.alloc (.cells #[.int .i64 22, .int .i64 0, .string ⟨#[]⟩, .slice (some ⟨b, off, none⟩) 3 c] 24)).heap.size (w.alloc (.cells #[.int .i64 22, .int .i64 0, .string ⟨#[]⟩, .slice (some ⟨b, off, none⟩) 3 c] 24)) W) => textR_of hA1 lA1 2 N W _ ((x0.under (W1.mono hN)).under (hW.mono (by rw [World.size_alloc]; omega))) (Nat.le_trans hN (Nat.le_trans W1.size hW.size)) (ht.later (W1.then_ hW)))
  have m0 := lnP_plc 2 (bx A1)
  have m0' : lnP (bx A1).2 = lnP (bare A1) := rfl
  rw [m0'] at m0
  unfold lnP at m0 lA1
  have x1 := ha.hx 1 A2 rfl
  obtain ⟨q0, q1, q2, q3⟩ := hcell 1 A2 rfl
  have d10 : (w.alloc (.cells #[.int .i64 22, .int .i64 0, .string ⟨#[]⟩, .slice (some ⟨b, off, none⟩) 3 c] 24)).cell? ⟨b, off + 4, none⟩ = some (.int .i64 A2.op) := (W1.cell (p := ⟨b, off + 4, none⟩) (Nat.lt_of_lt_of_le hbs hN)).trans (by simpa [Nat.add_assoc] using q0)
  have d11 : (w.alloc (.cells #[.int .i64 22, .int .i64 0, .string ⟨#[]⟩, .slice (some ⟨b, off, none⟩) 3 c] 24)).cell? ⟨b, off + 5, none⟩ = some (.int .i64 A2.n) := (W1.cell (p := ⟨b, off + 5, none⟩) (Nat.lt_of_lt_of_le hbs hN)).trans (by simpa [Nat.add_assoc] using q1)
  have d12 : (w.alloc (.cells #[.int .i64 22, .int .i64 0, .string ⟨#[]⟩, .slice (some ⟨b, off, none⟩) 3 c] 24)).cell? ⟨b, off + 6, none⟩ = some (.string A2.nm) := (W1.cell (p := ⟨b, off + 6, none⟩) (Nat.lt_of_lt_of_le hbs hN)).trans (by simpa [Nat.add_assoc] using q2)
  have d13 : (w.alloc (.cells #[.int .i64 22, .int .i64 0, .string ⟨#[]⟩, .slice (some ⟨b, off, none⟩) 3 c] 24)).cell? ⟨b, off + 7, none⟩ = some (.slice (pl 1) A2.args.length (cl 1)) := (W1.cell (p := ⟨b, off + 7, none⟩) (Nat.lt_of_lt_of_le hbs hN)).trans (by simpa [Nat.add_assoc] using q3)
  have T1c := Lib.hid (fun W (hW : Below (w.alloc (.cells #[.int .i64 22, .int .i64 0, .string ⟨#[]⟩, .slice (some ⟨b, off, none⟩) 3 c] 24)).heap.size (w.alloc (.cells #[.int .i64 22, .int .i64 0, .string ⟨#[]⟩, .slice (some ⟨b, off, none⟩) 3 c] 24)) W) => textR_of hA2 lA2 1 N W _ ((x1.under (W1.mono hN)).under (hW.mono (by rw [World.size_alloc]; omega))) (Nat.le_trans hN (Nat.le_trans W1.size hW.size)) (ht.later (W1.then_ hW)))
  have m1 := lnP_plc 1 (bx A2)
  have m1' : lnP (bx A2).2 = lnP (bare A2) := rfl
  rw [m1'] at m1
  unfold lnP at m1 lA2
  have x2 := ha.hx 2 A3 rfl
  obtain ⟨q0, q1, q2, q3⟩ := hcell 2 A3 rfl
  have d20 : (w.alloc (.cells #[.int .i64 22, .int .i64 0, .string ⟨#[]⟩, .slice (some ⟨b, off, none⟩) 3 c] 24)).cell? ⟨b, off + 8, none⟩ = some (.int .i64 A3.op) := (W1.cell (p := ⟨b, off + 8, none⟩) (Nat.lt_of_lt_of_le hbs hN)).trans (by simpa [Nat.add_assoc] using q0)
  have d21 : (w.alloc (.cells #[.int .i64 22, .int .i64 0, .string ⟨#[]⟩, .slice (some ⟨b, off, none⟩) 3 c] 24)).cell? ⟨b, off + 9, none⟩ = some (.int .i64 A3.n) := (W1.cell (p := ⟨b, off + 9, none⟩) (Nat.lt_of_lt_of_le hbs hN)).trans (by simpa [Nat.add_assoc] using q1)
  have d22 : (w.alloc (.cells #[.int .i64 22, .int .i64 0, .string ⟨#[]⟩, .slice (some ⟨b, off, none⟩) 3 c] 24)).cell? ⟨b, off + 10, none⟩ = some (.string A3.nm) := (W1.cell (p := ⟨b, off + 10, none⟩) (Nat.lt_of_lt_of_le hbs hN)).trans (by simpa [Nat.add_assoc] using q2)
  have d23 : (w.alloc (.cells #[.int .i64 22, .int .i64 0, .string ⟨#[]⟩, .slice (some ⟨b, off, none⟩) 3 c] 24)).cell? ⟨b, off + 11, none⟩ = some (.slice (pl 2) A3.args.length (cl 2)) := (W1.cell (p := ⟨b, off + 11, none⟩) (Nat.lt_of_lt_of_le hbs hN)).trans (by simpa [Nat.add_assoc] using q3)
  have T2c := Lib.hid (fun W (hW : Below (w.alloc (.cells #[.int .i64 22, .int .i64 0, .string ⟨#[]⟩, .slice (some ⟨b, off, none⟩) 3 c] 24)).heap.size (w.alloc (.cells #[.int .i64 22, .int .i64 0, .string ⟨#[]⟩, .slice (some ⟨b, off, none⟩) 3 c] 24)) W) => textR_of hA3 lA3 1 N W _ ((x2.under (W1.mono hN)).under (hW.mono (by rw [World.size_alloc]; omega))) (Nat.le_trans hN (Nat.le_trans W1.size hW.size)) (ht.later (W1.then_ hW)))
  have m2 := lnP_plc 1 (bx A3)
  have m2' : lnP (bx A3).2 = lnP (bare A3) := rfl
  rw [m2'] at m2
  unfold lnP at m2 lA3
  have HP : Hid (txP (bare (.mk 22 0 ⟨#[]⟩ [A1, A2, A3])) = txP (plc 2 (bx A1)) ++ 32 :: 63 :: 32 :: (txP (plc 1 (bx A2)) ++ 32 :: 58 :: 32 :: txP (plc 1 (bx A3)))) := Lib.hid (by rw [bare_mk]; show txP (thr (bx A1) (bx A2) (bx A3)) = _; unfold thr; rw [txP_app, txP_cons, txP_cons, txP_cons, txP_app, txP_cons, txP_cons, txP_cons]; rfl)
  obtain ⟨t0, ht0⟩ : ∃ T, txP (plc 2 (bx A1)) = T := ⟨_, rfl⟩
  rw [ht0] at T0c m0
  obtain ⟨t1, ht1⟩ : ∃ T, txP (plc 1 (bx A2)) = T := ⟨_, rfl⟩
  rw [ht1] at T1c m1
  obtain ⟨t2, ht2⟩ : ∃ T, txP (plc 1 (bx A3)) = T := ⟨_, rfl⟩
  rw [ht2] at T2c m2
  have ml0 : t0.length ≤ 200000010 := by omega
  have ml1 : t1.length ≤ 200000010 := by omega
  have ml2 : t2.length ≤ 200000010 := by omega
  rw [ht0] at HP
  rw [ht1] at HP
  rw [ht2] at HP
  rw [HP.out]
  clear HP
  show Calls _ _ #[.agg #[.int .i64 22, .int .i64 0, .string ⟨#[]⟩, .slice (some ⟨b, off, none⟩) 3 c]] w _
  obtain ⟨A1o, hA1o⟩ : ∃ x, A1.op = x := ⟨_, rfl⟩
  rw [hA1o] at T0c d00
  obtain ⟨A1n, hA1n⟩ : ∃ x, A1.n = x := ⟨_, rfl⟩
  rw [hA1n] at T0c d01
  obtain ⟨A1s, hA1s⟩ : ∃ x, A1.nm = x := ⟨_, rfl⟩
  rw [hA1s] at T0c d02
  obtain ⟨A1k, hA1k⟩ : ∃ x, A1.args.length = x := ⟨_, rfl⟩
  rw [hA1k] at T0c d03
  obtain ⟨A1p, hA1p⟩ : ∃ x, pl 0 = x := ⟨_, rfl⟩
  rw [hA1p] at T0c d03
  obtain ⟨A1c, hA1c⟩ : ∃ x, cl 0 = x := ⟨_, rfl⟩
  rw [hA1c] at T0c d03
  obtain ⟨A2o, hA2o⟩ : ∃ x, A2.op = x := ⟨_, rfl⟩
  rw [hA2o] at T1c d10
  obtain ⟨A2n, hA2n⟩ : ∃ x, A2.n = x := ⟨_, rfl⟩
  rw [hA2n] at T1c d11
  obtain ⟨A2s, hA2s⟩ : ∃ x, A2.nm = x := ⟨_, rfl⟩
  rw [hA2s] at T1c d12
  obtain ⟨A2k, hA2k⟩ : ∃ x, A2.args.length = x := ⟨_, rfl⟩
  rw [hA2k] at T1c d13
  obtain ⟨A2p, hA2p⟩ : ∃ x, pl 1 = x := ⟨_, rfl⟩
  rw [hA2p] at T1c d13
  obtain ⟨A2c, hA2c⟩ : ∃ x, cl 1 = x := ⟨_, rfl⟩
  rw [hA2c] at T1c d13
  obtain ⟨A3o, hA3o⟩ : ∃ x, A3.op = x := ⟨_, rfl⟩
  rw [hA3o] at T2c d20
  obtain ⟨A3n, hA3n⟩ : ∃ x, A3.n = x := ⟨_, rfl⟩
  rw [hA3n] at T2c d21
  obtain ⟨A3s, hA3s⟩ : ∃ x, A3.nm = x := ⟨_, rfl⟩
  rw [hA3s] at T2c d22
  obtain ⟨A3k, hA3k⟩ : ∃ x, A3.args.length = x := ⟨_, rfl⟩
  rw [hA3k] at T2c d23
  obtain ⟨A3p, hA3p⟩ : ∃ x, pl 2 = x := ⟨_, rfl⟩
  rw [hA3p] at T2c d23
  obtain ⟨A3c, hA3c⟩ : ∃ x, cl 2 = x := ⟨_, rfl⟩
  rw [hA3c] at T2c d23
  have e0 := F1.c0
  have e1 := F1.c1
  have e2 := F1.c2
  have e3 := F1.c3
  have HW1 := Lib.hid W1
  have KK := Lib.hid (fun W (hW : Below (w.alloc (.cells #[.int .i64 22, .int .i64 0, .string ⟨#[]⟩, .slice (some ⟨b, off, none⟩) 3 c] 24)).heap.size (w.alloc (.cells #[.int .i64 22, .int .i64 0, .string ⟨#[]⟩, .slice (some ⟨b, off, none⟩) 3 c] 24)) W) => And.intro ((F1.stay hW).c3) (And.intro ((hW.cell (p := ⟨b, off, none⟩) (cell_lt d00)).trans d00) (And.intro ((hW.cell (p := ⟨b, off + 1, none⟩) (cell_lt d01)).trans d01) (And.intro ((hW.cell (p := ⟨b, off + 2, none⟩) (cell_lt d02)).trans d02) (And.intro ((hW.cell (p := ⟨b, off + 3, none⟩) (cell_lt d03)).trans d03) (And.intro ((hW.cell (p := ⟨b, off + 4, none⟩) (cell_lt d10)).trans d10) (And.intro ((hW.cell (p := ⟨b, off + 5, none⟩) (cell_lt d11)).trans d11) (And.intro ((hW.cell (p := ⟨b, off + 6, none⟩) (cell_lt d12)).trans d12) (And.intro ((hW.cell (p := ⟨b, off + 7, none⟩) (cell_lt d13)).trans d13) (And.intro ((hW.cell (p := ⟨b, off + 8, none⟩) (cell_lt d20)).trans d20) (And.intro ((hW.cell (p := ⟨b, off + 9, none⟩) (cell_lt d21)).trans d21) (And.intro ((hW.cell (p := ⟨b, off + 10, none⟩) (cell_lt d22)).trans d22) ((hW.cell (p := ⟨b, off + 11, none⟩) (cell_lt d23)).trans d23)))))))))))))
  have z0 : ¬ 9223372036854775807 < t0.length + 3 := by omega
  have z1 : ¬ 9223372036854775807 < t0.length + 3 + t1.length := by omega
  have z2 : ¬ 9223372036854775807 < t0.length + 3 + t1.length + 3 := by omega
  have z3 : ¬ 9223372036854775807 < t0.length + 3 + t1.length + 3 + t2.length := by omega
  have SC : Hid (∀ W, Calls Tryz.prog 36 #[.int .i64 22] W fun e w' => e = .returned (.tuple #[.string ⟨#[]⟩, .int .i64 0]) ∧ W = w') := Lib.hid (fun W => signR_any 22 W)
  have PC : Hid (∀ W, Calls Tryz.prog 38 #[.int .i64 22] W fun e w' => e = .returned (.string ⟨#[]⟩) ∧ W = w') := Lib.hid (fun W => prefixR_any 22 W)
  clear hx ha ht hs W1 hA1 lA1 x0 m0 m0' hA1o hA1n hA1s hA1k hA1p hA1c hA2 lA2 x1 m1 m1' hA2o hA2n hA2s hA2k hA2p hA2c hA3 lA3 x2 m2 m2' hA3o hA3n hA3s hA3k hA3p hA3c hcell q0 q1 q2 q3
  clear F1 ht0 ht1 ht2
  go_enter Tryz.func18, Tryz.ntmps18
  go_wp2_with (first | (go_at_call 36; ((with_reducible refine (SC.out _).mono ?_); rintro e w' ⟨rfl, rfl⟩)) | (go_at_call 38; ((with_reducible refine (PC.out _).mono ?_); rintro e w' ⟨rfl, rfl⟩)))
  go_region_held3 (fun w' => w'.cell? ⟨w.heap.size, 3, none⟩ = some (.slice (some ⟨b, off, none⟩) 3 c) ∧ w'.cell? ⟨b, off, none⟩ = some (.int .i64 A1o) ∧ w'.cell? ⟨b, off + 1, none⟩ = some (.int .i64 A1n) ∧ w'.cell? ⟨b, off + 2, none⟩ = some (.string A1s) ∧ w'.cell? ⟨b, off + 3, none⟩ = some (.slice A1p A1k A1c) ∧ w'.cell? ⟨b, off + 4, none⟩ = some (.int .i64 A2o) ∧ w'.cell? ⟨b, off + 5, none⟩ = some (.int .i64 A2n) ∧ w'.cell? ⟨b, off + 6, none⟩ = some (.string A2s) ∧ w'.cell? ⟨b, off + 7, none⟩ = some (.slice A2p A2k A2c) ∧ w'.cell? ⟨b, off + 8, none⟩ = some (.int .i64 A3o) ∧ w'.cell? ⟨b, off + 9, none⟩ = some (.int .i64 A3n) ∧ w'.cell? ⟨b, off + 10, none⟩ = some (.string A3s) ∧ w'.cell? ⟨b, off + 11, none⟩ = some (.slice A3p A3k A3c)) (first | exact KK.out _ (Below.refl _ _).drew | exact KK.out _ (Below.refl _ _) | exact KK.out _ HB0.out | exact KK.out _ HB1.out | exact KK.out _ HB2.out) (first | (go_at_call 37; (with_reducible refine (T0c.out _ ?_).mono ?_); (first | exact (Below.refl _ _).drew | exact Below.refl _ _); rintro e w3 ⟨rfl, hb⟩; have HB0 := Lib.hid (((Below.refl _ _).drew).then_ hb); have KN0 := KK.out _ HB0.out; clear hb) | (go_at_call 37; (with_reducible refine (T1c.out _ ?_).mono ?_); (first | exact HB0.out); rintro e w4 ⟨rfl, hb⟩; have HB1 := Lib.hid ((HB0.out).then_ hb); have KN1 := KK.out _ HB1.out; clear hb) | (go_at_call 37; (with_reducible refine (T2c.out _ ?_).mono ?_); (first | exact HB1.out); rintro e w5 ⟨rfl, hb⟩; have HB2 := Lib.hid ((HB1.out).then_ hb); have KN2 := KK.out _ HB2.out; clear hb))
  all_goals
    go_wp2
    go_ret
    exact tSt_mk (by simp [ByteArray.data_append]) (HW1.out.then_ HB2.out)
set_option maxRecDepth 100000 in
set_option maxHeartbeats 4000000 in
theorem plain_imp {A1 A2 : Ex} (hA1 : PlainC A1) (lA1 : lnP (bare A1) ≤ 200000000) (hA2 : PlainC A2) (lA2 : lnP (bare A2) ≤ 200000000) : PlainC (.mk 21 0 ⟨#[]⟩ [A1, A2]) := by
  intro N w v hx hN ht
  obtain ⟨p, c, pl, cl, rfl, hs, ha⟩ := hx.form
  simp only [Ex.op, Ex.n, Ex.nm, Ex.args, List.length_cons, List.length_nil, Nat.zero_add, Nat.reduceAdd] at hs ha ⊢
  obtain ⟨b, off, rfl, hbs, hcell⟩ := ha.hp (by simp)
  have W1 : Below w.heap.size w (w.alloc (.cells #[.int .i64 21, .int .i64 0, .string ⟨#[]⟩, .slice (some ⟨b, off, none⟩) 2 c] 24)) := (Below.refl _ _).alloc (Nat.le_refl _) _
  have F1 := Four.new w (.int .i64 21) (.int .i64 0) (.string ⟨#[]⟩) (.slice (some ⟨b, off, none⟩) 2 c) 24
  have x0 := ha.hx 0 A1 rfl
  obtain ⟨q0, q1, q2, q3⟩ := hcell 0 A1 rfl
  have d00 : (w.alloc (.cells #[.int .i64 21, .int .i64 0, .string ⟨#[]⟩, .slice (some ⟨b, off, none⟩) 2 c] 24)).cell? ⟨b, off, none⟩ = some (.int .i64 A1.op) := (W1.cell (p := ⟨b, off, none⟩) (Nat.lt_of_lt_of_le hbs hN)).trans (by simpa [Nat.add_assoc] using q0)
  have d01 : (w.alloc (.cells #[.int .i64 21, .int .i64 0, .string ⟨#[]⟩, .slice (some ⟨b, off, none⟩) 2 c] 24)).cell? ⟨b, off + 1, none⟩ = some (.int .i64 A1.n) := (W1.cell (p := ⟨b, off + 1, none⟩) (Nat.lt_of_lt_of_le hbs hN)).trans (by simpa [Nat.add_assoc] using q1)
  have d02 : (w.alloc (.cells #[.int .i64 21, .int .i64 0, .string ⟨#[]⟩, .slice (some ⟨b, off, none⟩) 2 c] 24)).cell? ⟨b, off + 2, none⟩ = some (.string A1.nm) := (W1.cell (p := ⟨b, off + 2, none⟩) (Nat.lt_of_lt_of_le hbs hN)).trans (by simpa [Nat.add_assoc] using q2)
  have d03 : (w.alloc (.cells #[.int .i64 21, .int .i64 0, .string ⟨#[]⟩, .slice (some ⟨b, off, none⟩) 2 c] 24)).cell? ⟨b, off + 3, none⟩ = some (.slice (pl 0) A1.args.length (cl 0)) := (W1.cell (p := ⟨b, off + 3, none⟩) (Nat.lt_of_lt_of_le hbs hN)).trans (by simpa [Nat.add_assoc] using q3)
  have T0c := Lib.hid (fun W (hW : Below (w.alloc (.cells #[.int .i64 21, .int .i64 0, .string ⟨#[]⟩, .slice (some ⟨b, off, none⟩) 2 c] 24)).heap.size (w.alloc (.cells #[.int .i64 21, .int .i64 0, .string ⟨#[]⟩, .slice (some ⟨b, off, none⟩) 2 c] 24)) W) => textR_of hA1 lA1 3 N W _ ((x0.under (W1.mono hN)).under (hW.mono (by rw [World.size_alloc]; omega))) (Nat.le_trans hN (Nat.le_trans W1.size hW.size)) (ht.later (W1.then_ hW)))
  have m0 := lnP_plc 3 (bx A1)
  have m0' : lnP (bx A1).2 = lnP (bare A1) := rfl
  rw [m0'] at m0
  unfold lnP at m0 lA1
  have x1 := ha.hx 1 A2 rfl
  obtain ⟨q0, q1, q2, q3⟩ := hcell 1 A2 rfl
  have d10 : (w.alloc (.cells #[.int .i64 21, .int .i64 0, .string ⟨#[]⟩, .slice (some ⟨b, off, none⟩) 2 c] 24)).cell? ⟨b, off + 4, none⟩ = some (.int .i64 A2.op) := (W1.cell (p := ⟨b, off + 4, none⟩) (Nat.lt_of_lt_of_le hbs hN)).trans (by simpa [Nat.add_assoc] using q0)
  have d11 : (w.alloc (.cells #[.int .i64 21, .int .i64 0, .string ⟨#[]⟩, .slice (some ⟨b, off, none⟩) 2 c] 24)).cell? ⟨b, off + 5, none⟩ = some (.int .i64 A2.n) := (W1.cell (p := ⟨b, off + 5, none⟩) (Nat.lt_of_lt_of_le hbs hN)).trans (by simpa [Nat.add_assoc] using q1)
  have d12 : (w.alloc (.cells #[.int .i64 21, .int .i64 0, .string ⟨#[]⟩, .slice (some ⟨b, off, none⟩) 2 c] 24)).cell? ⟨b, off + 6, none⟩ = some (.string A2.nm) := (W1.cell (p := ⟨b, off + 6, none⟩) (Nat.lt_of_lt_of_le hbs hN)).trans (by simpa [Nat.add_assoc] using q2)
  have d13 : (w.alloc (.cells #[.int .i64 21, .int .i64 0, .string ⟨#[]⟩, .slice (some ⟨b, off, none⟩) 2 c] 24)).cell? ⟨b, off + 7, none⟩ = some (.slice (pl 1) A2.args.length (cl 1)) := (W1.cell (p := ⟨b, off + 7, none⟩) (Nat.lt_of_lt_of_le hbs hN)).trans (by simpa [Nat.add_assoc] using q3)
  have T1c := Lib.hid (fun W (hW : Below (w.alloc (.cells #[.int .i64 21, .int .i64 0, .string ⟨#[]⟩, .slice (some ⟨b, off, none⟩) 2 c] 24)).heap.size (w.alloc (.cells #[.int .i64 21, .int .i64 0, .string ⟨#[]⟩, .slice (some ⟨b, off, none⟩) 2 c] 24)) W) => textR_of hA2 lA2 2 N W _ ((x1.under (W1.mono hN)).under (hW.mono (by rw [World.size_alloc]; omega))) (Nat.le_trans hN (Nat.le_trans W1.size hW.size)) (ht.later (W1.then_ hW)))
  have m1 := lnP_plc 2 (bx A2)
  have m1' : lnP (bx A2).2 = lnP (bare A2) := rfl
  rw [m1'] at m1
  unfold lnP at m1 lA2
  have HP : Hid (txP (bare (.mk 21 0 ⟨#[]⟩ [A1, A2])) = txP (plc 3 (bx A1)) ++ 32 :: 61 :: 62 :: 32 :: txP (plc 2 (bx A2))) := Lib.hid (by rw [bare_mk]; show txP (form 21 0 _ [bx A1, bx A2]) = _; rw [form_bin (by decide) (by decide)]; unfold two; rw [txP_app, txP_cons, txP_cons, txP_cons]; rfl)
  obtain ⟨t0, ht0⟩ : ∃ T, txP (plc 3 (bx A1)) = T := ⟨_, rfl⟩
  rw [ht0] at T0c m0
  obtain ⟨t1, ht1⟩ : ∃ T, txP (plc 2 (bx A2)) = T := ⟨_, rfl⟩
  rw [ht1] at T1c m1
  have ml0 : t0.length ≤ 200000010 := by omega
  have ml1 : t1.length ≤ 200000010 := by omega
  rw [ht0] at HP
  rw [ht1] at HP
  rw [HP.out]
  clear HP
  show Calls _ _ #[.agg #[.int .i64 21, .int .i64 0, .string ⟨#[]⟩, .slice (some ⟨b, off, none⟩) 2 c]] w _
  obtain ⟨A1o, hA1o⟩ : ∃ x, A1.op = x := ⟨_, rfl⟩
  rw [hA1o] at T0c d00
  obtain ⟨A1n, hA1n⟩ : ∃ x, A1.n = x := ⟨_, rfl⟩
  rw [hA1n] at T0c d01
  obtain ⟨A1s, hA1s⟩ : ∃ x, A1.nm = x := ⟨_, rfl⟩
  rw [hA1s] at T0c d02
  obtain ⟨A1k, hA1k⟩ : ∃ x, A1.args.length = x := ⟨_, rfl⟩
  rw [hA1k] at T0c d03
  obtain ⟨A1p, hA1p⟩ : ∃ x, pl 0 = x := ⟨_, rfl⟩
  rw [hA1p] at T0c d03
  obtain ⟨A1c, hA1c⟩ : ∃ x, cl 0 = x := ⟨_, rfl⟩
  rw [hA1c] at T0c d03
  obtain ⟨A2o, hA2o⟩ : ∃ x, A2.op = x := ⟨_, rfl⟩
  rw [hA2o] at T1c d10
  obtain ⟨A2n, hA2n⟩ : ∃ x, A2.n = x := ⟨_, rfl⟩
  rw [hA2n] at T1c d11
  obtain ⟨A2s, hA2s⟩ : ∃ x, A2.nm = x := ⟨_, rfl⟩
  rw [hA2s] at T1c d12
  obtain ⟨A2k, hA2k⟩ : ∃ x, A2.args.length = x := ⟨_, rfl⟩
  rw [hA2k] at T1c d13
  obtain ⟨A2p, hA2p⟩ : ∃ x, pl 1 = x := ⟨_, rfl⟩
  rw [hA2p] at T1c d13
  obtain ⟨A2c, hA2c⟩ : ∃ x, cl 1 = x := ⟨_, rfl⟩
  rw [hA2c] at T1c d13
  have e0 := F1.c0
  have e1 := F1.c1
  have e2 := F1.c2
  have e3 := F1.c3
  have HW1 := Lib.hid W1
  have KK := Lib.hid (fun W (hW : Below (w.alloc (.cells #[.int .i64 21, .int .i64 0, .string ⟨#[]⟩, .slice (some ⟨b, off, none⟩) 2 c] 24)).heap.size (w.alloc (.cells #[.int .i64 21, .int .i64 0, .string ⟨#[]⟩, .slice (some ⟨b, off, none⟩) 2 c] 24)) W) => And.intro ((F1.stay hW).c3) (And.intro ((hW.cell (p := ⟨b, off, none⟩) (cell_lt d00)).trans d00) (And.intro ((hW.cell (p := ⟨b, off + 1, none⟩) (cell_lt d01)).trans d01) (And.intro ((hW.cell (p := ⟨b, off + 2, none⟩) (cell_lt d02)).trans d02) (And.intro ((hW.cell (p := ⟨b, off + 3, none⟩) (cell_lt d03)).trans d03) (And.intro ((hW.cell (p := ⟨b, off + 4, none⟩) (cell_lt d10)).trans d10) (And.intro ((hW.cell (p := ⟨b, off + 5, none⟩) (cell_lt d11)).trans d11) (And.intro ((hW.cell (p := ⟨b, off + 6, none⟩) (cell_lt d12)).trans d12) ((hW.cell (p := ⟨b, off + 7, none⟩) (cell_lt d13)).trans d13)))))))))
  have z0 : ¬ 9223372036854775807 < t0.length + 4 := by omega
  have z1 : ¬ 9223372036854775807 < t0.length + 4 + t1.length := by omega
  have SC : Hid (∀ W, Calls Tryz.prog 36 #[.int .i64 21] W fun e w' => e = .returned (.tuple #[.string ⟨#[]⟩, .int .i64 0]) ∧ W = w') := Lib.hid (fun W => signR_any 21 W)
  have PC : Hid (∀ W, Calls Tryz.prog 38 #[.int .i64 21] W fun e w' => e = .returned (.string ⟨#[]⟩) ∧ W = w') := Lib.hid (fun W => prefixR_any 21 W)
  clear hx ha ht hs W1 hA1 lA1 x0 m0 m0' hA1o hA1n hA1s hA1k hA1p hA1c hA2 lA2 x1 m1 m1' hA2o hA2n hA2s hA2k hA2p hA2c hcell q0 q1 q2 q3
  clear F1 ht0 ht1
  go_enter Tryz.func18, Tryz.ntmps18
  go_wp2_with (first | (go_at_call 36; ((with_reducible refine (SC.out _).mono ?_); rintro e w' ⟨rfl, rfl⟩)) | (go_at_call 38; ((with_reducible refine (PC.out _).mono ?_); rintro e w' ⟨rfl, rfl⟩)))
  go_region_held3 (fun w' => w'.cell? ⟨w.heap.size, 3, none⟩ = some (.slice (some ⟨b, off, none⟩) 2 c) ∧ w'.cell? ⟨b, off, none⟩ = some (.int .i64 A1o) ∧ w'.cell? ⟨b, off + 1, none⟩ = some (.int .i64 A1n) ∧ w'.cell? ⟨b, off + 2, none⟩ = some (.string A1s) ∧ w'.cell? ⟨b, off + 3, none⟩ = some (.slice A1p A1k A1c) ∧ w'.cell? ⟨b, off + 4, none⟩ = some (.int .i64 A2o) ∧ w'.cell? ⟨b, off + 5, none⟩ = some (.int .i64 A2n) ∧ w'.cell? ⟨b, off + 6, none⟩ = some (.string A2s) ∧ w'.cell? ⟨b, off + 7, none⟩ = some (.slice A2p A2k A2c)) (first | exact KK.out _ (Below.refl _ _).drew | exact KK.out _ (Below.refl _ _) | exact KK.out _ HB0.out | exact KK.out _ HB1.out) (first | (go_at_call 37; (with_reducible refine (T0c.out _ ?_).mono ?_); (first | exact (Below.refl _ _).drew | exact Below.refl _ _); rintro e w3 ⟨rfl, hb⟩; have HB0 := Lib.hid (((Below.refl _ _).drew).then_ hb); have KN0 := KK.out _ HB0.out; clear hb) | (go_at_call 37; (with_reducible refine (T1c.out _ ?_).mono ?_); (first | exact HB0.out); rintro e w4 ⟨rfl, hb⟩; have HB1 := Lib.hid ((HB0.out).then_ hb); have KN1 := KK.out _ HB1.out; clear hb))
  all_goals
    go_wp2
    go_ret
    exact tSt_mk (by simp [ByteArray.data_append]) (HW1.out.then_ HB1.out)
set_option maxRecDepth 100000 in
set_option maxHeartbeats 4000000 in
theorem plain_pre4 {A1 : Ex} (hA1 : PlainC A1) (lA1 : lnP (bare A1) ≤ 200000000) : PlainC (.mk 4 0 ⟨#[]⟩ [A1]) := by
  intro N w v hx hN ht
  obtain ⟨p, c, pl, cl, rfl, hs, ha⟩ := hx.form
  simp only [Ex.op, Ex.n, Ex.nm, Ex.args, List.length_cons, List.length_nil, Nat.zero_add] at hs ha ⊢
  obtain ⟨b, off, rfl, hbs, hcell⟩ := ha.hp (by simp)
  have W1 : Below w.heap.size w (w.alloc (.cells #[.int .i64 4, .int .i64 0, .string ⟨#[]⟩, .slice (some ⟨b, off, none⟩) 1 c] 24)) := (Below.refl _ _).alloc (Nat.le_refl _) _
  have F1 := Four.new w (.int .i64 4) (.int .i64 0) (.string ⟨#[]⟩) (.slice (some ⟨b, off, none⟩) 1 c) 24
  have x0 := ha.hx 0 A1 rfl
  obtain ⟨q0, q1, q2, q3⟩ := hcell 0 A1 rfl
  have d00 : (w.alloc (.cells #[.int .i64 4, .int .i64 0, .string ⟨#[]⟩, .slice (some ⟨b, off, none⟩) 1 c] 24)).cell? ⟨b, off, none⟩ = some (.int .i64 A1.op) := (W1.cell (p := ⟨b, off, none⟩) (Nat.lt_of_lt_of_le hbs hN)).trans (by simpa [Nat.add_assoc] using q0)
  have d01 : (w.alloc (.cells #[.int .i64 4, .int .i64 0, .string ⟨#[]⟩, .slice (some ⟨b, off, none⟩) 1 c] 24)).cell? ⟨b, off + 1, none⟩ = some (.int .i64 A1.n) := (W1.cell (p := ⟨b, off + 1, none⟩) (Nat.lt_of_lt_of_le hbs hN)).trans (by simpa [Nat.add_assoc] using q1)
  have d02 : (w.alloc (.cells #[.int .i64 4, .int .i64 0, .string ⟨#[]⟩, .slice (some ⟨b, off, none⟩) 1 c] 24)).cell? ⟨b, off + 2, none⟩ = some (.string A1.nm) := (W1.cell (p := ⟨b, off + 2, none⟩) (Nat.lt_of_lt_of_le hbs hN)).trans (by simpa [Nat.add_assoc] using q2)
  have d03 : (w.alloc (.cells #[.int .i64 4, .int .i64 0, .string ⟨#[]⟩, .slice (some ⟨b, off, none⟩) 1 c] 24)).cell? ⟨b, off + 3, none⟩ = some (.slice (pl 0) A1.args.length (cl 0)) := (W1.cell (p := ⟨b, off + 3, none⟩) (Nat.lt_of_lt_of_le hbs hN)).trans (by simpa [Nat.add_assoc] using q3)
  have T0c := Lib.hid (fun W (hW : Below (w.alloc (.cells #[.int .i64 4, .int .i64 0, .string ⟨#[]⟩, .slice (some ⟨b, off, none⟩) 1 c] 24)).heap.size (w.alloc (.cells #[.int .i64 4, .int .i64 0, .string ⟨#[]⟩, .slice (some ⟨b, off, none⟩) 1 c] 24)) W) => textR_of hA1 lA1 13 N W _ ((x0.under (W1.mono hN)).under (hW.mono (by rw [World.size_alloc]; omega))) (Nat.le_trans hN (Nat.le_trans W1.size hW.size)) (ht.later (W1.then_ hW)))
  have m0 := lnP_plc 13 (bx A1)
  have m0' : lnP (bx A1).2 = lnP (bare A1) := rfl
  rw [m0'] at m0
  unfold lnP at m0 lA1
  have HP : Hid (txP (bare (.mk 4 0 ⟨#[]⟩ [A1])) = 33 :: txP (plc 13 (bx A1))) := Lib.hid (by rw [bare_mk]; show txP (.mk (pMark 4) :: plc 13 (bx A1)) = _; rw [txP_cons]; rfl)
  obtain ⟨t0, ht0⟩ : ∃ T, txP (plc 13 (bx A1)) = T := ⟨_, rfl⟩
  rw [ht0] at T0c m0
  have ml0 : t0.length ≤ 200000010 := by omega
  rw [ht0] at HP
  rw [HP.out]
  clear HP
  show Calls _ _ #[.agg #[.int .i64 4, .int .i64 0, .string ⟨#[]⟩, .slice (some ⟨b, off, none⟩) 1 c]] w _
  obtain ⟨A1o, hA1o⟩ : ∃ x, A1.op = x := ⟨_, rfl⟩
  rw [hA1o] at T0c d00
  obtain ⟨A1n, hA1n⟩ : ∃ x, A1.n = x := ⟨_, rfl⟩
  rw [hA1n] at T0c d01
  obtain ⟨A1s, hA1s⟩ : ∃ x, A1.nm = x := ⟨_, rfl⟩
  rw [hA1s] at T0c d02
  obtain ⟨A1k, hA1k⟩ : ∃ x, A1.args.length = x := ⟨_, rfl⟩
  rw [hA1k] at T0c d03
  obtain ⟨A1p, hA1p⟩ : ∃ x, pl 0 = x := ⟨_, rfl⟩
  rw [hA1p] at T0c d03
  obtain ⟨A1c, hA1c⟩ : ∃ x, cl 0 = x := ⟨_, rfl⟩
  rw [hA1c] at T0c d03
  have e0 := F1.c0
  have e1 := F1.c1
  have e2 := F1.c2
  have e3 := F1.c3
  have HW1 := Lib.hid W1
  have KK := Lib.hid (fun W (hW : Below (w.alloc (.cells #[.int .i64 4, .int .i64 0, .string ⟨#[]⟩, .slice (some ⟨b, off, none⟩) 1 c] 24)).heap.size (w.alloc (.cells #[.int .i64 4, .int .i64 0, .string ⟨#[]⟩, .slice (some ⟨b, off, none⟩) 1 c] 24)) W) => And.intro ((F1.stay hW).c0) (And.intro ((F1.stay hW).c3) (And.intro ((hW.cell (p := ⟨b, off, none⟩) (cell_lt d00)).trans d00) (And.intro ((hW.cell (p := ⟨b, off + 1, none⟩) (cell_lt d01)).trans d01) (And.intro ((hW.cell (p := ⟨b, off + 2, none⟩) (cell_lt d02)).trans d02) ((hW.cell (p := ⟨b, off + 3, none⟩) (cell_lt d03)).trans d03))))))
  have z0 : ¬ 9223372036854775807 < 1 + t0.length := by omega
  have SC : Hid (∀ W, Calls Tryz.prog 36 #[.int .i64 4] W fun e w' => e = .returned (.tuple #[.string ⟨#[]⟩, .int .i64 0]) ∧ W = w') := Lib.hid (fun W => signR_any 4 W)
  have PC : Hid (∀ W, Calls Tryz.prog 38 #[.int .i64 4] W fun e w' => e = .returned (.string ⟨#[33]⟩) ∧ W = w') := Lib.hid (fun W => prefixR_any 4 W)
  clear hx ha ht hs W1 hA1 lA1 x0 m0 m0' hA1o hA1n hA1s hA1k hA1p hA1c hcell q0 q1 q2 q3
  clear F1 ht0
  go_enter Tryz.func18, Tryz.ntmps18
  go_wp2_with (first | (go_at_call 36; ((with_reducible refine (SC.out _).mono ?_); rintro e w' ⟨rfl, rfl⟩)) | (go_at_call 38; ((with_reducible refine (PC.out _).mono ?_); rintro e w' ⟨rfl, rfl⟩)))
  go_region_held3 (fun w' => w'.cell? ⟨w.heap.size, 0, none⟩ = some (.int .i64 4) ∧ w'.cell? ⟨w.heap.size, 3, none⟩ = some (.slice (some ⟨b, off, none⟩) 1 c) ∧ w'.cell? ⟨b, off, none⟩ = some (.int .i64 A1o) ∧ w'.cell? ⟨b, off + 1, none⟩ = some (.int .i64 A1n) ∧ w'.cell? ⟨b, off + 2, none⟩ = some (.string A1s) ∧ w'.cell? ⟨b, off + 3, none⟩ = some (.slice A1p A1k A1c)) (first | exact KK.out _ (Below.refl _ _).drew | exact KK.out _ (Below.refl _ _) | exact KK.out _ HB0.out) (first | (go_at_call 38; ((with_reducible refine (PC.out _).mono ?_); rintro e w' ⟨rfl, rfl⟩)) | (go_at_call 37; (with_reducible refine (T0c.out _ ?_).mono ?_); (first | exact (Below.refl _ _).drew | exact Below.refl _ _); rintro e w3 ⟨rfl, hb⟩; have HB0 := Lib.hid (((Below.refl _ _).drew).then_ hb); have KN0 := KK.out _ HB0.out; clear hb))
  all_goals
    go_wp2
    go_ret
    exact tSt_mk (by simp [ByteArray.data_append]) (HW1.out.then_ HB0.out)
set_option maxRecDepth 100000 in
set_option maxHeartbeats 4000000 in
theorem plain_pre5 {A1 : Ex} (hA1 : PlainC A1) (lA1 : lnP (bare A1) ≤ 200000000) : PlainC (.mk 5 0 ⟨#[]⟩ [A1]) := by
  intro N w v hx hN ht
  obtain ⟨p, c, pl, cl, rfl, hs, ha⟩ := hx.form
  simp only [Ex.op, Ex.n, Ex.nm, Ex.args, List.length_cons, List.length_nil, Nat.zero_add] at hs ha ⊢
  obtain ⟨b, off, rfl, hbs, hcell⟩ := ha.hp (by simp)
  have W1 : Below w.heap.size w (w.alloc (.cells #[.int .i64 5, .int .i64 0, .string ⟨#[]⟩, .slice (some ⟨b, off, none⟩) 1 c] 24)) := (Below.refl _ _).alloc (Nat.le_refl _) _
  have F1 := Four.new w (.int .i64 5) (.int .i64 0) (.string ⟨#[]⟩) (.slice (some ⟨b, off, none⟩) 1 c) 24
  have x0 := ha.hx 0 A1 rfl
  obtain ⟨q0, q1, q2, q3⟩ := hcell 0 A1 rfl
  have d00 : (w.alloc (.cells #[.int .i64 5, .int .i64 0, .string ⟨#[]⟩, .slice (some ⟨b, off, none⟩) 1 c] 24)).cell? ⟨b, off, none⟩ = some (.int .i64 A1.op) := (W1.cell (p := ⟨b, off, none⟩) (Nat.lt_of_lt_of_le hbs hN)).trans (by simpa [Nat.add_assoc] using q0)
  have d01 : (w.alloc (.cells #[.int .i64 5, .int .i64 0, .string ⟨#[]⟩, .slice (some ⟨b, off, none⟩) 1 c] 24)).cell? ⟨b, off + 1, none⟩ = some (.int .i64 A1.n) := (W1.cell (p := ⟨b, off + 1, none⟩) (Nat.lt_of_lt_of_le hbs hN)).trans (by simpa [Nat.add_assoc] using q1)
  have d02 : (w.alloc (.cells #[.int .i64 5, .int .i64 0, .string ⟨#[]⟩, .slice (some ⟨b, off, none⟩) 1 c] 24)).cell? ⟨b, off + 2, none⟩ = some (.string A1.nm) := (W1.cell (p := ⟨b, off + 2, none⟩) (Nat.lt_of_lt_of_le hbs hN)).trans (by simpa [Nat.add_assoc] using q2)
  have d03 : (w.alloc (.cells #[.int .i64 5, .int .i64 0, .string ⟨#[]⟩, .slice (some ⟨b, off, none⟩) 1 c] 24)).cell? ⟨b, off + 3, none⟩ = some (.slice (pl 0) A1.args.length (cl 0)) := (W1.cell (p := ⟨b, off + 3, none⟩) (Nat.lt_of_lt_of_le hbs hN)).trans (by simpa [Nat.add_assoc] using q3)
  have T0c := Lib.hid (fun W (hW : Below (w.alloc (.cells #[.int .i64 5, .int .i64 0, .string ⟨#[]⟩, .slice (some ⟨b, off, none⟩) 1 c] 24)).heap.size (w.alloc (.cells #[.int .i64 5, .int .i64 0, .string ⟨#[]⟩, .slice (some ⟨b, off, none⟩) 1 c] 24)) W) => textR_of hA1 lA1 13 N W _ ((x0.under (W1.mono hN)).under (hW.mono (by rw [World.size_alloc]; omega))) (Nat.le_trans hN (Nat.le_trans W1.size hW.size)) (ht.later (W1.then_ hW)))
  have m0 := lnP_plc 13 (bx A1)
  have m0' : lnP (bx A1).2 = lnP (bare A1) := rfl
  rw [m0'] at m0
  unfold lnP at m0 lA1
  have HP : Hid (txP (bare (.mk 5 0 ⟨#[]⟩ [A1])) = 126 :: txP (plc 13 (bx A1))) := Lib.hid (by rw [bare_mk]; show txP (.mk (pMark 5) :: plc 13 (bx A1)) = _; rw [txP_cons]; rfl)
  obtain ⟨t0, ht0⟩ : ∃ T, txP (plc 13 (bx A1)) = T := ⟨_, rfl⟩
  rw [ht0] at T0c m0
  have ml0 : t0.length ≤ 200000010 := by omega
  rw [ht0] at HP
  rw [HP.out]
  clear HP
  show Calls _ _ #[.agg #[.int .i64 5, .int .i64 0, .string ⟨#[]⟩, .slice (some ⟨b, off, none⟩) 1 c]] w _
  obtain ⟨A1o, hA1o⟩ : ∃ x, A1.op = x := ⟨_, rfl⟩
  rw [hA1o] at T0c d00
  obtain ⟨A1n, hA1n⟩ : ∃ x, A1.n = x := ⟨_, rfl⟩
  rw [hA1n] at T0c d01
  obtain ⟨A1s, hA1s⟩ : ∃ x, A1.nm = x := ⟨_, rfl⟩
  rw [hA1s] at T0c d02
  obtain ⟨A1k, hA1k⟩ : ∃ x, A1.args.length = x := ⟨_, rfl⟩
  rw [hA1k] at T0c d03
  obtain ⟨A1p, hA1p⟩ : ∃ x, pl 0 = x := ⟨_, rfl⟩
  rw [hA1p] at T0c d03
  obtain ⟨A1c, hA1c⟩ : ∃ x, cl 0 = x := ⟨_, rfl⟩
  rw [hA1c] at T0c d03
  have e0 := F1.c0
  have e1 := F1.c1
  have e2 := F1.c2
  have e3 := F1.c3
  have HW1 := Lib.hid W1
  have KK := Lib.hid (fun W (hW : Below (w.alloc (.cells #[.int .i64 5, .int .i64 0, .string ⟨#[]⟩, .slice (some ⟨b, off, none⟩) 1 c] 24)).heap.size (w.alloc (.cells #[.int .i64 5, .int .i64 0, .string ⟨#[]⟩, .slice (some ⟨b, off, none⟩) 1 c] 24)) W) => And.intro ((F1.stay hW).c0) (And.intro ((F1.stay hW).c3) (And.intro ((hW.cell (p := ⟨b, off, none⟩) (cell_lt d00)).trans d00) (And.intro ((hW.cell (p := ⟨b, off + 1, none⟩) (cell_lt d01)).trans d01) (And.intro ((hW.cell (p := ⟨b, off + 2, none⟩) (cell_lt d02)).trans d02) ((hW.cell (p := ⟨b, off + 3, none⟩) (cell_lt d03)).trans d03))))))
  have z0 : ¬ 9223372036854775807 < 1 + t0.length := by omega
  have SC : Hid (∀ W, Calls Tryz.prog 36 #[.int .i64 5] W fun e w' => e = .returned (.tuple #[.string ⟨#[]⟩, .int .i64 0]) ∧ W = w') := Lib.hid (fun W => signR_any 5 W)
  have PC : Hid (∀ W, Calls Tryz.prog 38 #[.int .i64 5] W fun e w' => e = .returned (.string ⟨#[126]⟩) ∧ W = w') := Lib.hid (fun W => prefixR_any 5 W)
  clear hx ha ht hs W1 hA1 lA1 x0 m0 m0' hA1o hA1n hA1s hA1k hA1p hA1c hcell q0 q1 q2 q3
  clear F1 ht0
  go_enter Tryz.func18, Tryz.ntmps18
  go_wp2_with (first | (go_at_call 36; ((with_reducible refine (SC.out _).mono ?_); rintro e w' ⟨rfl, rfl⟩)) | (go_at_call 38; ((with_reducible refine (PC.out _).mono ?_); rintro e w' ⟨rfl, rfl⟩)))
  go_region_held3 (fun w' => w'.cell? ⟨w.heap.size, 0, none⟩ = some (.int .i64 5) ∧ w'.cell? ⟨w.heap.size, 3, none⟩ = some (.slice (some ⟨b, off, none⟩) 1 c) ∧ w'.cell? ⟨b, off, none⟩ = some (.int .i64 A1o) ∧ w'.cell? ⟨b, off + 1, none⟩ = some (.int .i64 A1n) ∧ w'.cell? ⟨b, off + 2, none⟩ = some (.string A1s) ∧ w'.cell? ⟨b, off + 3, none⟩ = some (.slice A1p A1k A1c)) (first | exact KK.out _ (Below.refl _ _).drew | exact KK.out _ (Below.refl _ _) | exact KK.out _ HB0.out) (first | (go_at_call 38; ((with_reducible refine (PC.out _).mono ?_); rintro e w' ⟨rfl, rfl⟩)) | (go_at_call 37; (with_reducible refine (T0c.out _ ?_).mono ?_); (first | exact (Below.refl _ _).drew | exact Below.refl _ _); rintro e w3 ⟨rfl, hb⟩; have HB0 := Lib.hid (((Below.refl _ _).drew).then_ hb); have KN0 := KK.out _ HB0.out; clear hb))
  all_goals
    go_wp2
    go_ret
    exact tSt_mk (by simp [ByteArray.data_append]) (HW1.out.then_ HB0.out)
set_option maxRecDepth 100000 in
set_option maxHeartbeats 4000000 in
theorem plain_pre6 {A1 : Ex} (hA1 : PlainC A1) (lA1 : lnP (bare A1) ≤ 200000000) : PlainC (.mk 6 0 ⟨#[]⟩ [A1]) := by
  intro N w v hx hN ht
  obtain ⟨p, c, pl, cl, rfl, hs, ha⟩ := hx.form
  simp only [Ex.op, Ex.n, Ex.nm, Ex.args, List.length_cons, List.length_nil, Nat.zero_add] at hs ha ⊢
  obtain ⟨b, off, rfl, hbs, hcell⟩ := ha.hp (by simp)
  have W1 : Below w.heap.size w (w.alloc (.cells #[.int .i64 6, .int .i64 0, .string ⟨#[]⟩, .slice (some ⟨b, off, none⟩) 1 c] 24)) := (Below.refl _ _).alloc (Nat.le_refl _) _
  have F1 := Four.new w (.int .i64 6) (.int .i64 0) (.string ⟨#[]⟩) (.slice (some ⟨b, off, none⟩) 1 c) 24
  have x0 := ha.hx 0 A1 rfl
  obtain ⟨q0, q1, q2, q3⟩ := hcell 0 A1 rfl
  have d00 : (w.alloc (.cells #[.int .i64 6, .int .i64 0, .string ⟨#[]⟩, .slice (some ⟨b, off, none⟩) 1 c] 24)).cell? ⟨b, off, none⟩ = some (.int .i64 A1.op) := (W1.cell (p := ⟨b, off, none⟩) (Nat.lt_of_lt_of_le hbs hN)).trans (by simpa [Nat.add_assoc] using q0)
  have d01 : (w.alloc (.cells #[.int .i64 6, .int .i64 0, .string ⟨#[]⟩, .slice (some ⟨b, off, none⟩) 1 c] 24)).cell? ⟨b, off + 1, none⟩ = some (.int .i64 A1.n) := (W1.cell (p := ⟨b, off + 1, none⟩) (Nat.lt_of_lt_of_le hbs hN)).trans (by simpa [Nat.add_assoc] using q1)
  have d02 : (w.alloc (.cells #[.int .i64 6, .int .i64 0, .string ⟨#[]⟩, .slice (some ⟨b, off, none⟩) 1 c] 24)).cell? ⟨b, off + 2, none⟩ = some (.string A1.nm) := (W1.cell (p := ⟨b, off + 2, none⟩) (Nat.lt_of_lt_of_le hbs hN)).trans (by simpa [Nat.add_assoc] using q2)
  have d03 : (w.alloc (.cells #[.int .i64 6, .int .i64 0, .string ⟨#[]⟩, .slice (some ⟨b, off, none⟩) 1 c] 24)).cell? ⟨b, off + 3, none⟩ = some (.slice (pl 0) A1.args.length (cl 0)) := (W1.cell (p := ⟨b, off + 3, none⟩) (Nat.lt_of_lt_of_le hbs hN)).trans (by simpa [Nat.add_assoc] using q3)
  have T0c := Lib.hid (fun W (hW : Below (w.alloc (.cells #[.int .i64 6, .int .i64 0, .string ⟨#[]⟩, .slice (some ⟨b, off, none⟩) 1 c] 24)).heap.size (w.alloc (.cells #[.int .i64 6, .int .i64 0, .string ⟨#[]⟩, .slice (some ⟨b, off, none⟩) 1 c] 24)) W) => textR_of hA1 lA1 13 N W _ ((x0.under (W1.mono hN)).under (hW.mono (by rw [World.size_alloc]; omega))) (Nat.le_trans hN (Nat.le_trans W1.size hW.size)) (ht.later (W1.then_ hW)))
  have m0 := lnP_plc 13 (bx A1)
  have m0' : lnP (bx A1).2 = lnP (bare A1) := rfl
  rw [m0'] at m0
  unfold lnP at m0 lA1
  have HP : Hid (txP (bare (.mk 6 0 ⟨#[]⟩ [A1])) = 45 :: txP (plc 13 (bx A1))) := Lib.hid (by rw [bare_mk]; show txP (.mk (pMark 6) :: plc 13 (bx A1)) = _; rw [txP_cons]; rfl)
  obtain ⟨t0, ht0⟩ : ∃ T, txP (plc 13 (bx A1)) = T := ⟨_, rfl⟩
  rw [ht0] at T0c m0
  have ml0 : t0.length ≤ 200000010 := by omega
  rw [ht0] at HP
  rw [HP.out]
  clear HP
  show Calls _ _ #[.agg #[.int .i64 6, .int .i64 0, .string ⟨#[]⟩, .slice (some ⟨b, off, none⟩) 1 c]] w _
  obtain ⟨A1o, hA1o⟩ : ∃ x, A1.op = x := ⟨_, rfl⟩
  rw [hA1o] at T0c d00
  obtain ⟨A1n, hA1n⟩ : ∃ x, A1.n = x := ⟨_, rfl⟩
  rw [hA1n] at T0c d01
  obtain ⟨A1s, hA1s⟩ : ∃ x, A1.nm = x := ⟨_, rfl⟩
  rw [hA1s] at T0c d02
  obtain ⟨A1k, hA1k⟩ : ∃ x, A1.args.length = x := ⟨_, rfl⟩
  rw [hA1k] at T0c d03
  obtain ⟨A1p, hA1p⟩ : ∃ x, pl 0 = x := ⟨_, rfl⟩
  rw [hA1p] at T0c d03
  obtain ⟨A1c, hA1c⟩ : ∃ x, cl 0 = x := ⟨_, rfl⟩
  rw [hA1c] at T0c d03
  have e0 := F1.c0
  have e1 := F1.c1
  have e2 := F1.c2
  have e3 := F1.c3
  have HW1 := Lib.hid W1
  have KK := Lib.hid (fun W (hW : Below (w.alloc (.cells #[.int .i64 6, .int .i64 0, .string ⟨#[]⟩, .slice (some ⟨b, off, none⟩) 1 c] 24)).heap.size (w.alloc (.cells #[.int .i64 6, .int .i64 0, .string ⟨#[]⟩, .slice (some ⟨b, off, none⟩) 1 c] 24)) W) => And.intro ((F1.stay hW).c0) (And.intro ((F1.stay hW).c3) (And.intro ((hW.cell (p := ⟨b, off, none⟩) (cell_lt d00)).trans d00) (And.intro ((hW.cell (p := ⟨b, off + 1, none⟩) (cell_lt d01)).trans d01) (And.intro ((hW.cell (p := ⟨b, off + 2, none⟩) (cell_lt d02)).trans d02) ((hW.cell (p := ⟨b, off + 3, none⟩) (cell_lt d03)).trans d03))))))
  have z0 : ¬ 9223372036854775807 < 1 + t0.length := by omega
  have SC : Hid (∀ W, Calls Tryz.prog 36 #[.int .i64 6] W fun e w' => e = .returned (.tuple #[.string ⟨#[]⟩, .int .i64 0]) ∧ W = w') := Lib.hid (fun W => signR_any 6 W)
  have PC : Hid (∀ W, Calls Tryz.prog 38 #[.int .i64 6] W fun e w' => e = .returned (.string ⟨#[45]⟩) ∧ W = w') := Lib.hid (fun W => prefixR_any 6 W)
  clear hx ha ht hs W1 hA1 lA1 x0 m0 m0' hA1o hA1n hA1s hA1k hA1p hA1c hcell q0 q1 q2 q3
  clear F1 ht0
  go_enter Tryz.func18, Tryz.ntmps18
  go_wp2_with (first | (go_at_call 36; ((with_reducible refine (SC.out _).mono ?_); rintro e w' ⟨rfl, rfl⟩)) | (go_at_call 38; ((with_reducible refine (PC.out _).mono ?_); rintro e w' ⟨rfl, rfl⟩)))
  go_region_held3 (fun w' => w'.cell? ⟨w.heap.size, 0, none⟩ = some (.int .i64 6) ∧ w'.cell? ⟨w.heap.size, 3, none⟩ = some (.slice (some ⟨b, off, none⟩) 1 c) ∧ w'.cell? ⟨b, off, none⟩ = some (.int .i64 A1o) ∧ w'.cell? ⟨b, off + 1, none⟩ = some (.int .i64 A1n) ∧ w'.cell? ⟨b, off + 2, none⟩ = some (.string A1s) ∧ w'.cell? ⟨b, off + 3, none⟩ = some (.slice A1p A1k A1c)) (first | exact KK.out _ (Below.refl _ _).drew | exact KK.out _ (Below.refl _ _) | exact KK.out _ HB0.out) (first | (go_at_call 38; ((with_reducible refine (PC.out _).mono ?_); rintro e w' ⟨rfl, rfl⟩)) | (go_at_call 37; (with_reducible refine (T0c.out _ ?_).mono ?_); (first | exact (Below.refl _ _).drew | exact Below.refl _ _); rintro e w3 ⟨rfl, hb⟩; have HB0 := Lib.hid (((Below.refl _ _).drew).then_ hb); have KN0 := KK.out _ HB0.out; clear hb))
  all_goals
    go_wp2
    go_ret
    exact tSt_mk (by simp [ByteArray.data_append]) (HW1.out.then_ HB0.out)
theorem lev2 {o : Int} (h7 : 7 ≤ o) (h20 : o ≤ 20) : 3 ≤ bLev o := by
  unfold bLev
  rw [if_neg (by omega)]
  repeat' split
  all_goals omega
set_option maxRecDepth 100000 in
set_option maxHeartbeats 4000000 in
theorem plain_bin {o : Int} (h7 : 7 ≤ o) (h20 : o ≤ 20) {A1 A2 : Ex} (hA1 : PlainC A1) (lA1 : lnP (bare A1) ≤ 200000000) (hA2 : PlainC A2) (lA2 : lnP (bare A2) ≤ 200000000) : PlainC (.mk o 0 ⟨#[]⟩ [A1, A2]) := by
  have hl1 : lPl o = bLev o := by
    unfold lPl; rw [if_neg]; intro e
    have := lev2 h7 h20
    omega
  have hl2 : rPl o = bLev o + 1 := by
    unfold rPl; rw [if_neg]; intro e
    have := lev2 h7 h20
    omega
  intro N w v hx hN ht
  obtain ⟨p, c, pl, cl, rfl, hs, ha⟩ := hx.form
  simp only [Ex.op, Ex.n, Ex.nm, Ex.args, List.length_cons, List.length_nil, Nat.zero_add, Nat.reduceAdd] at hs ha ⊢
  obtain ⟨b, off, rfl, hbs, hcell⟩ := ha.hp (by simp)
  have W1 : Below w.heap.size w (w.alloc (.cells #[.int .i64 o, .int .i64 0, .string ⟨#[]⟩, .slice (some ⟨b, off, none⟩) 2 c] 24)) := (Below.refl _ _).alloc (Nat.le_refl _) _
  have F1 := Four.new w (.int .i64 o) (.int .i64 0) (.string ⟨#[]⟩) (.slice (some ⟨b, off, none⟩) 2 c) 24
  have x0 := ha.hx 0 A1 rfl
  obtain ⟨q0, q1, q2, q3⟩ := hcell 0 A1 rfl
  have d00 : (w.alloc (.cells #[.int .i64 o, .int .i64 0, .string ⟨#[]⟩, .slice (some ⟨b, off, none⟩) 2 c] 24)).cell? ⟨b, off, none⟩ = some (.int .i64 A1.op) := (W1.cell (p := ⟨b, off, none⟩) (Nat.lt_of_lt_of_le hbs hN)).trans (by simpa [Nat.add_assoc] using q0)
  have d01 : (w.alloc (.cells #[.int .i64 o, .int .i64 0, .string ⟨#[]⟩, .slice (some ⟨b, off, none⟩) 2 c] 24)).cell? ⟨b, off + 1, none⟩ = some (.int .i64 A1.n) := (W1.cell (p := ⟨b, off + 1, none⟩) (Nat.lt_of_lt_of_le hbs hN)).trans (by simpa [Nat.add_assoc] using q1)
  have d02 : (w.alloc (.cells #[.int .i64 o, .int .i64 0, .string ⟨#[]⟩, .slice (some ⟨b, off, none⟩) 2 c] 24)).cell? ⟨b, off + 2, none⟩ = some (.string A1.nm) := (W1.cell (p := ⟨b, off + 2, none⟩) (Nat.lt_of_lt_of_le hbs hN)).trans (by simpa [Nat.add_assoc] using q2)
  have d03 : (w.alloc (.cells #[.int .i64 o, .int .i64 0, .string ⟨#[]⟩, .slice (some ⟨b, off, none⟩) 2 c] 24)).cell? ⟨b, off + 3, none⟩ = some (.slice (pl 0) A1.args.length (cl 0)) := (W1.cell (p := ⟨b, off + 3, none⟩) (Nat.lt_of_lt_of_le hbs hN)).trans (by simpa [Nat.add_assoc] using q3)
  have T0c := Lib.hid (fun W (hW : Below (w.alloc (.cells #[.int .i64 o, .int .i64 0, .string ⟨#[]⟩, .slice (some ⟨b, off, none⟩) 2 c] 24)).heap.size (w.alloc (.cells #[.int .i64 o, .int .i64 0, .string ⟨#[]⟩, .slice (some ⟨b, off, none⟩) 2 c] 24)) W) => textR_of hA1 lA1 (bLev o) N W _ ((x0.under (W1.mono hN)).under (hW.mono (by rw [World.size_alloc]; omega))) (Nat.le_trans hN (Nat.le_trans W1.size hW.size)) (ht.later (W1.then_ hW)))
  have m0 := lnP_plc (bLev o) (bx A1)
  have m0' : lnP (bx A1).2 = lnP (bare A1) := rfl
  rw [m0'] at m0
  unfold lnP at m0 lA1
  have x1 := ha.hx 1 A2 rfl
  obtain ⟨q0, q1, q2, q3⟩ := hcell 1 A2 rfl
  have d10 : (w.alloc (.cells #[.int .i64 o, .int .i64 0, .string ⟨#[]⟩, .slice (some ⟨b, off, none⟩) 2 c] 24)).cell? ⟨b, off + 4, none⟩ = some (.int .i64 A2.op) := (W1.cell (p := ⟨b, off + 4, none⟩) (Nat.lt_of_lt_of_le hbs hN)).trans (by simpa [Nat.add_assoc] using q0)
  have d11 : (w.alloc (.cells #[.int .i64 o, .int .i64 0, .string ⟨#[]⟩, .slice (some ⟨b, off, none⟩) 2 c] 24)).cell? ⟨b, off + 5, none⟩ = some (.int .i64 A2.n) := (W1.cell (p := ⟨b, off + 5, none⟩) (Nat.lt_of_lt_of_le hbs hN)).trans (by simpa [Nat.add_assoc] using q1)
  have d12 : (w.alloc (.cells #[.int .i64 o, .int .i64 0, .string ⟨#[]⟩, .slice (some ⟨b, off, none⟩) 2 c] 24)).cell? ⟨b, off + 6, none⟩ = some (.string A2.nm) := (W1.cell (p := ⟨b, off + 6, none⟩) (Nat.lt_of_lt_of_le hbs hN)).trans (by simpa [Nat.add_assoc] using q2)
  have d13 : (w.alloc (.cells #[.int .i64 o, .int .i64 0, .string ⟨#[]⟩, .slice (some ⟨b, off, none⟩) 2 c] 24)).cell? ⟨b, off + 7, none⟩ = some (.slice (pl 1) A2.args.length (cl 1)) := (W1.cell (p := ⟨b, off + 7, none⟩) (Nat.lt_of_lt_of_le hbs hN)).trans (by simpa [Nat.add_assoc] using q3)
  have T1c := Lib.hid (fun W (hW : Below (w.alloc (.cells #[.int .i64 o, .int .i64 0, .string ⟨#[]⟩, .slice (some ⟨b, off, none⟩) 2 c] 24)).heap.size (w.alloc (.cells #[.int .i64 o, .int .i64 0, .string ⟨#[]⟩, .slice (some ⟨b, off, none⟩) 2 c] 24)) W) => textR_of hA2 lA2 (bLev o + 1) N W _ ((x1.under (W1.mono hN)).under (hW.mono (by rw [World.size_alloc]; omega))) (Nat.le_trans hN (Nat.le_trans W1.size hW.size)) (ht.later (W1.then_ hW)))
  have m1 := lnP_plc (bLev o + 1) (bx A2)
  have m1' : lnP (bx A2).2 = lnP (bare A2) := rfl
  rw [m1'] at m1
  unfold lnP at m1 lA2
  have HP : Hid (txP (bare (.mk o 0 ⟨#[]⟩ [A1, A2])) = txP (plc (bLev o) (bx A1)) ++ 32 :: (bMark o ++ 32 :: txP (plc (bLev o + 1) (bx A2)))) := Lib.hid (by rw [bare_mk]; show txP (form o 0 _ [bx A1, bx A2]) = _; rw [form_bin h7 (by omega)]; unfold two; rw [hl1, hl2, txP_app, txP_cons, txP_cons, txP_cons]; rfl)
  obtain ⟨t0, ht0⟩ : ∃ T, txP (plc (bLev o) (bx A1)) = T := ⟨_, rfl⟩
  rw [ht0] at T0c m0
  obtain ⟨t1, ht1⟩ : ∃ T, txP (plc (bLev o + 1) (bx A2)) = T := ⟨_, rfl⟩
  rw [ht1] at T1c m1
  have ml0 : t0.length ≤ 200000010 := by omega
  have ml1 : t1.length ≤ 200000010 := by omega
  rw [ht0] at HP
  rw [ht1] at HP
  rw [HP.out]
  clear HP
  show Calls _ _ #[.agg #[.int .i64 o, .int .i64 0, .string ⟨#[]⟩, .slice (some ⟨b, off, none⟩) 2 c]] w _
  obtain ⟨A1o, hA1o⟩ : ∃ x, A1.op = x := ⟨_, rfl⟩
  rw [hA1o] at T0c d00
  obtain ⟨A1n, hA1n⟩ : ∃ x, A1.n = x := ⟨_, rfl⟩
  rw [hA1n] at T0c d01
  obtain ⟨A1s, hA1s⟩ : ∃ x, A1.nm = x := ⟨_, rfl⟩
  rw [hA1s] at T0c d02
  obtain ⟨A1k, hA1k⟩ : ∃ x, A1.args.length = x := ⟨_, rfl⟩
  rw [hA1k] at T0c d03
  obtain ⟨A1p, hA1p⟩ : ∃ x, pl 0 = x := ⟨_, rfl⟩
  rw [hA1p] at T0c d03
  obtain ⟨A1c, hA1c⟩ : ∃ x, cl 0 = x := ⟨_, rfl⟩
  rw [hA1c] at T0c d03
  obtain ⟨A2o, hA2o⟩ : ∃ x, A2.op = x := ⟨_, rfl⟩
  rw [hA2o] at T1c d10
  obtain ⟨A2n, hA2n⟩ : ∃ x, A2.n = x := ⟨_, rfl⟩
  rw [hA2n] at T1c d11
  obtain ⟨A2s, hA2s⟩ : ∃ x, A2.nm = x := ⟨_, rfl⟩
  rw [hA2s] at T1c d12
  obtain ⟨A2k, hA2k⟩ : ∃ x, A2.args.length = x := ⟨_, rfl⟩
  rw [hA2k] at T1c d13
  obtain ⟨A2p, hA2p⟩ : ∃ x, pl 1 = x := ⟨_, rfl⟩
  rw [hA2p] at T1c d13
  obtain ⟨A2c, hA2c⟩ : ∃ x, cl 1 = x := ⟨_, rfl⟩
  rw [hA2c] at T1c d13
  have e0 := F1.c0
  have e1 := F1.c1
  have e2 := F1.c2
  have e3 := F1.c3
  have HW1 := Lib.hid W1
  have KK := Lib.hid (fun W (hW : Below (w.alloc (.cells #[.int .i64 o, .int .i64 0, .string ⟨#[]⟩, .slice (some ⟨b, off, none⟩) 2 c] 24)).heap.size (w.alloc (.cells #[.int .i64 o, .int .i64 0, .string ⟨#[]⟩, .slice (some ⟨b, off, none⟩) 2 c] 24)) W) => And.intro ((F1.stay hW).c3) (And.intro ((hW.cell (p := ⟨b, off, none⟩) (cell_lt d00)).trans d00) (And.intro ((hW.cell (p := ⟨b, off + 1, none⟩) (cell_lt d01)).trans d01) (And.intro ((hW.cell (p := ⟨b, off + 2, none⟩) (cell_lt d02)).trans d02) (And.intro ((hW.cell (p := ⟨b, off + 3, none⟩) (cell_lt d03)).trans d03) (And.intro ((hW.cell (p := ⟨b, off + 4, none⟩) (cell_lt d10)).trans d10) (And.intro ((hW.cell (p := ⟨b, off + 5, none⟩) (cell_lt d11)).trans d11) (And.intro ((hW.cell (p := ⟨b, off + 6, none⟩) (cell_lt d12)).trans d12) ((hW.cell (p := ⟨b, off + 7, none⟩) (cell_lt d13)).trans d13)))))))))
  have hbf := (bin_facts h7 (by omega : o ≤ 21)).2.2.2.2.2
  have hml := mk_len (bMark_mk h7 (by omega : o ≤ 21))
  have SC0 := fun W => signR_any o W
  rw [show sgM o = bMark o from if_neg (by omega), show sgL o = bLev o from if_neg (by omega)] at SC0
  obtain ⟨K, hK⟩ : ∃ K, bLev o = K := ⟨_, rfl⟩
  obtain ⟨B, hB⟩ : ∃ B, bMark o = B := ⟨_, rfl⟩
  rw [hK] at SC0 T0c T1c hbf
  rw [hB] at SC0 hml
  rw [hB]
  obtain ⟨mk, hmk⟩ : ∃ m, bs B = m := ⟨_, rfl⟩
  rw [hmk] at SC0
  have SC := Lib.hid SC0
  have hms : mk.size = B.length := by rw [← hmk]; rfl
  have hmd : mk.data.toList = B := by rw [← hmk]
  have HMD := Lib.hid hmd
  have hbl : B.length ≤ 2 := by rcases hml with g | g <;> omega
  have kp : (0 : Int) < K := by omega
  have kw : IntKind.i64.wrap (K + 1) = K + 1 := IntWalk.i64_in _ (by omega)
  have z0 : ¬ 9223372036854775807 < t0.length + 1 := by omega
  have z1 : ¬ 9223372036854775807 < t0.length + 1 + mk.size := by omega
  have z2 : ¬ 9223372036854775807 < t0.length + 1 + mk.size + 1 := by omega
  have z3 : ¬ 9223372036854775807 < t0.length + 1 + mk.size + 1 + t1.length := by omega
  clear hbf hml hK hB hmk hms hmd SC0 hl1 hl2 h7 h20
  clear hx ha ht hs W1 hA1 lA1 x0 m0 m0' hA1o hA1n hA1s hA1k hA1p hA1c hA2 lA2 x1 m1 m1' hA2o hA2n hA2s hA2k hA2p hA2c hcell q0 q1 q2 q3
  clear F1 ht0 ht1
  go_enter Tryz.func18, Tryz.ntmps18
  go_wp2_with (first | (go_at_call 36; ((with_reducible refine (SC.out _).mono ?_); rintro e w' ⟨rfl, rfl⟩)))
  go_region_held3 (fun w' => w'.cell? ⟨w.heap.size, 3, none⟩ = some (.slice (some ⟨b, off, none⟩) 2 c) ∧ w'.cell? ⟨b, off, none⟩ = some (.int .i64 A1o) ∧ w'.cell? ⟨b, off + 1, none⟩ = some (.int .i64 A1n) ∧ w'.cell? ⟨b, off + 2, none⟩ = some (.string A1s) ∧ w'.cell? ⟨b, off + 3, none⟩ = some (.slice A1p A1k A1c) ∧ w'.cell? ⟨b, off + 4, none⟩ = some (.int .i64 A2o) ∧ w'.cell? ⟨b, off + 5, none⟩ = some (.int .i64 A2n) ∧ w'.cell? ⟨b, off + 6, none⟩ = some (.string A2s) ∧ w'.cell? ⟨b, off + 7, none⟩ = some (.slice A2p A2k A2c)) (first | exact KK.out _ (Below.refl _ _).drew | exact KK.out _ (Below.refl _ _) | exact KK.out _ HB0.out | exact KK.out _ HB1.out) (first | (go_at_call 37; (with_reducible refine (T0c.out _ ?_).mono ?_); (first | exact (Below.refl _ _).drew | exact Below.refl _ _); rintro e w3 ⟨rfl, hb⟩; have HB0 := Lib.hid (((Below.refl _ _).drew).then_ hb); have KN0 := KK.out _ HB0.out; clear hb) | (go_at_call 37; (with_reducible refine (T1c.out _ ?_).mono ?_); (first | exact HB0.out); rintro e w4 ⟨rfl, hb⟩; have HB1 := Lib.hid ((HB0.out).then_ hb); have KN1 := KK.out _ HB1.out; clear hb))
  all_goals
    go_wp2
    go_ret
    exact tSt_mk (by simp [ByteArray.data_append, HMD.out]) (HW1.out.then_ HB1.out)
set_option maxRecDepth 100000 in
set_option maxHeartbeats 4000000 in
theorem plain_con {n : Int} (h0 : 0 ≤ n) (h1 : n ≤ 65535) : PlainC (.mk 1 n ⟨#[]⟩ []) := by
  intro N w v hx hN ht
  obtain ⟨p, c, pl, cl, rfl, hs, ha⟩ := hx.form
  simp only [Ex.op, Ex.n, Ex.nm, Ex.args, List.length_nil] at hs ha ⊢
  have W1 : Below w.heap.size w (w.alloc (.cells #[.int .i64 1, .int .i64 n, .string ⟨#[]⟩, .slice p 0 c] 24)) := (Below.refl _ _).alloc (Nat.le_refl _) _
  have F1 := Four.new w (.int .i64 1) (.int .i64 n) (.string ⟨#[]⟩) (.slice p 0 c) 24
  have HP : Hid (txP (bare (.mk 1 n ⟨#[]⟩ [])) = Lib.itoa n) := Lib.hid (by rw [bare_mk]; show txP [.wd 3 n (Lib.itoa n)] = _; simp [txP, Pc.tx])
  rw [HP.out]
  show Calls _ _ #[.agg #[.int .i64 1, .int .i64 n, .string ⟨#[]⟩, .slice p 0 c]] w _
  have e0 := F1.c0
  have e1 := F1.c1
  have e2 := F1.c2
  have e3 := F1.c3
  have HW1 := Lib.hid W1
  have DD := Lib.hid (decimalR_any n (w.alloc (.cells #[.int .i64 1, .int .i64 n, .string ⟨#[]⟩, .slice p 0 c] 24)) h0 h1)
  have SC : Hid (∀ W, Calls Tryz.prog 36 #[.int .i64 1] W fun e w' => e = .returned (.tuple #[.string ⟨#[]⟩, .int .i64 0]) ∧ W = w') := Lib.hid (fun W => signR_any 1 W)
  have PC : Hid (∀ W, Calls Tryz.prog 38 #[.int .i64 1] W fun e w' => e = .returned (.string ⟨#[]⟩) ∧ W = w') := Lib.hid (fun W => prefixR_any 1 W)
  clear hx ha hs ht W1 F1 hN HP
  go_enter Tryz.func18, Tryz.ntmps18
  go_wp2_with (first | (go_at_call 36; ((with_reducible refine (SC.out _).mono ?_); rintro e w' ⟨rfl, rfl⟩)) | (go_at_call 38; ((with_reducible refine (PC.out _).mono ?_); rintro e w' ⟨rfl, rfl⟩)) | (go_at_call 40; ((with_reducible refine DD.out.mono ?_); rintro e w2 ⟨rfl, hb⟩; have HB := Lib.hid hb; clear hb)))
  go_ret
  exact ⟨rfl, HW1.out.then_ HB.out⟩
set_option maxRecDepth 100000 in
set_option maxHeartbeats 4000000 in
theorem plain_sum {s : ByteArray} (hn : nmB s.data.toList = true) : PlainC (.mk 24 0 s []) := by
  intro N w v hx hN ht
  obtain ⟨p, c, pl, cl, rfl, hs, ha⟩ := hx.form
  simp only [Ex.op, Ex.n, Ex.nm, Ex.args, List.length_nil] at hs ha ⊢
  have W1 : Below w.heap.size w (w.alloc (.cells #[.int .i64 24, .int .i64 0, .string s, .slice p 0 c] 24)) := (Below.refl _ _).alloc (Nat.le_refl _) _
  have F1 := Four.new w (.int .i64 24) (.int .i64 0) (.string s) (.slice p 0 c) 24
  have HP : Hid (txP (bare (.mk 24 0 s [])) = sumW ++ 40 :: (s.data.toList ++ [41])) := Lib.hid (by rw [bare_mk]; show txP [.wd 1 0 sumW, .mk [40], .wd 1 0 s.data.toList, .mk [41]] = _; simp [txP, Pc.tx])
  rw [HP.out]
  show Calls _ _ #[.agg #[.int .i64 24, .int .i64 0, .string s, .slice p 0 c]] w _
  have e0 := F1.c0
  have e1 := F1.c1
  have e2 := F1.c2
  have e3 := F1.c3
  have HW1 := Lib.hid W1
  have hsl : s.size ≤ 16 := nmB_len hn
  clear hn
  have z0 : ¬ 9223372036854775807 < 4 + s.size := by omega
  have z1 : ¬ 9223372036854775807 < 4 + s.size + 1 := by omega
  have SC : Hid (∀ W, Calls Tryz.prog 36 #[.int .i64 24] W fun e w' => e = .returned (.tuple #[.string ⟨#[]⟩, .int .i64 0]) ∧ W = w') := Lib.hid (fun W => signR_any 24 W)
  have PC : Hid (∀ W, Calls Tryz.prog 38 #[.int .i64 24] W fun e w' => e = .returned (.string ⟨#[]⟩) ∧ W = w') := Lib.hid (fun W => prefixR_any 24 W)
  clear hx ha hs ht W1 F1 hN HP
  go_enter Tryz.func18, Tryz.ntmps18
  go_wp2_with (first | (go_at_call 36; ((with_reducible refine (SC.out _).mono ?_); rintro e w' ⟨rfl, rfl⟩)) | (go_at_call 38; ((with_reducible refine (PC.out _).mono ?_); rintro e w' ⟨rfl, rfl⟩)))
  go_ret
  exact tSt_mk (by simp [ByteArray.data_append, sumW]) HW1.out
set_option maxRecDepth 100000 in
set_option maxHeartbeats 4000000 in
theorem plain_nam {s : ByteArray} (he : elmB s.data.toList = false) : PlainC (.mk 2 0 s []) := by
  intro N w v hx hN ht
  obtain ⟨p, c, pl, cl, rfl, hs, ha⟩ := hx.form
  simp only [Ex.op, Ex.n, Ex.nm, Ex.args, List.length_nil] at hs ha ⊢
  have W1 : Below w.heap.size w (w.alloc (.cells #[.int .i64 2, .int .i64 0, .string s, .slice p 0 c] 24)) := (Below.refl _ _).alloc (Nat.le_refl _) _
  have F1 := Four.new w (.int .i64 2) (.int .i64 0) (.string s) (.slice p 0 c) 24
  have HP : Hid (txP (bare (.mk 2 0 s [])) = s.data.toList) := Lib.hid (by rw [bare_mk]; show txP (varP s.data.toList) = _; unfold varP; rw [he]; simp [txP, Pc.tx])
  rw [HP.out]
  show Calls _ _ #[.agg #[.int .i64 2, .int .i64 0, .string s, .slice p 0 c]] w _
  have e0 := F1.c0
  have e1 := F1.c1
  have e2 := F1.c2
  have e3 := F1.c3
  have HW1 := Lib.hid W1
  have SS0 := split_any s (w.alloc (.cells #[.int .i64 2, .int .i64 0, .string s, .slice p 0 c] 24)) hs
  rw [he] at SS0
  have SS := Lib.hid SS0
  have HF1 := Lib.hid F1
  clear SS0
  have SC : Hid (∀ W, Calls Tryz.prog 36 #[.int .i64 2] W fun e w' => e = .returned (.tuple #[.string ⟨#[]⟩, .int .i64 0]) ∧ W = w') := Lib.hid (fun W => signR_any 2 W)
  have PC : Hid (∀ W, Calls Tryz.prog 38 #[.int .i64 2] W fun e w' => e = .returned (.string ⟨#[]⟩) ∧ W = w') := Lib.hid (fun W => prefixR_any 2 W)
  clear hx ha hs ht W1 F1 hN HP
  go_enter Tryz.func18, Tryz.ntmps18
  go_wp2_with (first | (go_at_call 36; ((with_reducible refine (SC.out _).mono ?_); rintro e w' ⟨rfl, rfl⟩)) | (go_at_call 38; ((with_reducible refine (PC.out _).mono ?_); rintro e w' ⟨rfl, rfl⟩)) | (go_at_call 39; ((with_reducible refine SS.out.mono ?_); rintro e w2 ⟨t, i, rfl, hb⟩; have F2 := HF1.out.stay hb; clear e0 e1 e2 e3; have e2 := F2.c2; have HB := Lib.hid hb; clear hb F2)))
  go_ret
  exact ⟨rfl, HW1.out.then_ HB.out⟩
set_option maxRecDepth 100000 in
set_option maxHeartbeats 4000000 in
theorem plain_idx {s : ByteArray} {r : List UInt8} {d : UInt8} (he : elmB s.data.toList = true) (hr : s.data.toList = r ++ [91, d, 93]) (hn : nmB r = true) (h1 : 48 ≤ d.toNat) (h2 : d.toNat ≤ 55) : PlainC (.mk 2 0 s []) := by
  intro N w v hx hN ht
  obtain ⟨p, c, pl, cl, rfl, hs, ha⟩ := hx.form
  simp only [Ex.op, Ex.n, Ex.nm, Ex.args, List.length_nil] at hs ha ⊢
  have W1 : Below w.heap.size w (w.alloc (.cells #[.int .i64 2, .int .i64 0, .string s, .slice p 0 c] 24)) := (Below.refl _ _).alloc (Nat.le_refl _) _
  have F1 := Four.new w (.int .i64 2) (.int .i64 0) (.string s) (.slice p 0 c) 24
  have HP : Hid (txP (bare (.mk 2 0 s [])) = r ++ [64, d]) := Lib.hid (by rw [bare_mk]; show txP (varP s.data.toList) = _; rw [varP_elm hr he]; simp [txP, Pc.tx])
  rw [HP.out]
  show Calls _ _ #[.agg #[.int .i64 2, .int .i64 0, .string s, .slice p 0 c]] w _
  have e0 := F1.c0
  have e1 := F1.c1
  have e2 := F1.c2
  have e3 := F1.c3
  have HW1 := Lib.hid W1
  have SS := Lib.hid (splitR_yes s (w.alloc (.cells #[.int .i64 2, .int .i64 0, .string s, .slice p 0 c] 24)) hs hr hn h1 h2)
  have DC := Lib.hid (fun W => decimalR_any ((d.toNat : Int) - 48) W (by omega) (by omega))
  rw [dig_itoa h1 (by omega)] at DC
  have hrl : r.length ≤ 16 := (nm_parts hn).2.2.2
  obtain ⟨R, hR⟩ : ∃ R, bs r = R := ⟨_, rfl⟩
  rw [hR] at SS
  have hrs : R.size = r.length := by rw [← hR]; rfl
  have HMD : Hid (R.data.toList = r) := Lib.hid (by rw [← hR])
  obtain ⟨i, hi⟩ : ∃ i, (d.toNat : Int) - 48 = i := ⟨_, rfl⟩
  rw [hi] at SS DC
  clear hR hi he hr hn h1 h2
  have z0 : ¬ 9223372036854775807 < R.size + 1 := by omega
  have z1 : ¬ 9223372036854775807 < R.size + 1 + 1 := by omega
  have SC : Hid (∀ W, Calls Tryz.prog 36 #[.int .i64 2] W fun e w' => e = .returned (.tuple #[.string ⟨#[]⟩, .int .i64 0]) ∧ W = w') := Lib.hid (fun W => signR_any 2 W)
  have PC : Hid (∀ W, Calls Tryz.prog 38 #[.int .i64 2] W fun e w' => e = .returned (.string ⟨#[]⟩) ∧ W = w') := Lib.hid (fun W => prefixR_any 2 W)
  clear hx ha hs ht W1 F1 hN HP
  go_enter Tryz.func18, Tryz.ntmps18
  go_wp2_with (first | (go_at_call 36; ((with_reducible refine (SC.out _).mono ?_); rintro e w' ⟨rfl, rfl⟩)) | (go_at_call 38; ((with_reducible refine (PC.out _).mono ?_); rintro e w' ⟨rfl, rfl⟩)) | (go_at_call 39; ((with_reducible refine SS.out.mono ?_); rintro e w2 ⟨rfl, hb⟩; have DD := Lib.hid (DC.out w2); have HB := Lib.hid hb; clear hb)) | (go_at_call 40; ((with_reducible refine DD.out.mono ?_); rintro e w3 ⟨rfl, hb⟩; have HB2 := Lib.hid (HB.out.then_ hb); clear hb)))
  go_ret
  exact tSt_mk (by simp [ByteArray.data_append, HMD.out]) (HW1.out.then_ HB2.out)
end Go.Proofs.YtlnomiiphlbamaaGreatDoor.EtR
namespace Go.Proofs.YtlnomiiphlbamaaGreatDoor.EtR
open Go Go.RowKit Go.Proofs.YtlnomiiphlbamaaGreatDoor.NumM Go.Proofs.YtlnomiiphlbamaaGreatDoor.LexW Go.Proofs.YtlnomiiphlbamaaGreatDoor.LexM Go.Proofs.YtlnomiiphlbamaaGreatDoor.ExM Go.Proofs.YtlnomiiphlbamaaGreatDoor.ExW Go.Proofs.YtlnomiiphlbamaaGreatDoor.EtM Go.Proofs.YtlnomiiphlbamaaGreatDoor.EtW

theorem join_snoc (s x : List UInt8) : ∀ (l : List (List UInt8)), l ≠ [] → Lib.join (l ++ [x]) s = Lib.join l s ++ s ++ x
  | [], h => absurd rfl h
  | [a], _ => by simp [Lib.join, List.intercalate]
  | a :: b :: r, _ => by
    rw [List.cons_append, List.cons_append, join_cc, join_cc, ← List.cons_append, join_snoc s x (b :: r) (by simp)]
    simp
theorem join_one (x s : List UInt8) : Lib.join [x] s = x := by simp [Lib.join, List.intercalate]
/-- The text behind the first k pairs. -/
def rgT (p : List UInt8) (r : List Ex) (k : Nat) : List UInt8 := p ++ Lib.join (pairs (r.take (2 * k))) [44, 32]
theorem rgT_zero (p : List UInt8) (r : List Ex) : rgT p r 0 = p := by unfold rgT; simp [pairs, Lib.join, List.intercalate]
theorem rgT_one {p P : List UInt8} {r : List Ex} (h : pairs (r.take (2 * (0 + 1))) = pairs (r.take (2 * 0)) ++ [P]) : rgT p r (0 + 1) = rgT p r 0 ++ P := by
  rw [rgT_zero]; unfold rgT; rw [h, Nat.mul_zero, List.take_zero]; show p ++ Lib.join ([] ++ [P]) _ = _; rw [List.nil_append, join_one]
theorem rgT_next {p P : List UInt8} {r : List Ex} {k : Nat} (h : pairs (r.take (2 * (k + 1))) = pairs (r.take (2 * k)) ++ [P]) (hk : pairs (r.take (2 * k)) ≠ []) : rgT p r (k + 1) = rgT p r k ++ [44, 32] ++ P := by
  unfold rgT; rw [h, join_snoc _ _ _ hk]; simp
theorem rgT_all (p : List UInt8) {r : List Ex} {h : Nat} (hr : r.length = 2 * h) : rgT p r h = p ++ txP (rgs (r.map bx)) := by
  unfold rgT; rw [List.take_of_length_le (by omega), join_pairs h r hr]
set_option maxRecDepth 100000 in
set_option maxHeartbeats 16000000 in
theorem plain_ins {A0 : Ex} {r : List Ex} (h1 : 2 ≤ r.length) (h2 : r.length ≤ 32) (h3 : r.length % 2 = 0) (hA : PlainC A0) (lA : lnP (bare A0) ≤ 130000000) (hB : ∀ a ∈ r, PlainC a) (lB : ∀ a ∈ r, lnP (bare a) ≤ 130000000) : PlainC (.mk 23 0 ⟨#[]⟩ (A0 :: r)) := by
  intro N w v hx hN ht
  obtain ⟨p, c, pl, cl, rfl, hs, ha⟩ := hx.form
  simp only [Ex.op, Ex.n, Ex.nm, Ex.args, List.length_cons] at hs ha ⊢
  obtain ⟨b, off, rfl, hbs, hcell⟩ := ha.hp (by simp)
  have hcap : (A0 :: r).length ≤ c := ha.hc
  have hxs := ha.hx
  obtain ⟨n, hn⟩ : ∃ n, r.length = n := ⟨_, rfl⟩
  obtain ⟨K, hK⟩ : ∃ K, n + 1 = K := ⟨_, rfl⟩
  rw [List.length_cons, hn, hK] at hcap
  have W1 : Below w.heap.size w (w.alloc (.cells #[.int .i64 23, .int .i64 0, .string ⟨#[]⟩, .slice (some ⟨b, off, none⟩) K c] 24)) := (Below.refl _ _).alloc (Nat.le_refl _) _
  have F1 := Four.new w (.int .i64 23) (.int .i64 0) (.string ⟨#[]⟩) (.slice (some ⟨b, off, none⟩) K c) 24
  have x0 := hxs 0 A0 rfl
  obtain ⟨q0, q1, q2, q3⟩ := hcell 0 A0 rfl
  have d00 : (w.alloc (.cells #[.int .i64 23, .int .i64 0, .string ⟨#[]⟩, .slice (some ⟨b, off, none⟩) K c] 24)).cell? ⟨b, off, none⟩ = some (.int .i64 A0.op) := (W1.cell (p := ⟨b, off, none⟩) (Nat.lt_of_lt_of_le hbs hN)).trans (by simpa using q0)
  have d01 : (w.alloc (.cells #[.int .i64 23, .int .i64 0, .string ⟨#[]⟩, .slice (some ⟨b, off, none⟩) K c] 24)).cell? ⟨b, off + 1, none⟩ = some (.int .i64 A0.n) := (W1.cell (p := ⟨b, off + 1, none⟩) (Nat.lt_of_lt_of_le hbs hN)).trans (by simpa using q1)
  have d02 : (w.alloc (.cells #[.int .i64 23, .int .i64 0, .string ⟨#[]⟩, .slice (some ⟨b, off, none⟩) K c] 24)).cell? ⟨b, off + 2, none⟩ = some (.string A0.nm) := (W1.cell (p := ⟨b, off + 2, none⟩) (Nat.lt_of_lt_of_le hbs hN)).trans (by simpa using q2)
  have d03 : (w.alloc (.cells #[.int .i64 23, .int .i64 0, .string ⟨#[]⟩, .slice (some ⟨b, off, none⟩) K c] 24)).cell? ⟨b, off + 3, none⟩ = some (.slice (pl 0) A0.args.length (cl 0)) := (W1.cell (p := ⟨b, off + 3, none⟩) (Nat.lt_of_lt_of_le hbs hN)).trans (by simpa using q3)
  have T0c := Lib.hid (textR_of hA (by omega) 9 N (w.alloc (.cells #[.int .i64 23, .int .i64 0, .string ⟨#[]⟩, .slice (some ⟨b, off, none⟩) K c] 24)) _ (x0.under (W1.mono hN)) (Nat.le_trans hN W1.size) (ht.later W1))
  have m0 := lnP_plc 9 (bx A0)
  have m0' : lnP (bx A0).2 = lnP (bare A0) := rfl
  rw [m0'] at m0
  unfold lnP at m0 lA
  have HP : Hid (txP (bare (.mk 23 0 ⟨#[]⟩ (A0 :: r))) = (txP (plc 9 (bx A0)) ++ [32, 105, 110, 115, 105, 100, 101, 32, 123, 32]) ++ txP (rgs (r.map bx)) ++ [32, 125]) := Lib.hid (by rw [bare_mk]; show txP (ins (bx A0) (r.map bx)) = _; unfold ins; simp only [txP_app, txP_cons, txP_nil, Pc.tx, List.append_nil, insW]; simp)
  have HN := Lib.hid hn
  obtain ⟨hh, hhe⟩ : ∃ hh, n = 2 * hh := ⟨n / 2, by omega⟩
  have HHE := Lib.hid hhe
  have HRT := Lib.hid (rgT_all (txP (plc 9 (bx A0)) ++ [32, 105, 110, 115, 105, 100, 101, 32, 123, 32]) (r := r) (h := hh) (by rw [hn]; exact hhe))
  rw [HP.out, hn, hK]
  clear HP
  obtain ⟨tz, htz⟩ : ∃ T, txP (plc 9 (bx A0)) = T := ⟨_, rfl⟩
  rw [htz] at T0c m0 HRT ⊢
  obtain ⟨tr, htr⟩ : ∃ T, txP (rgs (r.map bx)) = T := ⟨_, rfl⟩
  rw [htr] at HRT ⊢
  obtain ⟨pz, hpz⟩ : ∃ T, tz ++ [32, 105, 110, 115, 105, 100, 101, 32, 123, 32] = T := ⟨_, rfl⟩
  have HPZ := Lib.hid hpz
  rw [hpz] at HRT ⊢
  show Calls _ _ #[.agg #[.int .i64 23, .int .i64 0, .string ⟨#[]⟩, .slice (some ⟨b, off, none⟩) K c]] w _
  obtain ⟨Zo, hZo⟩ : ∃ x, A0.op = x := ⟨_, rfl⟩
  rw [hZo] at T0c d00
  obtain ⟨Zn, hZn⟩ : ∃ x, A0.n = x := ⟨_, rfl⟩
  rw [hZn] at T0c d01
  obtain ⟨Zs, hZs⟩ : ∃ x, A0.nm = x := ⟨_, rfl⟩
  rw [hZs] at T0c d02
  obtain ⟨Zk, hZk⟩ : ∃ x, A0.args.length = x := ⟨_, rfl⟩
  rw [hZk] at T0c d03
  obtain ⟨Zp, hZp⟩ : ∃ x, pl 0 = x := ⟨_, rfl⟩
  rw [hZp] at T0c d03
  obtain ⟨Zc, hZc⟩ : ∃ x, cl 0 = x := ⟨_, rfl⟩
  rw [hZc] at T0c d03
  have e0 := F1.c0
  have e1 := F1.c1
  have e2 := F1.c2
  have e3 := F1.c3
  have HW1 := Lib.hid W1
  have HF1 := Lib.hid F1
  have HB0 := Lib.hid hB
  have HL0 := Lib.hid lB
  have HX := Lib.hid hxs
  have HC := Lib.hid hcell
  have HT := Lib.hid ht
  have HK := Lib.hid hK
  have zz1 : ¬ 9223372036854775807 < tz.length + 10 := by omega
  have k2 : (0 : Int) < (K : Int) := by omega
  have k5 : 0 < K := by omega
  have hn32 : n ≤ 32 := by omega
  have hz0 : tz.length ≤ 140000000 := by omega
  have SC : Hid (∀ W, Calls Tryz.prog 36 #[.int .i64 23] W fun e w' => e = .returned (.tuple #[.string ⟨#[]⟩, .int .i64 0]) ∧ W = w') := Lib.hid (fun W => signR_any 23 W)
  have PC : Hid (∀ W, Calls Tryz.prog 38 #[.int .i64 23] W fun e w' => e = .returned (.string ⟨#[]⟩) ∧ W = w') := Lib.hid (fun W => prefixR_any 23 W)
  clear hx ha hs W1 F1 hcell hxs x0 q0 q1 q2 q3 hA lA hB lB m0 m0' ht htz htr hpz hn hhe hK hZo hZn hZs hZk hZp hZc h1 h3
  go_enter Tryz.func18, Tryz.ntmps18
  go_wp2_with (first
    | (go_at_call 36; ((with_reducible refine (SC.out _).mono ?_); rintro e w' ⟨rfl, rfl⟩))
    | (go_at_call 38; ((with_reducible refine (PC.out _).mono ?_); rintro e w' ⟨rfl, rfl⟩))
    | (go_at_call 37; ((with_reducible refine T0c.out.mono ?_); rintro e w3 ⟨rfl, hb⟩; have HBW := Lib.hid hb; clear hb e0 e1 e2 e3 d00 d01 d02 d03)))
  go_loopw [5, 6] (fun uv iv wr => ∃ (k I : Nat) (U : ByteArray), Hid (I = 2 * k + 1) ∧ k ≤ 16 ∧ I ≤ n + 1 ∧ iv = .int .i64 I ∧ uv = .string U ∧ Hid (U.data.toList = rgT pz r k) ∧ U.size ≤ 140000020 + k * 400000000 ∧ Hid (Below (w.alloc (.cells #[.int .i64 23, .int .i64 0, .string ⟨#[]⟩, .slice (some ⟨b, off, none⟩) K c] 24)).heap.size (w.alloc (.cells #[.int .i64 23, .int .i64 0, .string ⟨#[]⟩, .slice (some ⟨b, off, none⟩) K c] 24)) wr)) (fun _ iv _ => n + 1 - (intOf iv).toNat)
  case atStart => exact ⟨0, 1, _, Lib.hid rfl, by omega, by omega, rfl, rfl, Lib.hid (by rw [rgT_zero, ← HPZ.out]; simp [ByteArray.data_append]), by rw [ByteArray.size_append]; show tz.length + 10 ≤ _; omega, HBW⟩
  case round =>
    obtain ⟨k, I, U, HI, hk, hI, rfl, rfl, HU, hUs, BW⟩ := hrel
    have f3 := (HF1.out.stay BW.out).c3
    by_cases hlt : I + 1 < K
    · have hIn : I < n := by have := HK.out; omega
      obtain ⟨A, hA⟩ : ∃ a, r[I - 1]? = some a := ⟨_, List.getElem?_eq_getElem (by rw [HN.out]; omega)⟩
      obtain ⟨B, hB⟩ : ∃ a, r[I]? = some a := ⟨_, List.getElem?_eq_getElem (by rw [HN.out]; exact hIn)⟩
      have hI1 : 1 ≤ I := by have := HI.out; omega
      have hA2 : (A0 :: r)[I]? = some A := by rw [show I = (I - 1) + 1 by omega]; exact hA
      have hB2 : (A0 :: r)[I + 1]? = some B := hB
      have lA := HL0.out A (List.mem_of_getElem? hA)
      have lB := HL0.out B (List.mem_of_getElem? hB)
      have hb1 : Below w.heap.size w wr := HW1.out.then_ BW.out
      have hbw : Below N w wr := hb1.mono hN
      obtain ⟨q0, q1, q2, q3⟩ := HC.out I A hA2
      obtain ⟨u0, u1, u2, u3⟩ := HC.out (I + 1) B hB2
      have ca0 := (hbw.cell (p := ⟨b, off + I * 4, none⟩) hbs).trans q0
      have ca1 := (hbw.cell (p := ⟨b, off + I * 4 + 1, none⟩) hbs).trans q1
      have ca2 := (hbw.cell (p := ⟨b, off + I * 4 + 2, none⟩) hbs).trans q2
      have ca3 := (hbw.cell (p := ⟨b, off + I * 4 + 3, none⟩) hbs).trans q3
      have cb0 := (hbw.cell (p := ⟨b, off + (I + 1) * 4, none⟩) hbs).trans u0
      have cb1 := (hbw.cell (p := ⟨b, off + (I + 1) * 4 + 1, none⟩) hbs).trans u1
      have cb2 := (hbw.cell (p := ⟨b, off + (I + 1) * 4 + 2, none⟩) hbs).trans u2
      have cb3 := (hbw.cell (p := ⟨b, off + (I + 1) * 4 + 3, none⟩) hbs).trans u3
      have hsz := hb1.size
      have T0c := Lib.hid (fun W (hW : Below wr.heap.size wr W) => textR_of (HB0.out A (List.mem_of_getElem? hA)) (by omega) 1 N W _ (((HX.out I A hA2).under hbw).under (hW.mono (Nat.le_trans hN hsz))) (Nat.le_trans hN (Nat.le_trans hsz hW.size)) (HT.out.later (hb1.then_ hW)))
      have T1c := Lib.hid (fun W (hW : Below wr.heap.size wr W) => textR_of (HB0.out B (List.mem_of_getElem? hB)) (by omega) 1 N W _ (((HX.out (I + 1) B hB2).under hbw).under (hW.mono (Nat.le_trans hN hsz))) (Nat.le_trans hN (Nat.le_trans hsz hW.size)) (HT.out.later (hb1.then_ hW)))
      have m0 := lnP_plc 1 (bx A)
      have m1 := lnP_plc 1 (bx B)
      have mA : lnP (bx A).2 = lnP (bare A) := rfl
      have mB : lnP (bx B).2 = lnP (bare B) := rfl
      rw [mA] at m0
      rw [mB] at m1
      have TP : Hid (pairs (r.take (2 * (k + 1))) = pairs (r.take (2 * k)) ++ [pairT A B]) := Lib.hid (take_pair (by rw [show 2 * k = I - 1 by have := HI.out; omega]; exact hA) (by rw [show 2 * k + 1 = I by have := HI.out; omega]; exact hB))
      have HPT : Hid (pairT A B = txP (plc 1 (bx A)) ++ 32 :: 46 :: 46 :: 32 :: txP (plc 1 (bx B))) := Lib.hid rfl
      have HPN : Hid (0 < k → pairs (r.take (2 * k)) ≠ []) := Lib.hid (fun h0 e => by
        have q := pairs_len k (r.take (2 * k)) (by rw [List.length_take, HN.out]; have := HI.out; omega)
        rw [e] at q
        simp at q
        omega)
      obtain ⟨P, hP⟩ : ∃ P, pairT A B = P := ⟨_, rfl⟩
      rw [hP] at TP HPT
      unfold lnP at m0 m1 lA lB
      obtain ⟨t0, ht0⟩ : ∃ T, txP (plc 1 (bx A)) = T := ⟨_, rfl⟩
      obtain ⟨t1, ht1⟩ : ∃ T, txP (plc 1 (bx B)) = T := ⟨_, rfl⟩
      rw [ht0] at T0c m0 HPT
      rw [ht1] at T1c m1 HPT
      have ml0 : t0.length ≤ 130000002 := by omega
      have ml1 : t1.length ≤ 130000002 := by omega
      have hli : (I : Int) < (K : Int) := by omega
      have hli1 : (I : Int) + 1 < (K : Int) := by omega
      have hli0 : (0 : Int) ≤ (I : Int) + 1 := by omega
      have s1 : IntKind.i64.wrap ((I : Int) + 1) = (I : Int) + 1 := IntWalk.i64_in _ (by omega)
      have s2 : IntKind.i64.wrap ((I : Int) + 2) = (I : Int) + 2 := IntWalk.i64_in _ (by omega)
      have s3 : ((I : Int) + 1).toNat = I + 1 := by omega
      have hU16 : U.size ≤ 7000000000 := by omega
      obtain ⟨Ao, hAo⟩ : ∃ x, A.op = x := ⟨_, rfl⟩
      rw [hAo] at T0c ca0
      obtain ⟨An, hAn⟩ : ∃ x, A.n = x := ⟨_, rfl⟩
      rw [hAn] at T0c ca1
      obtain ⟨As, hAs⟩ : ∃ x, A.nm = x := ⟨_, rfl⟩
      rw [hAs] at T0c ca2
      obtain ⟨Ak, hAk⟩ : ∃ x, A.args.length = x := ⟨_, rfl⟩
      rw [hAk] at T0c ca3
      obtain ⟨Ap, hAp⟩ : ∃ x, pl (I) = x := ⟨_, rfl⟩
      rw [hAp] at T0c ca3
      obtain ⟨Ac, hAc⟩ : ∃ x, cl (I) = x := ⟨_, rfl⟩
      rw [hAc] at T0c ca3
      obtain ⟨Bo, hBo⟩ : ∃ x, B.op = x := ⟨_, rfl⟩
      rw [hBo] at T1c cb0
      obtain ⟨Bn, hBn⟩ : ∃ x, B.n = x := ⟨_, rfl⟩
      rw [hBn] at T1c cb1
      obtain ⟨Bs, hBs⟩ : ∃ x, B.nm = x := ⟨_, rfl⟩
      rw [hBs] at T1c cb2
      obtain ⟨Bk, hBk⟩ : ∃ x, B.args.length = x := ⟨_, rfl⟩
      rw [hBk] at T1c cb3
      obtain ⟨Bp, hBp⟩ : ∃ x, pl (I + 1) = x := ⟨_, rfl⟩
      rw [hBp] at T1c cb3
      obtain ⟨Bc, hBc⟩ : ∃ x, cl (I + 1) = x := ⟨_, rfl⟩
      rw [hBc] at T1c cb3
      have KK := Lib.hid (fun W (hW : Below wr.heap.size wr W) => And.intro ((HF1.out.stay (BW.out.then_ hW)).c3) (And.intro ((hW.cell (p := ⟨b, off + I * 4, none⟩) (cell_lt ca0)).trans ca0) (And.intro ((hW.cell (p := ⟨b, off + I * 4 + 1, none⟩) (cell_lt ca1)).trans ca1) (And.intro ((hW.cell (p := ⟨b, off + I * 4 + 2, none⟩) (cell_lt ca2)).trans ca2) (And.intro ((hW.cell (p := ⟨b, off + I * 4 + 3, none⟩) (cell_lt ca3)).trans ca3) (And.intro ((hW.cell (p := ⟨b, off + (I + 1) * 4, none⟩) (cell_lt cb0)).trans cb0) (And.intro ((hW.cell (p := ⟨b, off + (I + 1) * 4 + 1, none⟩) (cell_lt cb1)).trans cb1) (And.intro ((hW.cell (p := ⟨b, off + (I + 1) * 4 + 2, none⟩) (cell_lt cb2)).trans cb2) ((hW.cell (p := ⟨b, off + (I + 1) * 4 + 3, none⟩) (cell_lt cb3)).trans cb3)))))))))
      clear hA hB hA2 hB2 lA lB hbw hb1 q0 q1 q2 q3 u0 u1 u2 u3 m0 m1 mA mB hP ht0 ht1 hAo hAn hAs hAk hAp hAc hBo hBn hBs hBk hBp hBc hIn hsz
      by_cases hk0 : k = 0
      · have c0 : ¬ (1 : Int) < (I : Int) := by have := HI.out; omega
        have c1 : ¬ 1 < I := by have := HI.out; omega
        have HK0 := Lib.hid hk0
        clear hk0
        have z0 : ¬ 9223372036854775807 < U.size + t0.length := by omega
        have z1 : ¬ 9223372036854775807 < U.size + t0.length + 4 := by omega
        have z2 : ¬ 9223372036854775807 < U.size + t0.length + 4 + t1.length := by omega
        go_wp2
        go_region_held3 (fun w' => w'.cell? ⟨w.heap.size, 3, none⟩ = some (.slice (some ⟨b, off, none⟩) K c) ∧ w'.cell? ⟨b, off + I * 4, none⟩ = some (.int .i64 Ao) ∧ w'.cell? ⟨b, off + I * 4 + 1, none⟩ = some (.int .i64 An) ∧ w'.cell? ⟨b, off + I * 4 + 2, none⟩ = some (.string As) ∧ w'.cell? ⟨b, off + I * 4 + 3, none⟩ = some (.slice Ap Ak Ac) ∧ w'.cell? ⟨b, off + (I + 1) * 4, none⟩ = some (.int .i64 Bo) ∧ w'.cell? ⟨b, off + (I + 1) * 4 + 1, none⟩ = some (.int .i64 Bn) ∧ w'.cell? ⟨b, off + (I + 1) * 4 + 2, none⟩ = some (.string Bs) ∧ w'.cell? ⟨b, off + (I + 1) * 4 + 3, none⟩ = some (.slice Bp Bk Bc)) (first | exact KK.out _ (Below.refl _ _).drew | exact KK.out _ (Below.refl _ _) | exact KK.out _ HB1.out | exact KK.out _ HB2.out) (first
          | (go_at_call 37; (with_reducible refine (T0c.out _ ?_).mono ?_); (first | exact (Below.refl _ _).drew | exact Below.refl _ _); rintro e w4 ⟨rfl, hb⟩; have HB1 := Lib.hid ((Below.refl _ _).drew.then_ hb); have KN1 := KK.out _ HB1.out; clear hb)
          | (go_at_call 37; (with_reducible refine (T1c.out _ ?_).mono ?_); (first | exact HB1.out); rintro e w5 ⟨rfl, hb⟩; have HB2 := Lib.hid (HB1.out.then_ hb); have KN2 := KK.out _ HB2.out; clear hb))
        all_goals
          go_wp2
          go_roundw
          case rel => exact ⟨k + 1, I + 2, _, Lib.hid (by have := HI.out; omega), by have := HI.out; have := HK.out; omega, by have := HK.out; omega, by go_num, rfl, Lib.hid (by have e := HK0.out; subst e; rw [rgT_one TP.out, ← HU.out, HPT.out]; simp [ByteArray.data_append]), by simp only [ByteArray.size_append]; show U.size + t0.length + 4 + t1.length ≤ _; omega, Lib.hid (BW.out.then_ HB2.out)⟩
          case measure => have := HK.out; simp [intOf]; omega
      · have c0 : (1 : Int) < (I : Int) := by have := HI.out; omega
        have c1 : 1 < I := by have := HI.out; omega
        have HPN2 := Lib.hid (HPN.out (by omega))
        clear hk0
        have z0 : ¬ 9223372036854775807 < U.size + 2 + t0.length := by omega
        have z1 : ¬ 9223372036854775807 < U.size + 2 + t0.length + 4 := by omega
        have z2 : ¬ 9223372036854775807 < U.size + 2 + t0.length + 4 + t1.length := by omega
        have z9 : ¬ 9223372036854775807 < U.size + 2 := by omega
        go_wp2
        go_region_held3 (fun w' => w'.cell? ⟨w.heap.size, 3, none⟩ = some (.slice (some ⟨b, off, none⟩) K c) ∧ w'.cell? ⟨b, off + I * 4, none⟩ = some (.int .i64 Ao) ∧ w'.cell? ⟨b, off + I * 4 + 1, none⟩ = some (.int .i64 An) ∧ w'.cell? ⟨b, off + I * 4 + 2, none⟩ = some (.string As) ∧ w'.cell? ⟨b, off + I * 4 + 3, none⟩ = some (.slice Ap Ak Ac) ∧ w'.cell? ⟨b, off + (I + 1) * 4, none⟩ = some (.int .i64 Bo) ∧ w'.cell? ⟨b, off + (I + 1) * 4 + 1, none⟩ = some (.int .i64 Bn) ∧ w'.cell? ⟨b, off + (I + 1) * 4 + 2, none⟩ = some (.string Bs) ∧ w'.cell? ⟨b, off + (I + 1) * 4 + 3, none⟩ = some (.slice Bp Bk Bc)) (first | exact KK.out _ (Below.refl _ _).drew | exact KK.out _ (Below.refl _ _) | exact KK.out _ HB1.out | exact KK.out _ HB2.out) (first
          | (go_at_call 37; (with_reducible refine (T0c.out _ ?_).mono ?_); (first | exact (Below.refl _ _).drew | exact Below.refl _ _); rintro e w4 ⟨rfl, hb⟩; have HB1 := Lib.hid ((Below.refl _ _).drew.then_ hb); have KN1 := KK.out _ HB1.out; clear hb)
          | (go_at_call 37; (with_reducible refine (T1c.out _ ?_).mono ?_); (first | exact HB1.out); rintro e w5 ⟨rfl, hb⟩; have HB2 := Lib.hid (HB1.out.then_ hb); have KN2 := KK.out _ HB2.out; clear hb))
        all_goals
          go_wp2
          go_roundw
          case rel => exact ⟨k + 1, I + 2, _, Lib.hid (by have := HI.out; omega), by have := HI.out; have := HK.out; omega, by have := HK.out; omega, by go_num, rfl, Lib.hid (by rw [rgT_next TP.out HPN2.out, ← HU.out, HPT.out]; simp [ByteArray.data_append]), by simp only [ByteArray.size_append]; show U.size + 2 + t0.length + 4 + t1.length ≤ _; omega, Lib.hid (BW.out.then_ HB2.out)⟩
          case measure => have := HK.out; simp [intOf]; omega
    · have hkh : k = hh := by have := HI.out; have := HHE.out; have := HK.out; omega
      have hge : ¬ (I : Int) + 1 < (K : Int) := by omega
      have s1 : IntKind.i64.wrap ((I : Int) + 1) = (I : Int) + 1 := IntWalk.i64_in _ (by omega)
      have zu : ¬ 9223372036854775807 < U.size + 2 := by omega
      have HU2 : Hid (U.data.toList = pz ++ tr) := Lib.hid (by rw [HU.out, hkh, HRT.out])
      clear hkh
      go_wp2
      go_ret
      exact tSt_mk (by simp [ByteArray.data_append, HU2.out]) (HW1.out.then_ BW.out)
theorem plain_sh {o n : Int} {s : ByteArray} {ks : List Ex} (h : Sh o n s ks) (hk : ∀ a ∈ ks, PlainC a) (lk : ∀ a ∈ ks, lnP (bare a) ≤ 130000000) : PlainC (.mk o n s ks) := by
  cases h with
  | con _ h0 h1 => exact plain_con h0 h1
  | var _ h =>
    by_cases he : elmB s.data.toList = true
    · obtain ⟨r, d, hr, hn, h1, h2⟩ := elm_parts he
      exact plain_idx he hr hn h1 h2
    · exact plain_nam (by simpa using he)
  | sum _ h => exact plain_sum h
  | elm _ a h => exact plain_elm h (hk a (by simp)) (by have := lk a (by simp); omega)
  | ons a => exact plain_ons (hk a (by simp)) (by have := lk a (by simp); omega)
  | pre _ a ho =>
    rcases ho with rfl | rfl | rfl
    · exact plain_pre4 (hk a (by simp)) (by have := lk a (by simp); omega)
    · exact plain_pre5 (hk a (by simp)) (by have := lk a (by simp); omega)
    · exact plain_pre6 (hk a (by simp)) (by have := lk a (by simp); omega)
  | bin _ a b ho ho' =>
    by_cases h21 : o = 21
    · subst h21
      exact plain_imp (hk a (by simp)) (by have := lk a (by simp); omega) (hk b (by simp)) (by have := lk b (by simp); omega)
    · exact plain_bin ho (by omega) (hk a (by simp)) (by have := lk a (by simp); omega) (hk b (by simp)) (by have := lk b (by simp); omega)
  | iff a b c => exact plain_iff (hk a (by simp)) (by have := lk a (by simp); omega) (hk b (by simp)) (by have := lk b (by simp); omega) (hk c (by simp)) (by have := lk c (by simp); omega)
  | ins a r h1 h2 h3 => exact plain_ins h1 h2 h3 (hk a (by simp)) (lk a (by simp)) (fun b hb => hk b (by simp [hb])) (fun b hb => lk b (by simp [hb]))
theorem plain_all (e : Ex) : Ok e → sz e ≤ 2000000 → PlainC e := by
  induction e using Ex.ind with
  | h o n s ks ih =>
    intro h hsz
    obtain ⟨h1, h2⟩ := (ok_mk o n s ks).1 h
    rw [sz_mk] at hsz
    exact plain_sh (EtM.shape h1) (fun a ha => ih a ha (h2 a ha) (by have := sz_mem ha; omega)) (fun a ha => by have := prn_len a (h2 a ha); unfold Bd at this; have := sz_mem ha; omega)
set_option maxRecDepth 100000 in
set_option maxHeartbeats 4000000 in
theorem printR_any (e : Ex) (v : Value) (w : World) (hx : ExAt w.heap.size w v e) (hsz : sz e ≤ 2000000) (ht : TabE w) : Calls Tryz.prog 8 #[v] w (tSt (prS e) w) := by
  obtain ⟨p, c, pl, cl, rfl, hs, _⟩ := hx.form
  have W1 : Below w.heap.size w (w.alloc (.cells #[.int .i64 e.op, .int .i64 e.n, .string e.nm, .slice p e.args.length c] 24)) := (Below.refl _ _).alloc (Nat.le_refl _) _
  have F1 := Four.new w (.int .i64 e.op) (.int .i64 e.n) (.string e.nm) (.slice p e.args.length c) 24
  have hx1 : ExAt (w.alloc (.cells #[.int .i64 e.op, .int .i64 e.n, .string e.nm, .slice p e.args.length c] 24)).heap.size (w.alloc (.cells #[.int .i64 e.op, .int .i64 e.n, .string e.nm, .slice p e.args.length c] 24)) (xv e.op e.n e.nm (.slice p e.args.length c)) e := hx.later W1
  have VC := Lib.hid (validR_any e _ _ hx1 hsz)
  have TC0 : Hid (vld e = 0 → ∀ W, Below (w.alloc (.cells #[.int .i64 e.op, .int .i64 e.n, .string e.nm, .slice p e.args.length c] 24)).heap.size (w.alloc (.cells #[.int .i64 e.op, .int .i64 e.n, .string e.nm, .slice p e.args.length c] 24)) W → Calls Tryz.prog 18 #[xv e.op e.n e.nm (.slice p e.args.length c)] W (tSt (prn e) W)) := Lib.hid (fun h0 W hW =>
    plain_all e ((vld_zero e).1 h0).1 hsz _ W _ (hx1.under hW) hW.size (ht.later (W1.then_ hW)))
  have HPS : Hid (prS e = if vld e ≠ 0 then [] else prn e) := Lib.hid rfl
  rw [HPS.out]
  clear HPS
  have HF1 := Lib.hid F1
  have HW1 := Lib.hid W1
  have b0 := F1.c0
  have b1 := F1.c1
  have b2 := F1.c2
  have b3 := F1.c3
  clear hx hx1 W1 F1 hs hsz ht
  obtain ⟨V, hV⟩ : ∃ x, vld e = x := ⟨_, rfl⟩
  obtain ⟨P, hP⟩ : ∃ x, prn e = x := ⟨_, rfl⟩
  rw [hV] at VC TC0 ⊢
  rw [hP] at TC0 ⊢
  clear hV hP
  show Calls _ _ #[.agg #[.int .i64 e.op, .int .i64 e.n, .string e.nm, .slice p e.args.length c]] w _
  generalize e.op = o at *
  generalize e.n = n at *
  generalize e.nm = s at *
  generalize e.args.length = k at *
  by_cases g : V = 0
  · subst g
    rw [if_neg (by decide)]
    have TC0 := Lib.hid (TC0.out rfl)
    go_enter Tryz.func8, Tryz.ntmps8
    go_wp2_with (first
      | (go_at_call 10; ((with_reducible refine VC.out.mono ?_); rintro e w3 ⟨rfl, hb⟩; have F3 := HF1.out.stay hb; clear b0 b1 b2 b3; have b0 := F3.c0; have b1 := F3.c1; have b2 := F3.c2; have b3 := F3.c3; have HB3 := Lib.hid (HW1.out.then_ hb); have TC := Lib.hid (TC0.out _ hb); clear hb F3))
      | (go_at_call 18; ((with_reducible refine TC.out.mono ?_); rintro e w4 ⟨rfl, hb⟩; have HB4 := Lib.hid (HB3.out.then_ hb); clear hb)))
    go_ret
    exact ⟨rfl, HB4.out⟩
  · rw [if_pos g]
    go_enter Tryz.func8, Tryz.ntmps8
    go_wp2_with (go_at_call 10; ((with_reducible refine VC.out.mono ?_); rintro e w3 ⟨rfl, hb⟩; have F3 := HF1.out.stay hb; clear b0 b1 b2 b3; have b0 := F3.c0; have b1 := F3.c1; have b2 := F3.c2; have b3 := F3.c3; have HB3 := Lib.hid (HW1.out.then_ hb); clear hb F3))
    go_ret
    exact ⟨rfl, HB3.out⟩
set_option maxRecDepth 100000 in
set_option maxHeartbeats 4000000 in
theorem prints_any (e : Ex) (v : Value) (w : World) (hx : ExAt w.heap.size w v e) (hsz : sz e ≤ 2000000) (ht : TabE w) : Calls Tryz.prog 3 #[v] w fun e w' => e = .returned (.bool true) ∧ Below w.heap.size w w' := by
  obtain ⟨p, c, pl, cl, rfl, hs, _⟩ := hx.form
  have W1 : Below w.heap.size w (w.alloc (.cells #[.int .i64 e.op, .int .i64 e.n, .string e.nm, .slice p e.args.length c] 24)) := (Below.refl _ _).alloc (Nat.le_refl _) _
  have F1 := Four.new w (.int .i64 e.op) (.int .i64 e.n) (.string e.nm) (.slice p e.args.length c) 24
  have hx1 : ExAt (w.alloc (.cells #[.int .i64 e.op, .int .i64 e.n, .string e.nm, .slice p e.args.length c] 24)).heap.size (w.alloc (.cells #[.int .i64 e.op, .int .i64 e.n, .string e.nm, .slice p e.args.length c] 24)) (xv e.op e.n e.nm (.slice p e.args.length c)) e := hx.later W1
  have PC := Lib.hid (fun W (hW : Below (w.alloc (.cells #[.int .i64 e.op, .int .i64 e.n, .string e.nm, .slice p e.args.length c] 24)).heap.size (w.alloc (.cells #[.int .i64 e.op, .int .i64 e.n, .string e.nm, .slice p e.args.length c] 24)) W) => print_any e _ W (hx1.later hW) hsz (ht.later (W1.then_ hW)))
  have RC := Lib.hid (fun W (hW : Below (w.alloc (.cells #[.int .i64 e.op, .int .i64 e.n, .string e.nm, .slice p e.args.length c] 24)).heap.size (w.alloc (.cells #[.int .i64 e.op, .int .i64 e.n, .string e.nm, .slice p e.args.length c] 24)) W) => printR_any e _ W (hx1.later hW) hsz (ht.later (W1.then_ hW)))
  have AC := Lib.hid (fun W (hW : Below w.heap.size w W) => awake_any W (ht.later hW))
  have HF1 := Lib.hid F1
  have HW1 := Lib.hid W1
  have b0 := F1.c0
  have b1 := F1.c1
  have b2 := F1.c2
  have b3 := F1.c3
  clear hx hx1 W1 F1 hs hsz ht
  obtain ⟨T, hT⟩ : ∃ x, prS e = x := ⟨_, rfl⟩
  rw [hT] at PC RC
  clear hT
  show Calls _ _ #[.agg #[.int .i64 e.op, .int .i64 e.n, .string e.nm, .slice p e.args.length c]] w _
  generalize e.op = o at *
  generalize e.n = n at *
  generalize e.nm = s at *
  generalize e.args.length = k at *
  have tq : ((mb T).toList == (mb T).toList) = true := beq_self_eq_true _
  have KK := Lib.hid (fun W (hW : Below (w.alloc (.cells #[.int .i64 o, .int .i64 n, .string s, .slice p k c] 24)).heap.size (w.alloc (.cells #[.int .i64 o, .int .i64 n, .string s, .slice p k c] 24)) W) => (⟨(HF1.out.stay hW).c0, (HF1.out.stay hW).c1, (HF1.out.stay hW).c2, (HF1.out.stay hW).c3⟩ : W.cell? ⟨w.heap.size, 0, none⟩ = some (.int .i64 o) ∧ W.cell? ⟨w.heap.size, 1, none⟩ = some (.int .i64 n) ∧ W.cell? ⟨w.heap.size, 2, none⟩ = some (.string s) ∧ W.cell? ⟨w.heap.size, 3, none⟩ = some (.slice p k c)))
  go_enter Tryz.func3, Tryz.ntmps3
  go_wp2
  go_region_held3 (fun w' => w'.cell? ⟨w.heap.size, 0, none⟩ = some (.int .i64 o) ∧ w'.cell? ⟨w.heap.size, 1, none⟩ = some (.int .i64 n) ∧ w'.cell? ⟨w.heap.size, 2, none⟩ = some (.string s) ∧ w'.cell? ⟨w.heap.size, 3, none⟩ = some (.slice p k c)) (first | exact KK.out _ (Below.refl _ _).drew | exact KK.out _ (Below.refl _ _) | exact KK.out _ HB1.out | exact KK.out _ HB2.out | exact KK.out _ HB3.out) (first
    | (go_at_call 7; (with_reducible refine (PC.out _ ?_).mono ?_); (first | exact (Below.refl _ _).drew | exact HB1.out); rintro e w3 ⟨rfl, hb⟩; first | (have HB2 := Lib.hid (HB1.out.then_ hb); clear hb) | (have HB1 := Lib.hid ((Below.refl _ _).drew.then_ hb); clear hb))
    | (go_at_call 8; (with_reducible refine (RC.out _ ?_).mono ?_); (first | exact (Below.refl _ _).drew | exact HB1.out); rintro e w3 ⟨rfl, hb⟩; first | (have HB2 := Lib.hid (HB1.out.then_ hb); clear hb) | (have HB1 := Lib.hid ((Below.refl _ _).drew.then_ hb); clear hb))
    | (go_at_call 9; (with_reducible refine (AC.out _ ?_).mono ?_); (first | exact HW1.out.then_ HB2.out); rintro e w3 ⟨rfl, hb⟩; have HB3 := Lib.hid (HB2.out.then_ hb); clear hb))
  all_goals
    go_wp2
    go_ret
    exact ⟨rfl, HW1.out.then_ HB3.out⟩
end Go.Proofs.YtlnomiiphlbamaaGreatDoor.EtR
namespace Go.Proofs.YtlnomiiphlbamaaGreatDoor.exprtextPrintsCard
open Go Go.ChangeShapes Go.WideShapes Go.ChangeAt Go.RowKit Go.Proofs.YtlnomiiphlbamaaGreatDoor.EtW Go.Proofs.YtlnomiiphlbamaaGreatDoor.EtR

set_option maxRecDepth 100000 in
theorem contract (H : Type) (enc : TypeId × Value → H) (W : World) (base : Nat) (args : Array Value) (ds gs : List (DataW H)) (before : List MemPlace)
    (hval0 : ∀ (j : Nat) t v, Tryz.f3.params[j]? = some t → args[j]? = some v → Value.okWide Tryz.prog W .any base t v)
    (hW : DataW.Whole enc Tryz.prog Tryz.f3.params.toList Rows.exprtextPrintsSpec.vars false W args.toList ds gs before)
    (hsz0 : (DataW.weightsEach Tryz.prog (Tryz.f3.params.toList ++ Rows.exprtextPrintsSpec.plain.varTypes Tryz.prog) (ds ++ gs)).all (· ≤ reachBytes) = true) (hL : laidMetH Tryz.prog laidAll W) (hk : Rows.uptoSmall H (ds ++ gs) = true) :
    Calls Tryz.prog 3 args W fun e W' => ∃ v, e = .returned v ∧ Rows.exprtextPrintsSpec.post enc Tryz.prog Tryz.f3 false true false false W args v W' := by
  have hval : ∀ (j : Nat) t v, Tryz.f3.params[j]? = some t → args[j]? = some v → Value.okWide Tryz.prog W .any base t v := hval0
  have _hsz : (DataW.weightsEach Tryz.prog (Tryz.f3.params.toList ++ Rows.exprtextPrintsSpec.plain.varTypes Tryz.prog) (ds ++ gs)).all (· ≤ reachBytes) = true := hsz0
  have hW' := hW
  obtain ⟨p, q, hA0, hV, rfl, _, _⟩ := hW
  have hA : DataW.TrodAll enc Tryz.prog W 0 (fun _ => true) true Tryz.f3.params.toList args.toList ds p := hA0
  rw [Tryz.params3] at hA hval _hsz
  obtain ⟨v0, vs0, d0, ds0, p0, q0, hargs, rfl, rfl, h0, r0⟩ := trodAll_cons hA
  obtain ⟨rfl, rfl, rfl⟩ := trodAll_nil r0
  obtain rfl : args = #[v0] := by cases args; simp_all
  obtain ⟨rfl, rfl⟩ := trodVars_none hV
  have hsz := _hsz
  have hk0 := h0
  have hlt0 : ∀ x ∈ p0, x.block < W.heap.size := fun x hx => hW'.lt x (by simp [hx])
  have hw0 : ∀ n ∈ d0.weights Tryz.prog 24, n ≤ 140737488351232 := fun n hn => reach_le (List.all_eq_true.1 hsz n (DataW.weights_mem_each (j := 0) rfl rfl n hn))
  obtain ⟨e0, ea0, ez0⟩ := open_expr (hval 0 24 v0 rfl rfl) h0 hlt0 hw0
  have hB := bulk_all hk
  simp only [Rows.uptoBulkAll, List.append_nil] at hB
  clear hA0 hval0
  simp only [List.append_nil] at hW'
  refine (prints_any e0 v0 W ea0 (by omega) (tab_of_laid hL)).mono fun e W' ⟨he, hnx⟩ => ?_
  subst he
  exact ⟨_, rfl, _, _, _, [], (p0 ++ []), [], hW', trodAll_cons_mk (shut_bool Tryz.underlying4 _) trodAll_mk0, (trodAll_cons_mk (Below.trod laidOut (by kernel_rfl) (of_decide_eq_true (by kernel_rfl)) hk0 hnx hlt0) trodAll_mk0), rfl, hnx.frame _, fun h => by cases h⟩
theorem reads (os : Os) {H : Type} (enc : TypeId × Value → H) : ∃ places, DataW.whole enc Tryz.prog ((World.doorLaid Tryz.prog 400 os).forCall (fun _ _ => 0) ⟨#[], #[.agg #[.int .i64 0, .int .i64 0, .string ⟨#[]⟩, .slice none 0 0]], []⟩).memory Tryz.f3.params.toList Rows.exprtextPrintsSpec.vars false (#[.agg #[.int .i64 0, .int .i64 0, .string ⟨#[]⟩, .slice none 0 0]] : Array Value).toList 8 = some ([.agg [.lit (.int .i64 0), .lit (.int .i64 0), .lit (.string []), .nil]], [], places) :=
  ⟨[], by kernel_rfl⟩
set_option maxRecDepth 100000 in
theorem lifted (os : Os) (started : os.Started) (H : Type) (enc : TypeId × Value → H) (F : Stop.Interp) :
    ReturnsInHanded {} Tryz.checked os 3 .any ((Rows.OpenSpec.upto Rows.exprtextPrintsSpec).preRow enc Tryz.prog Tryz.f3 Rows.exprtextPrintsUptoRow.domain false Rows.exprtextPrintsUptoRow.laid) (((Rows.OpenSpec.upto Rows.exprtextPrintsSpec).at F).post enc Tryz.prog Tryz.f3 false true false false) := by
  obtain ⟨places, hx⟩ := reads os enc
  refine returnsInHanded_of_row (C := Tryz.checked) (s := (Rows.OpenSpec.upto Rows.exprtextPrintsSpec)) own started (by kernel_rfl) Tryz.func3
    (witness_row_atRef (enc := enc) (C := Tryz.checked) false (World.doorLaid Tryz.prog 400 os) #[.agg #[.int .i64 0, .int .i64 0, .string ⟨#[]⟩, .slice none 0 0]] rfl (by kernel_rfl) (by kernel_rfl) (by kernel_rfl)
      (OpenSpec.preRow_of_cond 8 hx (by kernel_rfl) (fun k hk => by cases hk; kernel_rfl) (by kernel_rfl) (door_met os _))) ?_
  intro W base args ds gs before hval hW _ hcond hsz hL _ _
  exact contract H enc W base args ds gs before hval hW hsz hL (hcond _ rfl)

/-- The row: the call returns true, and each argument reads afterwards as it read before. -/
theorem said : Rows.ExprtextPrintsUptoSaid :=
  OpenClaim.holds_of_cond 3 Tryz.f3 rfl rfl rfl rfl rfl rfl rfl ⟨rfl, rfl, rfl, rfl, rfl⟩ rfl rfl rfl rfl rfl (by kernel_rfl) Tryz.func3 (by kernel_rfl)
    (of_decide_eq_true (by kernel_rfl)) (by unfold Func.isWrapper; first | (rw [if_pos (by decide +kernel)]; kernel_rfl) | (rw [if_neg (by decide +kernel)]; exact ⟨rfl, rfl⟩))
    (fun os started H enc _ F => by rw [OpenClaim.pre_eq_preRow]; exact lifted os started H enc F)

/-- No parameter wants a stand-in; what the program's looks are. -/
theorem plain (f : FuncId) (fn : Func) (hf : Tryz.pinned.checked.prog.funcNamed "testbench/testbenchlaw09.ExprtextPrints" = some f) (hfn : Tryz.pinned.checked.prog.funcs[f]? = some fn) :
    true = Tryz.pinned.checked.prog.looks [] ∧ ∀ (j : Nat) t, fn.params[j]? = some t → Tryz.pinned.checked.prog.wantsStandIn t = false := by
  obtain rfl : f = 3 := Option.some.inj ((show Tryz.prog.funcNamed "testbench/testbenchlaw09.ExprtextPrints" = some 3 by kernel_rfl).symm.trans hf) |>.symm
  obtain rfl : fn = Tryz.f3 := (Option.some.inj (Tryz.func3.symm.trans hfn)).symm
  refine ⟨by kernel_rfl, fun j t ht => ?_⟩
  rw [Tryz.params3] at ht
  have hm : t ∈ [24] := by simpa using Array.mem_of_getElem? ht
  have hall : ([24].all fun u => !Tryz.prog.wantsStandIn u) = true := by kernel_rfl
  exact (show Tryz.prog.wantsStandIn t = false by simpa using List.all_eq_true.1 hall t hm)

/-- The tied card. -/
theorem card : Rows.ExprtextPrintsUptoCardSaid :=
  Claim7.holds_tied_plain_at .later [] _ _ _ _ said (fun _ h => by cases h) (by kernel_rfl) (fun _ h => by cases h) exprtextPrintsUpto_row_tie rfl ⟨rfl, rfl⟩ (by kernel_rfl) rfl plain (by kernel_rfl)
end Go.Proofs.YtlnomiiphlbamaaGreatDoor.exprtextPrintsCard
