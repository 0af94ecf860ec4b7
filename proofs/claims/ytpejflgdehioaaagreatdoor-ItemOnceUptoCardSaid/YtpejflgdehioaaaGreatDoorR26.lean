/-
  Laws that the card uses; no conditions beside those that each states (ExLaid ExOpen ItLaid ItOpen).
-/
import Derived.Test.YtpejflgdehioaaaGreatDoorR25
namespace Go.Proofs.YtpejflgdehioaaaGreatDoor.ExW
open Go Go.RowKit Go.ChangeShapes Go.WideShapes Go.ChangeAt Go.Proofs.YtpejflgdehioaaaGreatDoor.LexM Go.Proofs.YtpejflgdehioaaaGreatDoor.LexW Go.Proofs.YtpejflgdehioaaaGreatDoor.ExM
def laidAll : List (String × DataW Unit) := Rows.itemScalarsRow.laid
theorem own : ownKnob Tryz.prog.godebug = none := by kernel_rfl
theorem tRange : (Tryz.prog.globals[2]?).map (·.type) = some 194 := by kernel_rfl
theorem cellsErr : Tryz.prog.cellsOf 235 = 1 := by kernel_rfl
theorem cellsStr : Tryz.prog.cellsOf 9 = 1 := by kernel_rfl
theorem star : "*" ++ "errors.errorString" = "*errors.errorString" := by decide
theorem rowErr (u : TypeId) (h : Tryz.prog.typeName? 3 u = some "*errors.errorString") : u = 233 :=
  typeName_ptr_named (nm := "errors.errorString") (by rw [star]; kernel_rfl) (by kernel_rfl) (by decide) u (by rw [star]; exact h)
theorem tab_of_laid {W : World} (h : laidMetH Tryz.prog laidAll W) : Tab W := by
  rw [MakeChecks.laidMetH_plain _ _ _ (by kernel_rfl)] at h; have h1 : laidMet Tryz.prog (("strconv.ErrRange", Rows.laid_strconv_ErrRange) :: ("strconv.ErrSyntax", Rows.laid_strconv_ErrSyntax) :: []) W := h.tail.tail.tail; obtain ⟨a0, _, hv0, _⟩ := laid_sentinel h1 gRange tRange Tryz.underlying194 rowErr Tryz.underlying233 Tryz.underlying235 rfl rfl Tryz.underlying9 cellsErr cellsStr; exact ⟨_, _, hv0⟩
theorem door_met (os : Os) (args : Array Value) : laidMetH Tryz.prog laidAll ((World.doorLaid Tryz.prog 400 os).forCall (fun _ _ => 0) ⟨#[], args, []⟩).memory :=
  laidMetH_of_parts3 (fuel := 8) (laidMet_of_run' 8 (by kernel_rfl) (by kernel_rfl)) (by kernel_rfl) (by kernel_rfl)
theorem laidOut : laidOutB Tryz.prog = true := by kernel_rfl
theorem cellsX : Tryz.prog.cellsOf 3 = 1 ∧ Tryz.prog.cellsOf 9 = 1 ∧ Tryz.prog.cellsOf 43 = 4 ∧ Tryz.prog.cellsOf 103 = 2 ∧ Tryz.prog.cellsOf 41 = 1 ∧ Tryz.prog.bytesOf 43 = 56 ∧ Tryz.prog.bytesOf 103 = 24 := by
  refine ⟨?_, ?_, ?_, ?_, ?_, ?_, ?_⟩ <;> kernel_rfl
theorem add_at (b off k : Nat) : (⟨b, off, none⟩ : Addr).add k = ⟨b, off + k, none⟩ := by
  unfold Addr.add; by_cases h : k = 0
  · subst h; simp
  · simp [h]
theorem pick_list {α : Type} {Q : Nat → α → Prop} : ∀ n : Nat, (∀ i, i < n → ∃ t, Q i t) → ∃ l : List α, l.length = n ∧ ∀ i t, l[i]? = some t → Q i t
  | 0, _ => ⟨[], rfl, fun i t h => by simp at h⟩
  | n + 1, h => by
    obtain ⟨l, hl, hq⟩ := pick_list n (fun i hi => h i (by omega)); obtain ⟨t, ht⟩ := h n (by omega); refine ⟨l ++ [t], by simp [hl], fun i u hu => ?_⟩; by_cases hi : i < n
    · rw [List.getElem?_append_left (by omega)] at hu; exact hq i u hu
    · have hil : i < (l ++ [t]).length := (List.getElem?_eq_some_iff.1 hu).1; have e : i = n := (by simp [hl] at hil; omega); subst e; rw [List.getElem?_append_right (by omega), hl] at hu; have : t = u := (by simpa using hu); rw [← this]; exact ht
theorem weights_in {H : Type} {P : Program} {e : TypeId} : ∀ {l : List (DataW H)} {d : DataW H}, d ∈ l → ∀ n ∈ d.weights P e, n ∈ DataW.weightsAll P e l
  | d' :: r, d, hd, n, hn => by
    simp only [DataW.weightsAll, List.mem_append]; rcases List.mem_cons.1 hd with rfl | h
    · exact .inl hn
    · exact .inr (weights_in h n hn)
theorem four_of {W : World} {a : Addr} {i : Nat} {c0 c1 c2 c3 : Value} (h : ∀ j, j < 4 → W.cell? ((a.add (i * 4)).add j) = ([c0, c1, c2, c3] : List Value)[j]?) {b off : Nat} (e : a = ⟨b, off, none⟩) :
    W.cell? ⟨b, off + i * 4, none⟩ = some c0 ∧ W.cell? ⟨b, off + i * 4 + 1, none⟩ = some c1 ∧ W.cell? ⟨b, off + i * 4 + 2, none⟩ = some c2 ∧ W.cell? ⟨b, off + i * 4 + 3, none⟩ = some c3 := by
  subst e; simp only [add_at] at h; exact ⟨h 0 (by omega), h 1 (by omega), h 2 (by omega), h 3 (by omega)⟩
set_option maxRecDepth 100000 in
theorem open_ex {H : Type} {enc : TypeId × Value → H} {W : World} : ∀ (fuel : Nat) (cs : List Value) (x : DataW H × List MemPlace), cs.length = 4 →
    DataW.trod enc Tryz.prog W 0 (fun _ => true) true fuel 43 cs = some x → (∀ y ∈ x.2, y.block < W.heap.size) → (∀ n ∈ x.1.weights Tryz.prog 43, n ≤ 140737488351232) →
    ∃ (e : Ex) (p : Option Addr) (cap : Nat), cs = [.int .i64 e.op, .int .i64 e.n, .string e.nm, .slice p e.args.length cap] ∧ ExAt W.heap.size W (xv e.op e.n e.nm (.slice p e.args.length cap)) e := by
  intro fuel; induction fuel using Nat.strongRecOn with
  | _ fuel ih =>
  intro cs x hl h hlt hw; obtain ⟨k1, k2, k3, _, k5, k6, _⟩ := cellsX; obtain ⟨xs, n, rfl, rfl, _, hlen, hfd⟩ := DataW.trod_struct Tryz.underlying43 h; match cs, hl with
  | [c0, c1, c2, c3], _ =>
    match xs, hlen with
    | [y0, y1, y2, y3], _ =>
      have h0 : DataW.trod enc Tryz.prog W 0 (fun _ => true) true n 3 ([c0, c1, c2, c3].take (Tryz.prog.cellsOf 3)) = some y0 := hfd 0 _ rfl; rw [k1, show [c0, c1, c2, c3].take 1 = [c0] from rfl] at h0; have h1 : DataW.trod enc Tryz.prog W 0 (fun _ => true) true n 3 ([c1, c2, c3].take (Tryz.prog.cellsOf 3)) = some y1 := hfd 1 _ rfl; rw [k1, show [c1, c2, c3].take 1 = [c1] from rfl] at h1; have h2 : DataW.trod enc Tryz.prog W 0 (fun _ => true) true n 9 ([c2, c3].take (Tryz.prog.cellsOf 9)) = some y2 := hfd 2 _ rfl; rw [k2, show [c2, c3].take 1 = [c2] from rfl] at h2; have h3 : DataW.trod enc Tryz.prog W 0 (fun _ => true) true n 41 ([c3].take (Tryz.prog.cellsOf 41)) = some y3 := hfd 3 _ rfl; rw [k5, show [c3].take 1 = [c3] from rfl] at h3; obtain ⟨m0, e0, _, w0⟩ := DataW.trod_int Tryz.underlying3 h0; obtain ⟨m1, e1, _, w1⟩ := DataW.trod_int Tryz.underlying3 h1; obtain ⟨s2, e2, rfl, w2⟩ := DataW.trod_string Tryz.underlying9 h2; obtain rfl : c0 = .int .i64 m0 := (by simpa using e0); obtain rfl : c1 = .int .i64 m1 := (by simpa using e1); obtain rfl : c2 = .string s2 := (by simpa using e2); have hwS : ∀ q ∈ (DataW.lit (Lit.string s2.data.toList) : DataW H).weights Tryz.prog 9, q ≤ 140737488351232 := fun q hq => hw q (by
        simp only [DataW.weights, Tryz.underlying43]; exact DataW.weights_mem_each (j := 2) rfl rfl q hq)
      have hwA : ∀ q ∈ y3.1.weights Tryz.prog 41, q ≤ 140737488351232 := fun q hq => hw q (by
        simp only [DataW.weights, Tryz.underlying43]; exact DataW.weights_mem_each (j := 3) rfl rfl q hq)
      have hs2 : s2.size ≤ 140737488351232 := by
        have := hwS s2.data.toList.length (by simp [DataW.weights]); rw [len_data] at this; exact this
      rcases DataW.trod_slice Tryz.underlying41 h3 with ⟨hcs, _⟩ | ⟨a, len, cap, elems, rest, m, rfl, hcs, rfl, _, hlc, _, hel, hE, _, _⟩
      · obtain rfl : c3 = .slice none 0 0 := (by simpa using hcs); exact ⟨.mk m0 m1 s2 [], none, 0, rfl, ExAt.mk (ks := []) (fun _ => none) (fun _ => 0) hs2 (by simp) (by simp) (fun h => by simp at h) (fun i a hi => by simp at hi)⟩
      · obtain rfl : c3 = .slice (some a) len cap := (by simpa using hcs); rw [k3] at hE hlt; have hbytes : len ≤ 140737488351232 := by
          have := hwA ((elems.length + rest.length) * 56) (by simp only [DataW.weights, Tryz.underlying41, k6, List.length_map]; simp); omega
        have each : ∀ i, i < len → ∃ t : Ex × Option Addr × Nat, (∀ j, j < 4 → W.cell? ((a.add (i * 4)).add j) = ([.int .i64 t.1.op, .int .i64 t.1.n, .string t.1.nm, .slice t.2.1 t.1.args.length t.2.2] : List Value)[j]?) ∧ ExAt W.heap.size W (xv t.1.op t.1.n t.1.nm (.slice t.2.1 t.1.args.length t.2.2)) t.1 := fun i hi => by
          have hi2 : i < elems.length := (by omega); have hb := hE i hi; rw [List.getElem?_eq_getElem hi2, Option.bind_eq_some_iff] at hb; obtain ⟨cs', hc', ht'⟩ := hb; obtain ⟨_, hcl, hat⟩ := World.cells?_some hc'; have hmem : elems[i] ∈ elems := List.getElem_mem hi2
          obtain ⟨e', p', cap', rfl, hx'⟩ := ih m (by omega) cs' elems[i] hcl ht'
            (fun y hy => hlt y (by simp only [List.flatMap_cons, List.mem_append]; exact .inr (.inr (.inr (.inl (.inr (List.mem_flatMap.2 ⟨_, List.mem_append.2 (.inl hmem), hy⟩))))))) 
            (fun q hq => hwA q (by
              simp only [DataW.weights, Tryz.underlying41, List.mem_cons, List.mem_append]; exact .inr (.inl (weights_in (List.mem_map.2 ⟨_, hmem, rfl⟩) q hq))))
          exact ⟨(e', p', cap'), hat, hx'⟩
        obtain ⟨l, hll, hq⟩ := pick_list len each; have hkl : (l.map (·.1)).length = len := (by rw [List.length_map, hll]); refine ⟨.mk m0 m1 s2 (l.map (·.1)), some a, cap, by simp only [Ex.op, Ex.n, Ex.nm, Ex.args, hkl], ?_⟩; simp only [Ex.op, Ex.n, Ex.nm, Ex.args]; have get : ∀ (i : Nat) (e' : Ex), (l.map (·.1))[i]? = some e' → ∃ t : Ex × Option Addr × Nat, l[i]? = some t ∧ t.1 = e' := fun i e' he => by
          rw [List.getElem?_map] at he; obtain ⟨t, ht, rfl⟩ := Option.map_eq_some_iff.1 he; exact ⟨t, ht, rfl⟩
        refine ExAt.mk (fun i => ((l[i]?).map (·.2.1)).getD none) (fun i => ((l[i]?).map (·.2.2)).getD 0) hs2 (by omega) (by omega) (fun h0 => ?_) (fun i e' he => ?_)
        · obtain ⟨b, off, spot⟩ := a; have hspot : spot = none := by
            obtain ⟨t0, ht0⟩ : ∃ t, l[0]? = some t := ⟨_, List.getElem?_eq_getElem (by omega)⟩; have := (hq 0 t0 ht0).1 0 (by omega)
            simpa [Addr.add] using World.cell?_spot this
          subst hspot; refine ⟨b, off, rfl, hlt (.cell b off) (by
            simp only [List.flatMap_cons, List.mem_append]; exact .inr (.inr (.inr (.inl (.inl (MemPlace.mem_row.2 ⟨0, by omega, by simp⟩)))))), fun i e' he => ?_⟩
          obtain ⟨t, ht, rfl⟩ := get i e' he; simp only [ht]; exact four_of (hq i t ht).1 rfl
        · obtain ⟨t, ht, rfl⟩ := get i e' he; simp only [ht]; exact (hq i t ht).2
theorem reach_le {n : Nat} (h : decide (n ≤ reachBytes) = true) : n ≤ 140737488351232 := of_decide_eq_true h
end Go.Proofs.YtpejflgdehioaaaGreatDoor.ExW
namespace Go.Proofs.YtpejflgdehioaaaGreatDoor.ItW
open Go Go.RowKit Go.ChangeShapes Go.WideShapes Go.ChangeAt Go.Proofs.YtpejflgdehioaaaGreatDoor.NumM Go.Proofs.YtpejflgdehioaaaGreatDoor.LexM Go.Proofs.YtpejflgdehioaaaGreatDoor.LexW Go.Proofs.YtpejflgdehioaaaGreatDoor.ExM Go.Proofs.YtpejflgdehioaaaGreatDoor.ExW Go.Proofs.YtpejflgdehioaaaGreatDoor.ItM
open Go.Proofs.YtpejflgdehioaaaGreatDoor.ClM (Fld)
theorem tSyntax : (Tryz.prog.globals[1]?).map (·.type) = some 194 := by kernel_rfl
theorem tabI_of_laid {W : World} (h : laidMetH Tryz.prog laidAll W) : TabI W := by
  refine ⟨tab_of_laid h, ?_⟩; rw [MakeChecks.laidMetH_plain _ _ _ (by kernel_rfl)] at h; have h1 : laidMet Tryz.prog (("strconv.ErrRange", Rows.laid_strconv_ErrRange) :: ("strconv.ErrSyntax", Rows.laid_strconv_ErrSyntax) :: []) W := h.tail.tail.tail; have h2 : laidMet Tryz.prog (("strconv.ErrSyntax", Rows.laid_strconv_ErrSyntax) :: []) W := h1.tail; obtain ⟨a0, _, hv0, _⟩ := laid_sentinel h2 gSyntax tSyntax Tryz.underlying194 rowErr Tryz.underlying233 Tryz.underlying235 rfl rfl Tryz.underlying9 cellsErr cellsStr; exact ⟨_, _, hv0⟩
theorem fds_of {N : Nat} {W : World} {p : Option Addr} {cap : Nat} {fs : List Fld} (h : ClW.At (ClW.Lo N) W (.r .fields) (.slice p fs.length cap) (.row .fields (fs.map ClM.Fld.lf))) : FdsA N W (.slice p fs.length cap) fs := by
  obtain ⟨p', cap', F, e, r⟩ := h.rowOf; rw [List.length_map] at e; simp only [Value.slice.injEq] at e; obtain ⟨rfl, -, rfl⟩ := e; have hl := r.hl; have hc := r.hc; rw [List.length_map] at hl hc; have lf : ∀ (i : Nat) (f : Fld), fs[i]? = some f → (fs.map ClM.Fld.lf)[i]? = some (ClM.Fld.lf f) := (fun i f hi => by rw [List.getElem?_map, hi]; rfl); refine ⟨p, cap, rfl, hl, hc, fun f hf => ?_, fun h0 => ?_⟩
  · obtain ⟨i, hi⟩ := List.getElem?_of_mem hf; exact (r.hx i _ 0 _ .s (lf i f hi) rfl rfl).sOf.2
  · obtain ⟨b, off, rfl, hb, hcell⟩ := r.hp (by rw [List.length_map]; exact h0); refine ⟨b, off, rfl, hb, fun i f hi => ?_⟩; have hil := (List.getElem?_eq_some_iff.1 hi).1; have c := (fun j (hj : j < 5) => hcell i j (by rw [List.length_map]; exact hil) hj); have e0 := (r.hx i _ 0 _ .s (lf i f hi) rfl rfl).sOf.1; have e1 := (r.hx i _ 1 _ .n (lf i f hi) rfl rfl).nOf; have e2 := (r.hx i _ 2 _ .n (lf i f hi) rfl rfl).nOf; have e3 := (r.hx i _ 3 _ .n (lf i f hi) rfl rfl).nOf; have e4 := (r.hx i _ 4 _ .n (lf i f hi) rfl rfl).nOf; have c0 := c 0 (by decide); have c1 := c 1 (by decide); have c2 := c 2 (by decide); have c3 := c 3 (by decide); have c4 := c 4 (by decide); rw [e0] at c0; rw [e1] at c1; rw [e2] at c2; rw [e3] at c3; rw [e4] at c4; exact ⟨c0, c1, c2, c3, c4⟩
theorem cla_of {N : Nat} {W : World} {pf : Option Addr} {cf : Nat} {pb : Option Addr} {cb : Nat} {c : ClM.Cl} (h : ClW.CV (ClW.Lo N) W pf cf pb cb c) : ClA N W (ClW.cv c.nm c.par (.slice pf c.fs.length cf) (.slice pb c.bs.length cb)) c.fs :=
  ⟨c.nm, c.par, _, pb, c.bs.length, cb, rfl, fds_of h.fs⟩
end Go.Proofs.YtpejflgdehioaaaGreatDoor.ItW
namespace Go.Proofs.YtpejflgdehioaaaGreatDoor.ItW
open Go Go.RowKit Go.ChangeShapes Go.WideShapes Go.ChangeAt Go.Proofs.YtpejflgdehioaaaGreatDoor.NumM Go.Proofs.YtpejflgdehioaaaGreatDoor.LexM Go.Proofs.YtpejflgdehioaaaGreatDoor.LexW Go.Proofs.YtpejflgdehioaaaGreatDoor.ExM Go.Proofs.YtpejflgdehioaaaGreatDoor.ExW Go.Proofs.YtpejflgdehioaaaGreatDoor.ItM
theorem bulk_all {H : Type} {l : List (DataW H)} (h : Rows.uptoSmall H l = true) : Rows.uptoBulkAll l ≤ 1048576 := of_decide_eq_true h
theorem iszs_sum : ∀ l : List It, iszs l = (l.map isz).sum
  | [] => by rw [iszs_nil]; rfl
  | a :: r => by rw [iszs_cons, iszs_sum r, List.map_cons, List.sum_cons]
section
variable {H : Type} {enc : TypeId × Value → H} {W : World}
theorem sum_bulk {α : Type} (f : α → Nat) : ∀ (l : List α) (r : List (DataW H)), l.length = r.length → (∀ (i : Nat) (a : α) (y : DataW H), l[i]? = some a → r[i]? = some y → f a ≤ Rows.uptoBulk y) → (l.map f).sum ≤ Rows.uptoBulkAll r
  | [], [], _, _ => by simp
  | a :: l, y :: r, h, k => by
    have h1 := k 0 a y rfl rfl; have h2 := sum_bulk f l r (by simpa using h) (fun i b z hb hz => k (i + 1) b z hb hz); rw [List.map_cons, List.sum_cons, Rows.uptoBulkAll]; omega
theorem open_row {α : Type} (T E : TypeId) (k byt : Nat) (hT : Tryz.prog.underlying T = some (.slice E)) (hc : Tryz.prog.cellsOf E = k) (hb : Tryz.prog.bytesOf E = byt) (h0 : 0 < k) (P : List Value → DataW H → α → Prop) (fuel : Nat)
    (hel : ∀ m (cs : List Value) (x : DataW H × List MemPlace), m < fuel → cs.length = k → DataW.trod enc Tryz.prog W 0 (fun _ => true) true m E cs = some x → (∀ y ∈ x.2, y.block < W.heap.size) → (∀ n ∈ x.1.weights Tryz.prog E, n ≤ 140737488351232) → ∃ t, P cs x.1 t)
    (v : Value) (x : DataW H × List MemPlace) (h : DataW.trod enc Tryz.prog W 0 (fun _ => true) true fuel T [v] = some x) (hlt : ∀ y ∈ x.2, y.block < W.heap.size) (hw : ∀ n ∈ x.1.weights Tryz.prog T, n ≤ 140737488351232) :
    ∃ (p : Option Addr) (cap : Nat) (l : List α) (C : Nat → List Value), v = .slice p l.length cap ∧ l.length * byt ≤ 140737488351232 ∧ l.length ≤ cap ∧
      (0 < l.length → ∃ b off, p = some ⟨b, off, none⟩ ∧ b < W.heap.size ∧ ∀ i t, l[i]? = some t → ∀ j, j < k → W.cell? ⟨b, off + i * k + j, none⟩ = (C i)[j]?) ∧
      (∀ i t, l[i]? = some t → ∃ d, P (C i) d t) ∧
      ∀ f : α → Nat, (∀ cs d t, P cs d t → f t ≤ Rows.uptoBulk d) → (l.map f).sum ≤ Rows.uptoBulk x.1 := by
  rcases DataW.trod_slice hT h with ⟨hcs, _⟩ | ⟨a, len, cap, elems, rest, m, rfl, hcs, rfl, _, hlc, _, hl, hE, _, _⟩
  · obtain rfl : v = .slice none 0 0 := (by simpa using hcs); exact ⟨none, 0, [], fun _ => [], rfl, by simp, by simp, fun h => by simp at h, fun i t h => by simp at h, fun f _ => by simp⟩
  · obtain rfl : v = .slice (some a) len cap := (by simpa using hcs); rw [hc] at hE hlt; have hbytes : len * byt ≤ 140737488351232 := by
      have := hw ((elems.length + rest.length) * byt) (by simp only [DataW.weights, hT, hb, List.length_map]; simp); have h2 : len * byt ≤ (elems.length + rest.length) * byt := Nat.mul_le_mul_right _ (by omega); omega
    have each : ∀ i, i < len → ∃ t : List Value × α, (∀ j, j < k → W.cell? ((a.add (i * k)).add j) = t.1[j]?) ∧ t.1.length = k ∧ ∀ y, elems[i]? = some y → P t.1 y.1 t.2 := fun i hi => by
      have hi2 : i < elems.length := (by omega); have hbb := hE i hi; rw [List.getElem?_eq_getElem hi2, Option.bind_eq_some_iff] at hbb; obtain ⟨cs', hc', ht'⟩ := hbb; obtain ⟨_, hcl, hat⟩ := World.cells?_some hc'; have hmem : elems[i] ∈ elems := List.getElem_mem hi2
      obtain ⟨t, hp⟩ := hel m cs' elems[i] (by omega) hcl ht'
        (fun y hy => hlt y (List.mem_append.2 (.inr (List.mem_flatMap.2 ⟨_, List.mem_append.2 (.inl hmem), hy⟩))))
        (fun q hq => hw q (by
          simp only [DataW.weights, hT, List.mem_cons, List.mem_append]; exact .inr (.inl (weights_in (List.mem_map.2 ⟨_, hmem, rfl⟩) q hq))))
      exact ⟨(cs', t), hat, hcl, fun y hy => by rw [List.getElem?_eq_getElem hi2] at hy; cases hy; exact hp⟩
    obtain ⟨l, hll, hq⟩ := pick_list len each; have get : ∀ (i : Nat) (y : α), (l.map (·.2))[i]? = some y → ∃ t : List Value × α, l[i]? = some t ∧ t.2 = y := fun i y he => by
      rw [List.getElem?_map] at he; obtain ⟨t, ht, rfl⟩ := Option.map_eq_some_iff.1 he; exact ⟨t, ht, rfl⟩
    have hkl : (l.map (·.2)).length = len := (by rw [List.length_map, hll]); refine ⟨some a, cap, l.map (·.2), fun i => ((l[i]?).map (·.1)).getD [], by rw [hkl], by rw [hkl]; exact hbytes, by rw [hkl]; exact hlc, fun hpos => ?_, fun i y he => ?_, fun f hf => ?_⟩
    · rw [hkl] at hpos; obtain ⟨b, off, spot⟩ := a; have hspot : spot = none := by
        obtain ⟨t0, ht0⟩ : ∃ t, l[0]? = some t := ⟨_, List.getElem?_eq_getElem (by omega)⟩; obtain ⟨g1, g2, _⟩ := hq 0 t0 ht0; have := g1 0 h0; rw [List.getElem?_eq_getElem (by rw [g2]; exact h0)] at this
        simpa [Addr.add] using World.cell?_spot this
      subst hspot; refine ⟨b, off, rfl, hlt (.cell b off) (List.mem_append.2 (.inl (MemPlace.mem_row.2 ⟨0, Nat.mul_pos (by omega) h0, by simp⟩))), fun i y he j hj => ?_⟩; obtain ⟨t, ht, _⟩ := get i y he; have := (hq i t ht).1 j hj; rw [add_at, add_at] at this; rw [this]; show t.1[j]? = (((l[i]?).map (·.1)).getD [])[j]?; rw [ht]; rfl
    · obtain ⟨t, ht, rfl⟩ := get i y he; have hil := (List.getElem?_eq_some_iff.1 ht).1; have hi2 : i < elems.length := (by omega); have := (hq i t ht).2.2 _ (List.getElem?_eq_getElem hi2); refine ⟨elems[i].1, ?_⟩
      · show P (((l[i]?).map (·.1)).getD []) _ _; rw [ht]; exact this
    · have q := sum_bulk f (l.map (·.2)) ((elems.map (·.1)).take len) (by rw [hkl, List.length_take, List.length_map]; omega) (fun i y d he hd => by
        obtain ⟨t, ht, rfl⟩ := get i y he; have hil := (List.getElem?_eq_some_iff.1 ht).1; rw [List.getElem?_take, if_pos (by omega), List.getElem?_map] at hd; obtain ⟨u, hu, rfl⟩ := Option.map_eq_some_iff.1 hd; exact hf _ _ _ ((hq i t ht).2.2 u hu))
      have hle : len = elems.length := (by omega); rw [List.take_of_length_le (by rw [List.length_map]; omega)] at q; simp only [Rows.uptoBulk]; omega
theorem open_strs (fuel : Nat) (v : Value) (x : DataW H × List MemPlace) (h : DataW.trod enc Tryz.prog W 0 (fun _ => true) true fuel 27 [v] = some x) (hlt : ∀ y ∈ x.2, y.block < W.heap.size) (hw : ∀ n ∈ x.1.weights Tryz.prog 27, n ≤ 140737488351232) : ∃ l, StA W.heap.size W v l := by
  obtain ⟨p, cap, l, C, rfl, h1, h2, h3, h4, _⟩ := open_row (W := W) (enc := enc) 27 9 1 16 Tryz.underlying27 ClW.cells_string ClW.bytes_string (by decide) (fun cs _ (s : ByteArray) => cs = [.string s] ∧ s.size ≤ 140737488351232) fuel (fun m cs x _ _ h _ hw => by
    obtain ⟨s, e, g, _⟩ := DataW.trod_string Tryz.underlying9 h; refine ⟨s, e, ?_⟩; rw [g] at hw; have := hw s.data.toList.length (by simp [DataW.weights]); rw [len_data] at this; exact this) v x h hlt hw
  refine ⟨l, p, cap, rfl, h1, h2, fun s hs => ?_, fun h0 => ?_⟩
  · obtain ⟨i, hi⟩ := List.getElem?_of_mem hs; obtain ⟨_, _, hz⟩ := h4 i s hi; exact hz
  · obtain ⟨b, off, e, hb, hcell⟩ := h3 h0; refine ⟨b, off, e, hb, fun i s hi => ?_⟩; obtain ⟨_, hc, _⟩ := h4 i s hi; have := hcell i s hi 0 (by decide); rw [hc, Nat.mul_one] at this; exact this
set_option maxRecDepth 100000 in
theorem open_wts (fuel : Nat) (v : Value) (x : DataW H × List MemPlace) (h : DataW.trod enc Tryz.prog W 0 (fun _ => true) true fuel 53 [v] = some x) (hlt : ∀ y ∈ x.2, y.block < W.heap.size) (hw : ∀ n ∈ x.1.weights Tryz.prog 53, n ≤ 140737488351232) : ∃ l, WtA W.heap.size W v l := by
  obtain ⟨p, cap, l, C, rfl, h1, h2, h3, h4, _⟩ := open_row (W := W) (enc := enc) 53 130 4 32 Tryz.underlying53 ClW.cells_Weight ClW.bytes_Weight (by decide) (fun cs _ (t : Wt) => cs = [.int .i64 t.lo, .int .i64 t.hi, .int .i64 t.wt, .bool t.ea]) fuel (fun m cs x _ hl h _ hw => by
    obtain ⟨xs, n, rfl, rfl, _, hlen, hfd⟩ := DataW.trod_struct Tryz.underlying130 h; match cs, hl with
    | [c0, c1, c2, c3], _ =>
      match xs, hlen with
      | [y0, y1, y2, y3], _ =>
        have h0 : DataW.trod enc Tryz.prog W 0 (fun _ => true) true n 3 ([c0, c1, c2, c3].take (Tryz.prog.cellsOf 3)) = some y0 := hfd 0 _ rfl; rw [ClW.cells_int, show [c0, c1, c2, c3].take 1 = [c0] from rfl] at h0; obtain ⟨m0, e0, _, _⟩ := DataW.trod_int Tryz.underlying3 h0; obtain rfl : c0 = .int .i64 m0 := (by simpa using e0); have h1 : DataW.trod enc Tryz.prog W 0 (fun _ => true) true n 3 ([c1, c2, c3].take (Tryz.prog.cellsOf 3)) = some y1 := hfd 1 _ rfl; rw [ClW.cells_int, show [c1, c2, c3].take 1 = [c1] from rfl] at h1; obtain ⟨m1, e1, _, _⟩ := DataW.trod_int Tryz.underlying3 h1; obtain rfl : c1 = .int .i64 m1 := (by simpa using e1); have h2 : DataW.trod enc Tryz.prog W 0 (fun _ => true) true n 3 ([c2, c3].take (Tryz.prog.cellsOf 3)) = some y2 := hfd 2 _ rfl; rw [ClW.cells_int, show [c2, c3].take 1 = [c2] from rfl] at h2; obtain ⟨m2, e2, _, _⟩ := DataW.trod_int Tryz.underlying3 h2; obtain rfl : c2 = .int .i64 m2 := (by simpa using e2); have h3 : DataW.trod enc Tryz.prog W 0 (fun _ => true) true n 4 ([c3].take (Tryz.prog.cellsOf 4)) = some y3 := hfd 3 _ rfl; rw [ClW.cells_bool, show [c3].take 1 = [c3] from rfl] at h3; obtain ⟨m3, e3, _⟩ := DataW.trod_bool Tryz.underlying4 h3; obtain rfl : c3 = .bool m3 := (by simpa using e3); exact ⟨⟨m0, m1, m2, m3⟩, rfl⟩) v x h hlt hw
  refine ⟨l, p, cap, rfl, h1, h2, fun h0 => ?_⟩; obtain ⟨b, off, e, hb, hcell⟩ := h3 h0; refine ⟨b, off, e, hb, fun i t hi => ?_⟩; obtain ⟨_, hc⟩ := h4 i t hi; have c := (fun j hj => hcell i t hi j hj); rw [hc] at c; exact ⟨c 0 (by decide), c 1 (by decide), c 2 (by decide), c 3 (by decide)⟩
def ItP (W : World) (cs : List Value) (d : DataW H) (x : It) : Prop :=
  (∃ a4 a7 a8 a9 a10 a11, cs = [.int .i64 x.kd, .int .i64 x.e.op, .int .i64 x.e.n, .string x.e.nm, a4, .string x.nm, .string x.ix, a7, a8, a9, a10, a11] ∧ IV W.heap.size W a4 a7 a8 a9 a10 a11 x) ∧ isz x ≤ Rows.uptoBulk d
set_option maxRecDepth 100000 in
theorem open_item (fuel : Nat) (ih : ∀ m, m < fuel → ∀ (v : Value) (x : DataW H × List MemPlace), DataW.trod enc Tryz.prog W 0 (fun _ => true) true m 22 [v] = some x → (∀ y ∈ x.2, y.block < W.heap.size) → (∀ n ∈ x.1.weights Tryz.prog 22, n ≤ 140737488351232) → ∃ l, ItsA W.heap.size W v l ∧ iszs l ≤ Rows.uptoBulk x.1)
    (cs : List Value) (x : DataW H × List MemPlace) (hl : cs.length = 12) (h : DataW.trod enc Tryz.prog W 0 (fun _ => true) true fuel 55 cs = some x) (hlt : ∀ y ∈ x.2, y.block < W.heap.size) (hw : ∀ n ∈ x.1.weights Tryz.prog 55, n ≤ 140737488351232) : ∃ t, ItP W cs x.1 t := by
  obtain ⟨xs, n, rfl, rfl, _, hlen, hfd⟩ := DataW.trod_struct Tryz.underlying55 h; match cs, hl with
  | [c0, c1, c2, c3, c4, c5, c6, c7, c8, c9, c10, c11], _ =>
    match xs, hlen with
    | [y0, y1, y2, y3, y4, y5, y6, y7, y8], _ =>
      have h0 : DataW.trod enc Tryz.prog W 0 (fun _ => true) true n 3 ([c0, c1, c2, c3, c4, c5, c6, c7, c8, c9, c10, c11].take (Tryz.prog.cellsOf 3)) = some y0 := hfd 0 _ rfl; rw [ClW.cells_int, show [c0, c1, c2, c3, c4, c5, c6, c7, c8, c9, c10, c11].take 1 = [c0] from rfl] at h0; obtain ⟨m0, e0, _, _⟩ := DataW.trod_int Tryz.underlying3 h0; obtain rfl : c0 = .int .i64 m0 := (by simpa using e0); have h1 : DataW.trod enc Tryz.prog W 0 (fun _ => true) true n 43 ([c1, c2, c3, c4, c5, c6, c7, c8, c9, c10, c11].take (Tryz.prog.cellsOf 43)) = some y1 := hfd 1 _ rfl; rw [ClW.cells_Expr, show [c1, c2, c3, c4, c5, c6, c7, c8, c9, c10, c11].take 4 = [c1, c2, c3, c4] from rfl] at h1; have p1 : ∀ z ∈ y1.2, z.block < W.heap.size := (fun z hz => hlt z (List.mem_flatMap.2 ⟨y1, by simp, hz⟩)); have w1 : ∀ q ∈ y1.1.weights Tryz.prog 43, q ≤ 140737488351232 := fun q hq => hw q (by
        simp only [DataW.weights, Tryz.underlying55]; exact DataW.weights_mem_each (j := 1) rfl rfl q hq)
      obtain ⟨e1, q1, k1, hc1, a1⟩ := open_ex n [c1, c2, c3, c4] y1 rfl h1 p1 w1; obtain ⟨rfl, rfl, rfl, rfl⟩ : c1 = .int .i64 e1.op ∧ c2 = .int .i64 e1.n ∧ c3 = .string e1.nm ∧ c4 = .slice q1 e1.args.length k1 := (by simpa using hc1); have h2 : DataW.trod enc Tryz.prog W 0 (fun _ => true) true n 9 ([c5, c6, c7, c8, c9, c10, c11].take (Tryz.prog.cellsOf 9)) = some y2 := hfd 2 _ rfl; rw [ClW.cells_string, show [c5, c6, c7, c8, c9, c10, c11].take 1 = [c5] from rfl] at h2; have p2 : ∀ z ∈ y2.2, z.block < W.heap.size := (fun z hz => hlt z (List.mem_flatMap.2 ⟨y2, by simp, hz⟩)); have w2 : ∀ q ∈ y2.1.weights Tryz.prog 9, q ≤ 140737488351232 := fun q hq => hw q (by
        simp only [DataW.weights, Tryz.underlying55]; exact DataW.weights_mem_each (j := 2) rfl rfl q hq)
      obtain ⟨s2, e2, g2, _⟩ := DataW.trod_string Tryz.underlying9 h2; obtain rfl : c5 = .string s2 := (by simpa using e2); have z2 : s2.size ≤ 140737488351232 := by
        rw [g2] at w2; have := w2 s2.data.toList.length (by simp [DataW.weights]); rw [len_data] at this; exact this
      have h3 : DataW.trod enc Tryz.prog W 0 (fun _ => true) true n 9 ([c6, c7, c8, c9, c10, c11].take (Tryz.prog.cellsOf 9)) = some y3 := hfd 3 _ rfl; rw [ClW.cells_string, show [c6, c7, c8, c9, c10, c11].take 1 = [c6] from rfl] at h3; have p3 : ∀ z ∈ y3.2, z.block < W.heap.size := (fun z hz => hlt z (List.mem_flatMap.2 ⟨y3, by simp, hz⟩)); have w3 : ∀ q ∈ y3.1.weights Tryz.prog 9, q ≤ 140737488351232 := fun q hq => hw q (by
        simp only [DataW.weights, Tryz.underlying55]; exact DataW.weights_mem_each (j := 3) rfl rfl q hq)
      obtain ⟨s3, e3, g3, _⟩ := DataW.trod_string Tryz.underlying9 h3; obtain rfl : c6 = .string s3 := (by simpa using e3); have z3 : s3.size ≤ 140737488351232 := by
        rw [g3] at w3; have := w3 s3.data.toList.length (by simp [DataW.weights]); rw [len_data] at this; exact this
      have h4 : DataW.trod enc Tryz.prog W 0 (fun _ => true) true n 53 ([c7, c8, c9, c10, c11].take (Tryz.prog.cellsOf 53)) = some y4 := hfd 4 _ rfl; rw [ClW.cells_SWeight, show [c7, c8, c9, c10, c11].take 1 = [c7] from rfl] at h4; have p4 : ∀ z ∈ y4.2, z.block < W.heap.size := (fun z hz => hlt z (List.mem_flatMap.2 ⟨y4, by simp, hz⟩)); have w4 : ∀ q ∈ y4.1.weights Tryz.prog 53, q ≤ 140737488351232 := fun q hq => hw q (by
        simp only [DataW.weights, Tryz.underlying55]; exact DataW.weights_mem_each (j := 4) rfl rfl q hq)
      obtain ⟨l4, a4⟩ := open_wts n c7 y4 h4 p4 w4; have h5 : DataW.trod enc Tryz.prog W 0 (fun _ => true) true n 22 ([c8, c9, c10, c11].take (Tryz.prog.cellsOf 22)) = some y5 := hfd 5 _ rfl; rw [ClW.cells_SItem, show [c8, c9, c10, c11].take 1 = [c8] from rfl] at h5; have p5 : ∀ z ∈ y5.2, z.block < W.heap.size := (fun z hz => hlt z (List.mem_flatMap.2 ⟨y5, by simp, hz⟩)); have w5 : ∀ q ∈ y5.1.weights Tryz.prog 22, q ≤ 140737488351232 := fun q hq => hw q (by
        simp only [DataW.weights, Tryz.underlying55]; exact DataW.weights_mem_each (j := 5) rfl rfl q hq)
      obtain ⟨l5, a5, b5⟩ := ih n (by omega) c8 y5 h5 p5 w5; have h6 : DataW.trod enc Tryz.prog W 0 (fun _ => true) true n 22 ([c9, c10, c11].take (Tryz.prog.cellsOf 22)) = some y6 := hfd 6 _ rfl; rw [ClW.cells_SItem, show [c9, c10, c11].take 1 = [c9] from rfl] at h6; have p6 : ∀ z ∈ y6.2, z.block < W.heap.size := (fun z hz => hlt z (List.mem_flatMap.2 ⟨y6, by simp, hz⟩)); have w6 : ∀ q ∈ y6.1.weights Tryz.prog 22, q ≤ 140737488351232 := fun q hq => hw q (by
        simp only [DataW.weights, Tryz.underlying55]; exact DataW.weights_mem_each (j := 6) rfl rfl q hq)
      obtain ⟨l6, a6, b6⟩ := ih n (by omega) c9 y6 h6 p6 w6; have h7 : DataW.trod enc Tryz.prog W 0 (fun _ => true) true n 27 ([c10, c11].take (Tryz.prog.cellsOf 27)) = some y7 := hfd 7 _ rfl; rw [ClW.cells_Sstring, show [c10, c11].take 1 = [c10] from rfl] at h7; have p7 : ∀ z ∈ y7.2, z.block < W.heap.size := (fun z hz => hlt z (List.mem_flatMap.2 ⟨y7, by simp, hz⟩)); have w7 : ∀ q ∈ y7.1.weights Tryz.prog 27, q ≤ 140737488351232 := fun q hq => hw q (by
        simp only [DataW.weights, Tryz.underlying55]; exact DataW.weights_mem_each (j := 7) rfl rfl q hq)
      obtain ⟨l7, a7⟩ := open_strs n c10 y7 h7 p7 w7; have h8 : DataW.trod enc Tryz.prog W 0 (fun _ => true) true n 27 ([c11].take (Tryz.prog.cellsOf 27)) = some y8 := hfd 8 _ rfl; rw [ClW.cells_Sstring, show [c11].take 1 = [c11] from rfl] at h8; have p8 : ∀ z ∈ y8.2, z.block < W.heap.size := (fun z hz => hlt z (List.mem_flatMap.2 ⟨y8, by simp, hz⟩)); have w8 : ∀ q ∈ y8.1.weights Tryz.prog 27, q ≤ 140737488351232 := fun q hq => hw q (by
        simp only [DataW.weights, Tryz.underlying55]; exact DataW.weights_mem_each (j := 8) rfl rfl q hq)
      obtain ⟨l8, a8⟩ := open_strs n c11 y8 h8 p8 w8; refine ⟨.mk m0 e1 s2 s3 l4 l5 l6 l7 l8, ⟨_, _, _, _, _, _, rfl, ⟨z2, z3, a1, a4, a5, a6, a7, a8⟩⟩, ?_⟩; have e9 : ∀ (A B C D E F G I J : DataW H), Rows.uptoBulk (.agg [A, B, C, D, E, F, G, I, J]) = Rows.uptoBulk A + (Rows.uptoBulk B + (Rows.uptoBulk C + (Rows.uptoBulk D + (Rows.uptoBulk E + (Rows.uptoBulk F + (Rows.uptoBulk G + (Rows.uptoBulk I + (Rows.uptoBulk J + 0)))))))) + 1 := (fun _ _ _ _ _ _ _ _ _ => by simp only [Rows.uptoBulk, Rows.uptoBulkAll]); rw [isz_eq]; simp only [It.it, It.el, List.map_cons, List.map_nil]; rw [e9]; omega
set_option maxRecDepth 100000 in
theorem open_itemsF : ∀ (fuel : Nat) (v : Value) (x : DataW H × List MemPlace), DataW.trod enc Tryz.prog W 0 (fun _ => true) true fuel 22 [v] = some x → (∀ y ∈ x.2, y.block < W.heap.size) → (∀ n ∈ x.1.weights Tryz.prog 22, n ≤ 140737488351232) → ∃ l, ItsA W.heap.size W v l ∧ iszs l ≤ Rows.uptoBulk x.1 := by
  intro fuel; induction fuel using Nat.strongRecOn with
  | _ fuel ih =>
  intro v x h hlt hw; obtain ⟨p, cap, l, C, rfl, h1, h2, h3, h4, h5⟩ := open_row (W := W) (enc := enc) 22 55 12 216 Tryz.underlying22 ClW.cells_Item ClW.bytes_Item (by decide) (ItP W) fuel (fun m cs y hm hl h hlt hw => open_item m (fun m' hm' => ih m' (by omega)) cs y hl h hlt hw) v x h hlt hw; refine ⟨l, ?_, ?_⟩
  · have hv : ∀ (i : Nat) (t : It), l[i]? = some t → C i = [.int .i64 t.kd, .int .i64 t.e.op, .int .i64 t.e.n, .string t.e.nm, (C i).getD 4 (.bool false), .string t.nm, .string t.ix, (C i).getD 7 (.bool false), (C i).getD 8 (.bool false), (C i).getD 9 (.bool false), (C i).getD 10 (.bool false), (C i).getD 11 (.bool false)] ∧
        IV W.heap.size W ((C i).getD 4 (.bool false)) ((C i).getD 7 (.bool false)) ((C i).getD 8 (.bool false)) ((C i).getD 9 (.bool false)) ((C i).getD 10 (.bool false)) ((C i).getD 11 (.bool false)) t := fun i t hi => by
      obtain ⟨d, ⟨a4, a7, a8, a9, a10, a11, e, hI⟩, _⟩ := h4 i t hi; rw [e]; exact ⟨rfl, hI⟩
    have r : RowI W.heap.size W p cap (fun i j => (C i).getD j (.bool false)) l := ⟨h1, h2, fun h0 => by
      obtain ⟨b, off, e, hb, hcell⟩ := h3 h0; refine ⟨b, off, e, hb, fun i t hi => ?_⟩; have c := (fun j hj => hcell i t hi j hj); rw [(hv i t hi).1] at c; exact ⟨c 0 (by decide), c 1 (by decide), c 2 (by decide), c 3 (by decide), c 4 (by decide), c 5 (by decide), c 6 (by decide), c 7 (by decide), c 8 (by decide), c 9 (by decide), c 10 (by decide), c 11 (by decide)⟩, fun i t hi => (hv i t hi).2⟩
    exact r.its
  · rw [iszs_sum]; exact h5 isz fun cs d t h => h.2
end
set_option maxRecDepth 100000 in
theorem open_items {H : Type} {enc : TypeId × Value → H} {W : World} {r : Reach} {b0 : Nat} {v : Value} {d : DataW H} {p : List MemPlace} (hval : Value.okWide Tryz.prog W r b0 22 v)
    (h : DataW.Trod enc Tryz.prog W 0 (fun _ => true) true 22 v d p) (hlt : ∀ x ∈ p, x.block < W.heap.size) (hw : ∀ n ∈ d.weights Tryz.prog 22, n ≤ 140737488351232) :
    ∃ l : List It, ItsA W.heap.size W v l ∧ iszs l ≤ Rows.uptoBulk d := by
  obtain ⟨a0, len0, cap0, rfl⟩ := okWide_slice Tryz.underlying22 hval; obtain ⟨fuel, hf⟩ := h; exact open_itemsF fuel _ (d, p) (by simpa [Value.cells] using hf) hlt hw
end Go.Proofs.YtpejflgdehioaaaGreatDoor.ItW
