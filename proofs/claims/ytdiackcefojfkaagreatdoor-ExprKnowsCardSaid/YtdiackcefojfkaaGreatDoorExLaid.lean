/-
  What the package-level variables that a row of this seat lists give its walk; the world of the witness; the arguments of this seat's laws, opened.
-/
import Derived.Test.YtdiackcefojfkaaGreatDoorCards
import Derived.Test.YtdiackcefojfkaaGreatDoorTie
import Derived.Test.YtdiackcefojfkaaGreatDoorExSig
import Derived.ProofKit
import Derived.LaidMore
import Derived.OpenShut
import Derived.Stop.Joined
import Derived.Stop.LaidErr
import Derived.SizedLaws
import Derived.Carry
import Derived.Deep.DeepHandedRow
import Derived.Deep.DeepWitnessRowRef
import Derived.Deep.Slices
namespace Go.Proofs.YtdiackcefojfkaaGreatDoor.ExW
open Go Go.RowKit Go.ChangeShapes Go.WideShapes Go.ChangeAt Go.Proofs.YtdiackcefojfkaaGreatDoor.LexM Go.Proofs.YtdiackcefojfkaaGreatDoor.LexW Go.Proofs.YtdiackcefojfkaaGreatDoor.ExM

/-- The list that every row of this seat bears. -/
def laidAll : List (String × DataW Unit) := Rows.exprShapesRow.laid

theorem own : ownKnob Tryz.prog.godebug = none := by kernel_rfl
theorem tRange : (Tryz.prog.globals[5]?).map (·.type) = some 128 := by kernel_rfl
theorem cellsErr : Tryz.prog.cellsOf 155 = 1 := by kernel_rfl
theorem cellsStr : Tryz.prog.cellsOf 9 = 1 := by kernel_rfl
theorem star : "*" ++ "errors.errorString" = "*errors.errorString" := by decide
theorem rowErr (u : TypeId) (h : Tryz.prog.typeName? 3 u = some "*errors.errorString") : u = 153 :=
  typeName_ptr_named (nm := "errors.errorString") (by rw [star]; kernel_rfl) (by kernel_rfl) (by decide) u (by rw [star]; exact h)
theorem tab_of_laid {W : World} (h : laidMetH Tryz.prog laidAll W) : Tab W := by
  rw [MakeChecks.laidMetH_plain _ _ _ (by kernel_rfl)] at h
  have h1 : laidMet Tryz.prog (("strconv.ErrRange", Rows.laid_strconv_ErrRange) :: ("strconv.ErrSyntax", Rows.laid_strconv_ErrSyntax) :: []) W := h.tail.tail.tail
  obtain ⟨a0, _, hv0, _⟩ := laid_sentinel h1 gRange tRange Tryz.underlying128 rowErr Tryz.underlying153 Tryz.underlying155 rfl rfl Tryz.underlying9 cellsErr cellsStr
  exact ⟨_, _, hv0⟩
/-- The heap that the variables' own initialisers leave meets the condition. -/
theorem door_met (os : Os) (args : Array Value) : laidMetH Tryz.prog laidAll ((World.doorLaid Tryz.prog 400 os).forCall (fun _ _ => 0) ⟨#[], args, []⟩).memory :=
  laidMetH_of_parts3 (fuel := 8) (laidMet_of_run' 8 (by kernel_rfl) (by kernel_rfl)) (by kernel_rfl) (by kernel_rfl)
theorem bounds {a : Int} (h : (Lit.int .i64 a).wf = true) : -9223372036854775808 ≤ a ∧ a ≤ 9223372036854775807 := by
  have e1 : IntKind.i64.min = -9223372036854775808 := rfl
  have e2 : IntKind.i64.max = 9223372036854775807 := rfl
  simp [Lit.wf, e1, e2] at h
  exact h
theorem laidOut : laidOutB Tryz.prog = true := by kernel_rfl
theorem cellsX : Tryz.prog.cellsOf 3 = 1 ∧ Tryz.prog.cellsOf 9 = 1 ∧ Tryz.prog.cellsOf 24 = 4 ∧ Tryz.prog.cellsOf 47 = 2 ∧ Tryz.prog.cellsOf 22 = 1 ∧ Tryz.prog.bytesOf 24 = 56 ∧ Tryz.prog.bytesOf 47 = 24 := by
  refine ⟨?_, ?_, ?_, ?_, ?_, ?_, ?_⟩ <;> kernel_rfl
theorem add_at (b off k : Nat) : (⟨b, off, none⟩ : Addr).add k = ⟨b, off + k, none⟩ := by
  unfold Addr.add
  by_cases h : k = 0
  · subst h; simp
  · simp [h]
theorem pick_list {α : Type} {Q : Nat → α → Prop} : ∀ n : Nat, (∀ i, i < n → ∃ t, Q i t) → ∃ l : List α, l.length = n ∧ ∀ i t, l[i]? = some t → Q i t
  | 0, _ => ⟨[], rfl, fun i t h => by simp at h⟩
  | n + 1, h => by
    obtain ⟨l, hl, hq⟩ := pick_list n (fun i hi => h i (by omega))
    obtain ⟨t, ht⟩ := h n (by omega)
    refine ⟨l ++ [t], by simp [hl], fun i u hu => ?_⟩
    by_cases hi : i < n
    · rw [List.getElem?_append_left (by omega)] at hu
      exact hq i u hu
    · have hil : i < (l ++ [t]).length := (List.getElem?_eq_some_iff.1 hu).1
      have e : i = n := by simp [hl] at hil; omega
      subst e
      rw [List.getElem?_append_right (by omega), hl] at hu
      have : t = u := by simpa using hu
      rw [← this]; exact ht
theorem weights_in {H : Type} {P : Program} {e : TypeId} : ∀ {l : List (DataW H)} {d : DataW H}, d ∈ l → ∀ n ∈ d.weights P e, n ∈ DataW.weightsAll P e l
  | d' :: r, d, hd, n, hn => by
    simp only [DataW.weightsAll, List.mem_append]
    rcases List.mem_cons.1 hd with rfl | h
    · exact .inl hn
    · exact .inr (weights_in h n hn)
/-- Four cells in a row that is read. -/
theorem four_of {W : World} {a : Addr} {i : Nat} {c0 c1 c2 c3 : Value} (h : ∀ j, j < 4 → W.cell? ((a.add (i * 4)).add j) = ([c0, c1, c2, c3] : List Value)[j]?) {b off : Nat} (e : a = ⟨b, off, none⟩) :
    W.cell? ⟨b, off + i * 4, none⟩ = some c0 ∧ W.cell? ⟨b, off + i * 4 + 1, none⟩ = some c1 ∧ W.cell? ⟨b, off + i * 4 + 2, none⟩ = some c2 ∧ W.cell? ⟨b, off + i * 4 + 3, none⟩ = some c3 := by
  subst e
  simp only [add_at] at h
  exact ⟨h 0 (by omega), h 1 (by omega), h 2 (by omega), h 3 (by omega)⟩
set_option maxRecDepth 100000 in
/-- An expression in the cells that are read. -/
theorem open_ex {H : Type} {enc : TypeId × Value → H} {W : World} : ∀ (fuel : Nat) (cs : List Value) (x : DataW H × List MemPlace), cs.length = 4 →
    DataW.trod enc Tryz.prog W 0 (fun _ => true) true fuel 24 cs = some x → (∀ y ∈ x.2, y.block < W.heap.size) → (∀ n ∈ x.1.weights Tryz.prog 24, n ≤ 140737488351232) →
    ∃ (e : Ex) (p : Option Addr) (cap : Nat), cs = [.int .i64 e.op, .int .i64 e.n, .string e.nm, .slice p e.args.length cap] ∧ ExAt W.heap.size W (xv e.op e.n e.nm (.slice p e.args.length cap)) e := by
  intro fuel
  induction fuel using Nat.strongRecOn with
  | _ fuel ih =>
  intro cs x hl h hlt hw
  obtain ⟨k1, k2, k3, _, k5, k6, _⟩ := cellsX
  obtain ⟨xs, n, rfl, rfl, _, hlen, hfd⟩ := DataW.trod_struct Tryz.underlying24 h
  match cs, hl with
  | [c0, c1, c2, c3], _ =>
    match xs, hlen with
    | [y0, y1, y2, y3], _ =>
      have h0 : DataW.trod enc Tryz.prog W 0 (fun _ => true) true n 3 ([c0, c1, c2, c3].take (Tryz.prog.cellsOf 3)) = some y0 := hfd 0 _ rfl
      rw [k1, show [c0, c1, c2, c3].take 1 = [c0] from rfl] at h0
      have h1 : DataW.trod enc Tryz.prog W 0 (fun _ => true) true n 3 ([c1, c2, c3].take (Tryz.prog.cellsOf 3)) = some y1 := hfd 1 _ rfl
      rw [k1, show [c1, c2, c3].take 1 = [c1] from rfl] at h1
      have h2 : DataW.trod enc Tryz.prog W 0 (fun _ => true) true n 9 ([c2, c3].take (Tryz.prog.cellsOf 9)) = some y2 := hfd 2 _ rfl
      rw [k2, show [c2, c3].take 1 = [c2] from rfl] at h2
      have h3 : DataW.trod enc Tryz.prog W 0 (fun _ => true) true n 22 ([c3].take (Tryz.prog.cellsOf 22)) = some y3 := hfd 3 _ rfl
      rw [k5, show [c3].take 1 = [c3] from rfl] at h3
      obtain ⟨m0, e0, _, w0⟩ := DataW.trod_int Tryz.underlying3 h0
      obtain ⟨m1, e1, _, w1⟩ := DataW.trod_int Tryz.underlying3 h1
      obtain ⟨s2, e2, rfl, w2⟩ := DataW.trod_string Tryz.underlying9 h2
      obtain rfl : c0 = .int .i64 m0 := by simpa using e0
      obtain rfl : c1 = .int .i64 m1 := by simpa using e1
      obtain rfl : c2 = .string s2 := by simpa using e2
      have hwS : ∀ q ∈ (DataW.lit (Lit.string s2.data.toList) : DataW H).weights Tryz.prog 9, q ≤ 140737488351232 := fun q hq => hw q (by
        simp only [DataW.weights, Tryz.underlying24]
        exact DataW.weights_mem_each (j := 2) rfl rfl q hq)
      have hwA : ∀ q ∈ y3.1.weights Tryz.prog 22, q ≤ 140737488351232 := fun q hq => hw q (by
        simp only [DataW.weights, Tryz.underlying24]
        exact DataW.weights_mem_each (j := 3) rfl rfl q hq)
      have hs2 : s2.size ≤ 140737488351232 := by
        have := hwS s2.data.toList.length (by simp [DataW.weights])
        rw [len_data] at this; exact this
      rcases DataW.trod_slice Tryz.underlying22 h3 with ⟨hcs, _⟩ | ⟨a, len, cap, elems, rest, m, rfl, hcs, rfl, _, hlc, _, hel, hE, _, _⟩
      · obtain rfl : c3 = .slice none 0 0 := by simpa using hcs
        exact ⟨.mk m0 m1 s2 [], none, 0, rfl, ExAt.mk (ks := []) (fun _ => none) (fun _ => 0) hs2 (by simp) (by simp) (fun h => by simp at h) (fun i a hi => by simp at hi)⟩
      · obtain rfl : c3 = .slice (some a) len cap := by simpa using hcs
        rw [k3] at hE hlt
        have hbytes : len ≤ 140737488351232 := by
          have := hwA ((elems.length + rest.length) * 56) (by simp only [DataW.weights, Tryz.underlying22, k6, List.length_map]; simp)
          omega
        have each : ∀ i, i < len → ∃ t : Ex × Option Addr × Nat, (∀ j, j < 4 → W.cell? ((a.add (i * 4)).add j) = ([.int .i64 t.1.op, .int .i64 t.1.n, .string t.1.nm, .slice t.2.1 t.1.args.length t.2.2] : List Value)[j]?) ∧ ExAt W.heap.size W (xv t.1.op t.1.n t.1.nm (.slice t.2.1 t.1.args.length t.2.2)) t.1 := fun i hi => by
          have hi2 : i < elems.length := by omega
          have hb := hE i hi
          rw [List.getElem?_eq_getElem hi2, Option.bind_eq_some_iff] at hb
          obtain ⟨cs', hc', ht'⟩ := hb
          obtain ⟨_, hcl, hat⟩ := World.cells?_some hc'
          have hmem : elems[i] ∈ elems := List.getElem_mem hi2
          obtain ⟨e', p', cap', rfl, hx'⟩ := ih m (by omega) cs' elems[i] hcl ht'
            (fun y hy => hlt y (by simp only [List.flatMap_cons, List.mem_append]; exact .inr (.inr (.inr (.inl (.inr (List.mem_flatMap.2 ⟨_, List.mem_append.2 (.inl hmem), hy⟩))))))) 
            (fun q hq => hwA q (by
              simp only [DataW.weights, Tryz.underlying22, List.mem_cons, List.mem_append]
              exact .inr (.inl (weights_in (List.mem_map.2 ⟨_, hmem, rfl⟩) q hq))))
          exact ⟨(e', p', cap'), hat, hx'⟩
        obtain ⟨l, hll, hq⟩ := pick_list len each
        have hkl : (l.map (·.1)).length = len := by rw [List.length_map, hll]
        refine ⟨.mk m0 m1 s2 (l.map (·.1)), some a, cap, by simp only [Ex.op, Ex.n, Ex.nm, Ex.args, hkl], ?_⟩
        simp only [Ex.op, Ex.n, Ex.nm, Ex.args]
        have get : ∀ (i : Nat) (e' : Ex), (l.map (·.1))[i]? = some e' → ∃ t : Ex × Option Addr × Nat, l[i]? = some t ∧ t.1 = e' := fun i e' he => by
          rw [List.getElem?_map] at he
          obtain ⟨t, ht, rfl⟩ := Option.map_eq_some_iff.1 he
          exact ⟨t, ht, rfl⟩
        refine ExAt.mk (fun i => ((l[i]?).map (·.2.1)).getD none) (fun i => ((l[i]?).map (·.2.2)).getD 0) hs2 (by omega) (by omega) (fun h0 => ?_) (fun i e' he => ?_)
        · obtain ⟨b, off, spot⟩ := a
          have hspot : spot = none := by
            obtain ⟨t0, ht0⟩ : ∃ t, l[0]? = some t := ⟨_, List.getElem?_eq_getElem (by omega)⟩
            have := (hq 0 t0 ht0).1 0 (by omega)
            simpa [Addr.add] using World.cell?_spot this
          subst hspot
          refine ⟨b, off, rfl, hlt (.cell b off) (by
            simp only [List.flatMap_cons, List.mem_append]
            exact .inr (.inr (.inr (.inl (.inl (MemPlace.mem_row.2 ⟨0, by omega, by simp⟩)))))), fun i e' he => ?_⟩
          obtain ⟨t, ht, rfl⟩ := get i e' he
          simp only [ht]
          exact four_of (hq i t ht).1 rfl
        · obtain ⟨t, ht, rfl⟩ := get i e' he
          simp only [ht]
          exact (hq i t ht).2
end Go.Proofs.YtdiackcefojfkaaGreatDoor.ExW
