/-
  What the package-level variables that a row of this seat lists give its walk; the world of the witness; the arguments of this seat's laws, opened.
-/
import Derived.Test.YtphmikjoecnmaaaDoorCards
import Derived.Test.YtphmikjoecnmaaaDoorTie
import Derived.Test.YtphmikjoecnmaaaDoorLexJoin
import Derived.ProofKit
import Derived.LaidMore
import Derived.OpenShut
import Derived.Stop.Joined
import Derived.Stop.LaidErr
import Derived.SizedLaws
import Derived.Carry
import Derived.Deep.DeepHandedRow
import Derived.Deep.DeepWitnessRowRef
import Derived.Deep.Slices
namespace Go.Proofs.YtphmikjoecnmaaaDoor.LexW
open Go Go.RowKit Go.ChangeShapes Go.WideShapes Go.ChangeAt Go.Proofs.YtphmikjoecnmaaaDoor.LexM

/-- The list that every row of this seat bears. -/
def laidAll : List (String × DataW Unit) := Rows.lexerTokensRow.laid

theorem own : ownKnob Tryd.prog.godebug = none := by kernel_rfl
theorem tRange : (Tryd.prog.globals[2]?).map (·.type) = some 58 := by kernel_rfl
theorem cellsErr : Tryd.prog.cellsOf 88 = 1 := by kernel_rfl
theorem cellsStr : Tryd.prog.cellsOf 9 = 1 := by kernel_rfl
theorem star : "*" ++ "errors.errorString" = "*errors.errorString" := by decide
theorem rowErr (u : TypeId) (h : Tryd.prog.typeName? 3 u = some "*errors.errorString") : u = 86 :=
  typeName_ptr_named (nm := "errors.errorString") (by rw [star]; kernel_rfl) (by kernel_rfl) (by decide) u (by rw [star]; exact h)
theorem tab_of_laid {W : World} (h : laidMetH Tryd.prog laidAll W) : Tab W := by
  rw [MakeChecks.laidMetH_plain _ _ _ (by kernel_rfl)] at h
  have h1 : laidMet Tryd.prog (("strconv.ErrRange", Rows.laid_strconv_ErrRange) :: ("strconv.ErrSyntax", Rows.laid_strconv_ErrSyntax) :: []) W := h.tail.tail.tail
  obtain ⟨a0, _, hv0, _⟩ := laid_sentinel h1 gRange tRange Tryd.underlying58 rowErr Tryd.underlying86 Tryd.underlying88 rfl rfl Tryd.underlying9 cellsErr cellsStr
  exact ⟨_, _, hv0⟩
/-- The heap that the variables' own initialisers leave meets the condition. -/
theorem door_met (os : Os) (args : Array Value) : laidMetH Tryd.prog laidAll ((World.doorLaid Tryd.prog 400 os).forCall (fun _ _ => 0) ⟨#[], args, []⟩).memory :=
  laidMetH_of_parts3 (fuel := 8) (laidMet_of_run' 8 (by kernel_rfl) (by kernel_rfl)) (by kernel_rfl) (by kernel_rfl)
theorem bounds {a : Int} (h : (Lit.int .i64 a).wf = true) : -9223372036854775808 ≤ a ∧ a ≤ 9223372036854775807 := by
  have e1 : IntKind.i64.min = -9223372036854775808 := rfl
  have e2 : IntKind.i64.max = 9223372036854775807 := rfl
  simp [Lit.wf, e1, e2] at h
  exact h
theorem bounds8 {a : Int} (h : (Lit.int .u8 a).wf = true) : 0 ≤ a ∧ a ≤ 255 := by
  have e1 : IntKind.u8.min = 0 := rfl
  have e2 : IntKind.u8.max = 255 := rfl
  simp [Lit.wf, e1, e2] at h
  exact h
theorem laidOut : laidOutB Tryd.prog = true := by kernel_rfl
theorem cellsT : Tryd.prog.cellsOf 3 = 1 ∧ Tryd.prog.cellsOf 9 = 1 ∧ Tryd.prog.cellsOf 30 = 4 ∧ Tryd.prog.cellsOf 5 = 1 := by
  refine ⟨?_, ?_, ?_, ?_⟩ <;> kernel_rfl
theorem add_at (b off k : Nat) : (⟨b, off, none⟩ : Addr).add k = ⟨b, off + k, none⟩ := by
  unfold Addr.add
  by_cases h : k = 0
  · subst h; simp
  · simp [h]
set_option maxRecDepth 100000 in
/-- A token in the cells that are read. -/
theorem open_tok {H : Type} {enc : TypeId × Value → H} {W : World} {fuel : Nat} {cs : List Value} {x : DataW H × List MemPlace} (hl : cs.length = 4)
    (h : DataW.trod enc Tryd.prog W 0 (fun _ => true) true fuel 30 cs = some x) :
    ∃ t : Tk, cs = [.int .i64 t.kind, .int .i64 t.n, .string (bs t.text), .int .i64 t.line] ∧ (-9223372036854775808 ≤ t.n ∧ t.n ≤ 9223372036854775807) ∧ t.text.length ≤ 9223372036854775807 := by
  obtain ⟨k1, k2, k3, _⟩ := cellsT
  obtain ⟨xs, n, _, _, _, hlen, hfd⟩ := DataW.trod_struct Tryd.underlying30 h
  match cs, hl with
  | [c0, c1, c2, c3], _ =>
    match xs, hlen with
    | [y0, y1, y2, y3], _ =>
      have h0 : DataW.trod enc Tryd.prog W 0 (fun _ => true) true n 3 ([c0, c1, c2, c3].take (Tryd.prog.cellsOf 3)) = some y0 := hfd 0 _ rfl
      rw [k1, show [c0, c1, c2, c3].take 1 = [c0] from rfl] at h0
      have h1 : DataW.trod enc Tryd.prog W 0 (fun _ => true) true n 3 ([c1, c2, c3].take (Tryd.prog.cellsOf 3)) = some y1 := hfd 1 _ rfl
      rw [k1, show [c1, c2, c3].take 1 = [c1] from rfl] at h1
      have h2 : DataW.trod enc Tryd.prog W 0 (fun _ => true) true n 9 ([c2, c3].take (Tryd.prog.cellsOf 9)) = some y2 := hfd 2 _ rfl
      rw [k2, show [c2, c3].take 1 = [c2] from rfl] at h2
      have h3 : DataW.trod enc Tryd.prog W 0 (fun _ => true) true n 3 ([c3].take (Tryd.prog.cellsOf 3)) = some y3 := hfd 3 _ rfl
      rw [k1, show [c3].take 1 = [c3] from rfl] at h3
      obtain ⟨m0, e0, _, w0⟩ := DataW.trod_int Tryd.underlying3 h0
      obtain ⟨m1, e1, _, w1⟩ := DataW.trod_int Tryd.underlying3 h1
      obtain ⟨s2, e2, _, w2⟩ := DataW.trod_string Tryd.underlying9 h2
      obtain ⟨m3, e3, _, w3⟩ := DataW.trod_int Tryd.underlying3 h3
      obtain rfl : c0 = .int .i64 m0 := by simpa using e0
      obtain rfl : c1 = .int .i64 m1 := by simpa using e1
      obtain rfl : c2 = .string s2 := by simpa using e2
      obtain rfl : c3 = .int .i64 m3 := by simpa using e3
      exact ⟨⟨m0, m1, s2.data.toList, m3⟩, rfl, bounds w1, by show s2.data.toList.length ≤ _; rw [len_data]; unfold maxLen at w2; exact w2⟩
theorem pick_list {α : Type} {Q : Nat → α → Prop} : ∀ n : Nat, (∀ i, i < n → ∃ t, Q i t) → ∃ l : List α, l.length = n ∧ ∀ i t, l[i]? = some t → Q i t
  | 0, _ => ⟨[], rfl, fun i t h => by simp at h⟩
  | n + 1, h => by
    obtain ⟨l, hl, hq⟩ := pick_list n (fun i hi => h i (by omega))
    obtain ⟨t, ht⟩ := h n (by omega)
    refine ⟨l ++ [t], by simp [hl], fun i u hu => ?_⟩
    by_cases hi : i < n
    · rw [List.getElem?_append_left (by omega)] at hu
      exact hq i u hu
    · have hil : i < (l ++ [t]).length := (List.getElem?_eq_some_iff.1 hu).1
      have e : i = n := by simp [hl] at hil; omega
      subst e
      rw [List.getElem?_append_right (by omega), hl] at hu
      have : t = u := by simpa using hu
      rw [← this]; exact ht
set_option maxRecDepth 100000 in
/-- A slice of tokens, as a cell that is read. -/
theorem open_toks {H : Type} {enc : TypeId × Value → H} {W : World} {fuel : Nat} {v : Value} {d : DataW H} {p : List MemPlace}
    (h : DataW.trod enc Tryd.prog W 0 (fun _ => true) true fuel 23 [v] = some (d, p)) (hlt : ∀ x ∈ p, x.block < W.heap.size) :
    ∃ l : List Tk, ToksAt W v l ∧ (∀ t ∈ l, -9223372036854775808 ≤ t.n ∧ t.n ≤ 9223372036854775807) ∧ (∀ t ∈ l, t.text.length ≤ 9223372036854775807) := by
  rcases Go.Deep.open_slice Tryd.underlying23 h with ⟨hcs, _⟩ | ⟨a, len, cap, m, n, D, Pl, hcs, _, hl, _, hm, hx, hcell⟩
  · obtain rfl : v = .slice none 0 0 := by simpa using hcs
    exact ⟨[], ⟨none, 0, rfl, Nat.le_refl _, fun h0 => by simp at h0⟩, by simp, by simp⟩
  · obtain rfl : v = .slice (some a) len cap := by simpa using hcs
    simp only [if_true] at hm
    subst hm
    simp only [Prod.mk.injEq] at hx
    obtain ⟨_, rfl⟩ := hx
    have hC := cellsT.2.2.1
    rw [hC] at hcell hlt
    have each : ∀ i, i < len → ∃ t : Tk, (∀ j, j < 4 → W.cell? ((a.add (i * 4)).add j) = ([.int .i64 t.kind, .int .i64 t.n, .string (bs t.text), .int .i64 t.line] : List Value)[j]?) ∧ (-9223372036854775808 ≤ t.n ∧ t.n ≤ 9223372036854775807) ∧ t.text.length ≤ 9223372036854775807 := fun i hi => by
      obtain ⟨cs', h1, h2⟩ := hcell i (by omega)
      obtain ⟨_, hcl, hat⟩ := World.cells?_some h1
      obtain ⟨t, rfl, hb, hs⟩ := open_tok hcl h2
      exact ⟨t, hat, hb, hs⟩
    obtain ⟨l, hll, hq⟩ := pick_list len each
    refine ⟨l, ⟨some a, m, by rw [hll], by rw [hll]; exact hl, fun h0 => ?_⟩, fun t ht => ?_, fun t ht => ?_⟩
    · obtain ⟨b, off, spot⟩ := a
      have hspot : spot = none := by
        obtain ⟨t0, ht0⟩ : ∃ t, l[0]? = some t := ⟨_, List.getElem?_eq_getElem h0⟩
        have := (hq 0 t0 ht0).1 0 (by omega)
        simpa [Addr.add] using World.cell?_spot this
      subst hspot
      refine ⟨b, off, rfl, hlt (.cell b off) (List.mem_append.2 (.inl (MemPlace.mem_row.2 ⟨0, by omega, by simp⟩))), fun i t hi => ?_⟩
      have q := (hq i t hi).1
      simp only [add_at] at q
      exact ⟨q 0 (by omega), q 1 (by omega), q 2 (by omega), q 3 (by omega)⟩
    · obtain ⟨i, hi, he⟩ := List.mem_iff_getElem.1 ht
      exact (hq i t (by rw [List.getElem?_eq_getElem hi, he])).2.1
    · obtain ⟨i, hi, he⟩ := List.mem_iff_getElem.1 ht
      exact (hq i t (by rw [List.getElem?_eq_getElem hi, he])).2.2
end Go.Proofs.YtphmikjoecnmaaaDoor.LexW
