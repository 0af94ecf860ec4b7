/-
  The arguments of this seat's laws, opened; what a bound on their bulk gives.
-/
import Derived.Test.YtpfnameeoadbkaaDoorPackLaid
import Derived.Test.YtpfnameeoadbkaaDoorPackLaws
import Derived.Deep.Strs
import Derived.SizedLaws
import Derived.Carry
import Derived.Deep.DeepHandedRow
import Derived.Deep.DeepWitnessRowRef
namespace Go.Proofs.YtpfnameeoadbkaaDoor.PackW
open Go Go.ChangeShapes Go.WideShapes Go.ChangeAt Go.RowKit Go.Proofs.YtpfnameeoadbkaaDoor.NumM Go.Proofs.YtpfnameeoadbkaaDoor.PackM

theorem laidOut : laidOutB Tryd.prog = true := by kernel_rfl
theorem bulk_mem {H : Type} {d : DataW H} {l : List (DataW H)} (h : d ∈ l) : Rows.uptoBulk d ≤ Rows.uptoBulkAll l := by
  induction l with
  | nil => cases h
  | cons x r ih =>
    rw [Rows.uptoBulkAll]
    rcases List.mem_cons.1 h with e | e
    · subst e; omega
    · have := ih e; omega
theorem bulk_str {H : Type} (l : List UInt8) : Rows.uptoBulk (DataW.lit (H := H) (.string l)) = l.length + 1 := by simp [Rows.uptoBulk]
theorem bulk_len {H : Type} (ys : List (List UInt8)) : ys.length ≤ Rows.uptoBulkAll (ys.map fun y => DataW.lit (H := H) (.string y)) := by
  induction ys with
  | nil => simp
  | cons y r ih =>
    rw [List.map_cons, Rows.uptoBulkAll, bulk_str, List.length_cons]; omega
theorem bulk_slice {H : Type} (elems spare : List (DataW H)) : Rows.uptoBulkAll elems ≤ Rows.uptoBulk (.slice elems spare) := by
  rw [Rows.uptoBulk]; omega
theorem bulk_agg {H : Type} (parts : List (DataW H)) : Rows.uptoBulkAll parts ≤ Rows.uptoBulk (.agg parts) := by
  rw [Rows.uptoBulk]; omega
theorem bulk_all {H : Type} {l : List (DataW H)} (h : Rows.uptoSmall H l = true) : Rows.uptoBulkAll l ≤ 1048576 := of_decide_eq_true h
/-- A slice of texts, as a cell that is read. -/
theorem open_texts {H : Type} {enc : TypeId × Value → H} {W : World} {fuel : Nat} {v : Value} {d : DataW H} {p : List MemPlace}
    (h : DataW.trod enc Tryd.prog W 0 (fun _ => true) true fuel 22 [v] = some (d, p)) (hlt : ∀ x ∈ p, x.block < W.heap.size) :
    ∃ ys, StrsAt W v ys ∧ (∀ y ∈ ys, y.length ≤ Rows.uptoBulk d) ∧ ys.length ≤ Rows.uptoBulk d := by
  rcases Go.Deep.open_strs Tryd.underlying22 Tryd.underlying9 cellsStr h with ⟨hcs, hx⟩ | ⟨a, len, cap, m, Sx, hcs, _, hl, _, hm, hx, hcell⟩
  · obtain rfl : v = .slice none 0 0 := by simpa using hcs
    exact ⟨[], strs_nil W, by simp, by simp⟩
  · obtain rfl : v = .slice (some a) len cap := by simpa using hcs
    simp only [if_true] at hm
    rw [hm] at hx hcell
    simp only [Prod.mk.injEq] at hx
    obtain ⟨rfl, rfl⟩ := hx
    have hlen : ((List.range len).map fun i => (Sx i).data.toList).length = len := by simp
    have hb1 := bulk_slice (H := H) ((List.range len).map fun i => .lit (.string (Sx i).data.toList)) ((List.range (cap - len)).map fun j => .lit (.string (Sx (len + j)).data.toList))
    have he : (List.range len).map (fun i => DataW.lit (H := H) (.string (Sx i).data.toList)) = ((List.range len).map fun i => (Sx i).data.toList).map fun y => DataW.lit (H := H) (.string y) := by rw [List.map_map]; rfl
    refine ⟨(List.range len).map fun i => (Sx i).data.toList, ⟨some a, cap, by rw [hlen], by rw [hlen]; exact hl, fun hne => ?_⟩, fun y hy => ?_, ?_⟩
    · have hpos : 0 < len := by
        apply Nat.pos_of_ne_zero
        intro h0
        rw [h0] at hne
        exact hne rfl
      obtain ⟨b, off, spot⟩ := a
      have hspot : spot = none := by simpa [Addr.add] using World.cell?_spot (hcell 0 (by omega)).1
      subst hspot
      refine ⟨b, off, rfl, hlt (.cell b off) (MemPlace.mem_row.2 ⟨0, by omega, by simp⟩), fun i hi => ?_⟩
      rw [hlen] at hi
      have := (hcell i (by omega)).1
      rw [add_plain] at this
      rw [this]
      simp
    · obtain ⟨i, hi, rfl⟩ := List.mem_map.1 hy
      have h2 := bulk_mem (H := H) (d := .lit (.string (Sx i).data.toList)) (l := (List.range len).map fun i => .lit (.string (Sx i).data.toList)) (List.mem_map.2 ⟨i, hi, rfl⟩)
      rw [bulk_str] at h2
      omega
    · have h3 := bulk_len (H := H) ((List.range len).map fun i => (Sx i).data.toList)
      rw [← he] at h3
      omega
end Go.Proofs.YtpfnameeoadbkaaDoor.PackW
