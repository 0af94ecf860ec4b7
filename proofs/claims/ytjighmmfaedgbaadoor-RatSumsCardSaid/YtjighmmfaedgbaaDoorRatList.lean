/-
  A list of rational numbers as an argument, opened.
-/
import Derived.Test.YtjighmmfaedgbaaDoorRatLaid
import Derived.Test.YtjighmmfaedgbaaDoorRatSumL
import Derived.Deep.SlicePairs
namespace Go.Proofs.YtjighmmfaedgbaaDoor.RatW
open Go Go.RowKit Go.ChangeShapes Go.WideShapes Go.ChangeAt

theorem add_at (b off k : Nat) : (⟨b, off, none⟩ : Addr).add k = ⟨b, off + k, none⟩ := by
  unfold Addr.add
  by_cases h : k = 0
  · subst h; simp
  · simp [h]
set_option maxRecDepth 100000 in
theorem open_rats {H : Type} {enc : TypeId × Value → H} {W : World} {fuel : Nat} {v : Value} {d : DataW H} {p : List MemPlace}
    (h : DataW.trod enc Tryd.prog W 0 (fun _ => true) true fuel 34 [v] = some (d, p)) (hlt : ∀ x ∈ p, x.block < W.heap.size) :
    ∃ (n : Nat) (N D : Nat → Int), RatsAt W v n N D := by
  rcases Go.Deep.open_slice_pairs Tryd.underlying34 Tryd.underlying23 cellsR.2 rfl rfl cellsR.1 cellsR.1 h with ⟨hcs, _⟩ | ⟨a, len, cap, m, n, V0, V1, D0, D1, P0, P1, hcs, _, hl, _, hm, hx, hcell⟩
  · obtain rfl : v = .slice none 0 0 := by simpa using hcs
    exact ⟨0, fun _ => 0, fun _ => 0, none, 0, rfl, Nat.le_refl _, fun i hi => absurd hi (by omega), fun h0 => absurd h0 (by omega)⟩
  · obtain rfl : v = .slice (some a) len cap := by simpa using hcs
    simp only [if_true] at hm
    subst hm
    simp only [Prod.mk.injEq] at hx
    obtain ⟨_, rfl⟩ := hx
    have each : ∀ i, i < len → V0 i = .int .i64 (intOf (V0 i)) ∧ V1 i = .int .i64 (intOf (V1 i)) ∧ RatM.i64 (intOf (V0 i)) ∧ RatM.i64 (intOf (V1 i)) := by
      intro i hi
      obtain ⟨_, _, h2, h3⟩ := hcell i (by omega)
      obtain ⟨m0, e0, _, w0⟩ := DataW.trod_int Tryd.underlying3 h2
      obtain ⟨m1, e1, _, w1⟩ := DataW.trod_int Tryd.underlying3 h3
      have f0 : V0 i = .int .i64 m0 := by simpa using e0
      have f1 : V1 i = .int .i64 m1 := by simpa using e1
      rw [f0, f1]
      exact ⟨rfl, rfl, bounds w0, bounds w1⟩
    refine ⟨len, fun i => intOf (V0 i), fun i => intOf (V1 i), some a, m, rfl, hl, fun i hi => (each i hi).2.2, fun h0 => ?_⟩
    obtain ⟨b, off, spot⟩ := a
    have hspot : spot = none := by simpa [Addr.add] using World.cell?_spot (hcell 0 (by omega)).1
    subst hspot
    refine ⟨b, off, rfl, hlt (.cell b off) (List.mem_append.2 (.inl (MemPlace.mem_row.2 ⟨0, by omega, by simp⟩))), fun i hi => ?_⟩
    obtain ⟨g0, g1, _, _⟩ := hcell i (by omega)
    obtain ⟨f0, f1, _, _⟩ := each i hi
    rw [← f0, ← f1]
    rw [add_at] at g0 g1
    exact ⟨g0, by rw [Nat.add_assoc]; exact g1⟩
end Go.Proofs.YtjighmmfaedgbaaDoor.RatW
