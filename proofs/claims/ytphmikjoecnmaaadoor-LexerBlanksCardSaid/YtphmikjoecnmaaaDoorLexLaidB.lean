/-
  A slice of bytes as an argument, opened.
-/
import Derived.Test.YtphmikjoecnmaaaDoorLexLaid
import Derived.Test.YtphmikjoecnmaaaDoorLexLawB
namespace Go.Proofs.YtphmikjoecnmaaaDoor.LexW
open Go Go.RowKit Go.ChangeShapes Go.WideShapes Go.ChangeAt Go.Proofs.YtphmikjoecnmaaaDoor.LexM

theorem open_gaps {H : Type} {enc : TypeId × Value → H} {W : World} {fuel : Nat} {v : Value} {d : DataW H} {p : List MemPlace}
    (h : DataW.trod enc Tryd.prog W 0 (fun _ => true) true fuel 35 [v] = some (d, p)) (hlt : ∀ x ∈ p, x.block < W.heap.size) :
    ∃ (m : Nat) (g : Nat → Nat), BytesAt W v m g := by
  rcases open_ints Tryd.underlying35 Tryd.underlying5 cellsT.2.2.2 h with ⟨hcs, _⟩ | ⟨a, len, cap, zs, hcs, _, hl, hm, hz, hx, hcell, hwz⟩
  · obtain rfl : v = .slice none 0 0 := by simpa using hcs
    exact ⟨0, fun _ => 0, none, 0, rfl, Nat.le_refl _, fun i hi => absurd hi (by omega), fun h0 => absurd h0 (by omega)⟩
  · obtain rfl : v = .slice (some a) len cap := by simpa using hcs
    simp only [if_true] at hz
    simp only [Prod.mk.injEq] at hx
    obtain ⟨_, rfl⟩ := hx
    have each : ∀ i, i < len → zs.getD i 0 = (((zs.getD i 0).toNat : Nat) : Int) ∧ (zs.getD i 0).toNat ≤ 255 := fun i hi => by
      have e : zs.getD i 0 = zs[i]'(by omega) := by rw [List.getD_eq_getElem?_getD, List.getElem?_eq_getElem (by omega)]; rfl
      have := bounds8 (hwz _ (List.getElem_mem (h := (by omega : i < zs.length))))
      rw [e]; omega
    refine ⟨len, fun i => (zs.getD i 0).toNat, some a, cap, rfl, hl, fun i hi => (each i hi).2, fun h0 => ?_⟩
    obtain ⟨b, off, spot⟩ := a
    have hspot : spot = none := by simpa [Addr.add] using World.cell?_spot (hcell 0 (by omega))
    subst hspot
    refine ⟨b, off, rfl, hlt (.cell b off) (MemPlace.mem_row.2 ⟨0, by omega, by simp⟩), fun i hi => ?_⟩
    have q := hcell i (by omega)
    rw [add_at] at q
    rw [q, ← (each i hi).1]
end Go.Proofs.YtphmikjoecnmaaaDoor.LexW
