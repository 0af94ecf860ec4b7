/-
  The arguments of this seat's laws, opened: a stream, a slice of integers.
-/
import Derived.Test.YtahjgepjhihhjaaRngLawB
import Derived.ProofKit
import Derived.OpenShut
import Derived.SizedLaws
import Derived.Carry
namespace Go.Proofs.Ytahjgepjhihhjaa.RngW
open Go Go.ChangeShapes Go.WideShapes Go.ChangeAt Go.RowKit Go.Proofs.Ytahjgepjhihhjaa.HashM Go.Proofs.Ytahjgepjhihhjaa.HashW Go.Proofs.Ytahjgepjhihhjaa.RngM

theorem laidOut : laidOutB Try.prog = true := by kernel_rfl
theorem cellsG : Try.prog.cellsOf 22 = 1 ∧ Try.prog.cellsOf 24 = 2 ∧ Try.prog.cellsOf 3 = 1 := by
  refine ⟨?_, ?_, ?_⟩ <;> kernel_rfl
theorem ibounds {a : Int} (h : (Lit.int .i64 a).wf = true) : -9223372036854775808 ≤ a ∧ a ≤ 9223372036854775807 := by
  have e1 : IntKind.i64.min = -9223372036854775808 := rfl
  have e2 : IntKind.i64.max = 9223372036854775807 := rfl
  simp [Lit.wf, e1, e2] at h
  exact h
set_option maxRecDepth 100000 in
theorem open_rng {H : Type} {enc : TypeId × Value → H} {W : World} {r : Reach} {b0 : Nat} {v : Value} {d : DataW H} {p : List MemPlace} (hval : Value.okWide Try.prog W r b0 24 v)
    (h : DataW.Trod enc Try.prog W 0 (fun _ => true) true 24 v d p) : ∃ (k c : UInt64), v = rv k c := by
  obtain ⟨cs, rfl, hcs⟩ := okWide_struct Try.underlying24 hval
  obtain ⟨k1, k2, _⟩ := cellsG
  rw [k2] at hcs
  obtain ⟨fuel, hf⟩ := h
  obtain ⟨xs, n, rfl, hx, hl, hlen, hfd⟩ := DataW.trod_struct Try.underlying24 hf
  obtain ⟨c0, c1, rfl⟩ : ∃ c0 c1, cs = #[c0, c1] := by
    obtain ⟨l⟩ := cs
    match l, hcs with
    | [c0, c1], _ => exact ⟨c0, c1, rfl⟩
  match xs, hlen with
  | [y0, y1], _ =>
    have h0 : DataW.trod enc Try.prog W 0 (fun _ => true) true n 22 ([c0, c1].take (Try.prog.cellsOf 22)) = some y0 := hfd 0 _ rfl
    rw [k1, show [c0, c1].take 1 = [c0] from rfl] at h0
    have h1 : DataW.trod enc Try.prog W 0 (fun _ => true) true n 22 ([c1].take (Try.prog.cellsOf 22)) = some y1 := hfd 1 _ rfl
    rw [k1, show [c1].take 1 = [c1] from rfl] at h1
    obtain ⟨m0, e0, _, w0⟩ := DataW.trod_int Try.underlying22 h0
    obtain ⟨m1, e1, _, w1⟩ := DataW.trod_int Try.underlying22 h1
    obtain rfl : c0 = .int .u64 m0 := by simpa using e0
    obtain rfl : c1 = .int .u64 m1 := by simpa using e1
    obtain ⟨k, rfl⟩ := u64_of w0
    obtain ⟨c, rfl⟩ := u64_of w1
    exact ⟨k, c, rfl⟩
theorem add_at (b off k : Nat) : (⟨b, off, none⟩ : Addr).add k = ⟨b, off + k, none⟩ := by
  unfold Addr.add
  by_cases h : k = 0
  · subst h; simp
  · simp [h]
set_option maxRecDepth 100000 in
theorem open_ws {H : Type} {enc : TypeId × Value → H} {W : World} {fuel : Nat} {v : Value} {d : DataW H} {p : List MemPlace}
    (h : DataW.trod enc Try.prog W 0 (fun _ => true) true fuel 36 [v] = some (d, p)) (hlt : ∀ x ∈ p, x.block < W.heap.size) :
    ∃ ws : List Int, IntsAt W v ws := by
  rcases open_ints Try.underlying36 Try.underlying3 cellsG.2.2 h with ⟨hcs, _⟩ | ⟨a, len, cap, zs, hcs, _, hl, hm, hz, hx, hcell, hwz⟩
  · obtain rfl : v = .slice none 0 0 := by simpa using hcs
    exact ⟨[], none, 0, rfl, by simp, by simp, fun i hi => absurd hi (by simp), fun h0 => absurd h0 (by simp)⟩
  · obtain rfl : v = .slice (some a) len cap := by simpa using hcs
    simp only [if_true] at hz
    simp only [Prod.mk.injEq] at hx
    obtain ⟨_, rfl⟩ := hx
    have hlen : (zs.take len).length = len := by rw [List.length_take]; omega
    unfold maxLen at hm
    refine ⟨zs.take len, some a, cap, by rw [hlen], by rw [hlen]; exact hl, by rw [hlen]; omega, fun i hi => ?_, fun h0 => ?_⟩
    · exact ibounds (hwz _ (List.mem_of_mem_take (List.getElem_mem hi)))
    · rw [hlen] at h0
      obtain ⟨b, off, spot⟩ := a
      have hspot : spot = none := by simpa [Addr.add] using World.cell?_spot (hcell 0 (by omega))
      subst hspot
      refine ⟨b, off, rfl, hlt (.cell b off) (MemPlace.mem_row.2 ⟨0, by omega, by simp⟩), fun i hi => ?_⟩
      rw [hlen] at hi
      have := hcell i (by omega)
      rw [add_at] at this
      rw [this, List.getD_eq_getElem?_getD, List.getElem?_eq_getElem (by omega)]
      simp
end Go.Proofs.Ytahjgepjhihhjaa.RngW
