/-
  Sums and products of fractions in lowest terms. No program in sight.
-/
import Derived.Test.YtjighmmfaedgbaaDoorRatQuo
namespace Go.Proofs.YtjighmmfaedgbaaDoor.RatM

theorem mul_low {s : Bool} {xn xd yn yd : Nat} (hx : xn.gcd xd = 1) (hy : yn.gcd yd = 1) (hxd : 0 < xd) (hyd : 0 < yd) :
    fit s (xn / xn.gcd yd * (yn / yn.gcd xd)) (xd / yn.gcd xd * (yd / xn.gcd yd)) = quo s (xn * yn) (xd * yd) := by
  have g1p : 0 < xn.gcd yd := Nat.gcd_pos_of_pos_right _ hyd
  have g2p : 0 < yn.gcd xd := Nat.gcd_pos_of_pos_right _ hxd
  have e1 : xn / xn.gcd yd * xn.gcd yd = xn := Nat.div_mul_cancel (Nat.gcd_dvd_left _ _)
  have e2 : yd / xn.gcd yd * xn.gcd yd = yd := Nat.div_mul_cancel (Nat.gcd_dvd_right _ _)
  have e3 : yn / yn.gcd xd * yn.gcd xd = yn := Nat.div_mul_cancel (Nat.gcd_dvd_left _ _)
  have e4 : xd / yn.gcd xd * yn.gcd xd = xd := Nat.div_mul_cancel (Nat.gcd_dvd_right _ _)
  have c1 : (xn / xn.gcd yd).Coprime (yd / xn.gcd yd) := Nat.coprime_div_gcd_div_gcd g1p
  have c2 : (yn / yn.gcd xd).Coprime (xd / yn.gcd xd) := Nat.coprime_div_gcd_div_gcd g2p
  have q1 : 0 < yd / xn.gcd yd := Nat.div_pos (Nat.le_of_dvd hyd (Nat.gcd_dvd_right _ _)) g1p
  have q2 : 0 < xd / yn.gcd xd := Nat.div_pos (Nat.le_of_dvd hxd (Nat.gcd_dvd_right _ _)) g2p
  generalize xn.gcd yd = g1 at *
  generalize yn.gcd xd = g2 at *
  generalize xn / g1 = a at *
  generalize yd / g1 = b at *
  generalize yn / g2 = c at *
  generalize xd / g2 = d at *
  have c3 : a.Coprime d := by
    have h : (a * g1).Coprime (d * g2) := by rw [e1, e4]; exact hx
    exact (Nat.Coprime.coprime_dvd_left ⟨g1, rfl⟩ h).coprime_dvd_right ⟨g2, rfl⟩
  have c4 : c.Coprime b := by
    have h : (c * g2).Coprime (b * g1) := by rw [e3, e2]; exact hy
    exact (Nat.Coprime.coprime_dvd_left ⟨g2, rfl⟩ h).coprime_dvd_right ⟨g1, rfl⟩
  symm
  apply quo_cross (Nat.mul_pos hxd hyd) (Nat.mul_pos q2 q1)
  · exact Nat.Coprime.mul_left (Nat.Coprime.mul_right c3 c1) (Nat.Coprime.mul_right c2 c4)
  · rw [← e1, ← e2, ← e3, ← e4]
    grind
/-- The top of a sum has no divisor in common with the rest of a denominator. -/
theorem top_cop {A B T k : Nat} (hB : k ∣ B) (hT : T = A + B ∨ T + B = A ∨ T + A = B) (hA : A.Coprime k) : T.Coprime k := by
  have h1 : T.gcd k ∣ T := Nat.gcd_dvd_left _ _
  have h2 : T.gcd k ∣ k := Nat.gcd_dvd_right _ _
  have h3 : T.gcd k ∣ B := Nat.dvd_trans h2 hB
  have h4 : T.gcd k ∣ A := by
    rcases hT with e | e | e
    · rw [e] at h1 h3 h2 ⊢
      exact (Nat.dvd_add_iff_left h3).2 h1
    · rw [← e]; exact Nat.dvd_add h1 h3
    · have : T.gcd k ∣ T + A := by rw [e]; exact h3
      exact (Nat.dvd_add_iff_right h1).2 this
  have h5 : T.gcd k ∣ A.gcd k := Nat.dvd_gcd h4 h2
  rw [hA] at h5
  exact Nat.eq_one_of_dvd_one h5
theorem add_low {s : Bool} {xn xd yn yd c x' y' T g : Nat} (hx : xn.gcd xd = 1) (hy : yn.gcd yd = 1) (hxd : 0 < xd) (hyd : 0 < yd) (hc : xd.gcd yd = c) (ex : xd / c = x') (ey : yd / c = y')
    (hT : T = xn * y' + yn * x' ∨ T + yn * x' = xn * y' ∨ T + xn * y' = yn * x') (hg : T.gcd c = g) :
    fit s (T / g) (x' * (y' * (c / g))) = quo s T (x' * (y' * c)) ∧ 0 < g ∧ 0 < c ∧ y' * (c / g) ≤ yd ∧ xd = x' * c ∧ yd = y' * c ∧ 0 < x' * (y' * c) := by
  have hcp : 0 < c := by rw [← hc]; exact Nat.gcd_pos_of_pos_right _ hyd
  have e1 : x' * c = xd := by rw [← ex, ← hc]; exact Nat.div_mul_cancel (Nat.gcd_dvd_left _ _)
  have e2 : y' * c = yd := by rw [← ey, ← hc]; exact Nat.div_mul_cancel (Nat.gcd_dvd_right _ _)
  have hgp : 0 < g := by rw [← hg]; exact Nat.gcd_pos_of_pos_right _ hcp
  have cxy : x'.Coprime y' := by rw [← ex, ← ey, ← hc]; exact Nat.coprime_div_gcd_div_gcd (by rw [hc]; exact hcp)
  have hxx : xn.Coprime x' := (show xn.Coprime xd from hx).coprime_dvd_right ⟨c, e1.symm⟩
  have hyy : yn.Coprime y' := (show yn.Coprime yd from hy).coprime_dvd_right ⟨c, e2.symm⟩
  have t1 : T.Coprime x' := top_cop (A := xn * y') (B := yn * x') ⟨yn, Nat.mul_comm _ _⟩ hT (Nat.Coprime.mul_left hxx cxy.symm)
  have t2 : T.Coprime y' := top_cop (A := yn * x') (B := xn * y') ⟨xn, Nat.mul_comm _ _⟩ (by omega) (Nat.Coprime.mul_left hyy cxy)
  have x'p : 0 < x' := Nat.pos_of_ne_zero (fun h => by rw [h] at e1; omega)
  have y'p : 0 < y' := Nat.pos_of_ne_zero (fun h => by rw [h] at e2; omega)
  have hG : T.gcd (x' * (y' * c)) = g := by
    rw [← Nat.mul_assoc, Nat.mul_comm, Nat.Coprime.gcd_mul_right_cancel_right c (Nat.Coprime.mul_left (Nat.Coprime.symm t1) (Nat.Coprime.symm t2) |>.symm |>.symm), hg]
  have hd : g ∣ c := by rw [← hg]; exact Nat.gcd_dvd_right _ _
  refine ⟨?_, hgp, hcp, ?_, e1.symm, e2.symm, Nat.mul_pos x'p (Nat.mul_pos y'p hcp)⟩
  · unfold quo
    rw [hG, Nat.mul_div_assoc _ (Nat.dvd_trans hd ⟨y', Nat.mul_comm _ _⟩), Nat.mul_div_assoc _ hd]
  · rw [← e2]; exact Nat.mul_le_mul_left _ (Nat.div_le_self _ _)
theorem add_val {s t : Bool} {N : Int} {T xn yn xd yd x' y' c : Nat} {neg : Bool} (hx : xd = x' * c) (hy : yd = y' * c) (hp : 0 < x' * (y' * c)) (hxy : 0 < xd * yd) (hs : sg neg T = sg s (xn * y') + sg t (yn * x')) (hN : N = sg s xn * yd + sg t yn * xd) :
    quo neg T (x' * (y' * c)) = zq N (xd * yd) := by
  have m : ∀ (b : Bool) (p q : Nat), sg b (p * q) = sg b p * (q : Int) := by
    intro b p q
    cases b
    · exact Int.natCast_mul p q
    · show -((p * q : Nat) : Int) = -(p : Int) * (q : Int)
      rw [Int.natCast_mul, Int.neg_mul]
  rw [quo_zq _ _ hp]
  apply zq_congr hp hxy
  rw [hs, hN, m, m, hx, hy]
  push_cast
  generalize sg s xn = a
  generalize sg t yn = b
  grind
end Go.Proofs.YtjighmmfaedgbaaDoor.RatM
