/-
  What Make and Valid of package rat return.
-/
import Derived.Test.YtjighmmfaedgbaaDoorRatFrac
namespace Go.Proofs.YtjighmmfaedgbaaDoor.RatW
open Go Go.RowKit Go.Proofs.YtjighmmfaedgbaaDoor.RatM

theorem small_hl {t : Nat} (h : t < 18446744073709551616) : hiW t = 0 ∧ loW t = t := by unfold hiW loW; omega
theorem fitted0 (neg : Bool) (t b : Nat) (w : World) (ht : t < 18446744073709551616) (hb : b < 18446744073709551616) :
    Calls Tryd.prog 36 #[.bool neg, .agg #[.int .u64 0, .int .u64 t], .agg #[.int .u64 0, .int .u64 b]] w (tRes w (fit neg t b)) := by
  have := fittedCode neg t b w
  rw [(small_hl ht).1, (small_hl ht).2, (small_hl hb).1, (small_hl hb).2] at this
  exact this
theorem below_drewn {w w' : World} {n : Nat} (h : Below (w.drewN n).heap.size (w.drewN n) w') : Below w.heap.size w w' := (below_drewN (Below.refl _ w) n).trans h
set_option maxRecDepth 100000 in
set_option maxHeartbeats 4000000 in
theorem makeCode (n d : Int) (w : World) (n0 : -9223372036854775808 ≤ n) (n1 : n ≤ 9223372036854775807) (d0 : -9223372036854775808 ≤ d) (d1 : d ≤ 9223372036854775807) :
    Calls Tryd.prog 12 #[.int .i64 n, .int .i64 d] w (tRes w (makeS n d)) := by
  by_cases hd : d = 0
  · subst hd
    go_enter Tryd.func12, Tryd.ntmps12
    go_wp2
    refine bodyPost_ret (v := .tuple #[.agg #[.int .i64 0, .int .i64 0], .int .i64 4]) (by simp [results, Tryd.results12, go_sem]) rfl ?_
    exact ⟨by rw [resV_mk (show (0, 0, 4) = makeS n 0 from rfl)], (Below.refl _ _).alloc (Nat.le_refl _) _⟩
  · have SN := Lib.hid (fun w => sizeCode n w n0 n1)
    have SD := Lib.hid (fun w => sizeCode d w d0 d1)
    have RD := fun w => reduced_any n.natAbs d.natAbs w (by omega) (by omega) (.inr (by omega))
    have FT := fun w => fitted0 (decide (n < 0) != decide (d < 0)) (n.natAbs / n.natAbs.gcd d.natAbs) (d.natAbs / n.natAbs.gcd d.natAbs) w (Nat.lt_of_le_of_lt (Nat.div_le_self _ _) (by omega)) (Nat.lt_of_le_of_lt (Nat.div_le_self _ _) (by omega))
    have HM : makeS n d = fit (decide (n < 0) != decide (d < 0)) (n.natAbs / n.natAbs.gcd d.natAbs) (d.natAbs / n.natAbs.gcd d.natAbs) := by unfold makeS; rw [if_neg hd]; rfl
    rw [HM]
    have hd' : (d == 0) = false := by simpa using hd
    clear hd HM
    unfold tRed at RD
    generalize n.natAbs / n.natAbs.gcd d.natAbs = p at *
    generalize d.natAbs / n.natAbs.gcd d.natAbs = q at *
    generalize n.natAbs = x at *
    generalize d.natAbs = y at *
    have RD := Lib.hid RD
    have FT := Lib.hid FT
    go_enter Tryd.func12, Tryd.ntmps12
    go_wp2_with (first
      | (go_at_call 35; ((with_reducible refine (SN.out _).mono ?_); rintro e w' ⟨rfl, rfl⟩))
      | (go_at_call 35; ((with_reducible refine (SD.out _).mono ?_); rintro e w' ⟨rfl, rfl⟩))
      | (go_at_call 34; refine (RD.out _).mono ?_; rintro e w' ⟨rfl, m, rfl⟩)
      | (go_at_call 36; refine (FT.out _).mono ?_; rintro e w3 h3; obtain ⟨u, v, k, hr, rfl, hb3⟩ := tRes_open h3; have HR := Lib.hid hr; have HT := Lib.hid hb3; clear h3 hr; obtain ⟨c0, c1, f0, f1⟩ := cells2 (below_drewn hb3); clear hb3))
    refine bodyPost_ret (v := .tuple #[.agg #[.int .i64 u, .int .i64 v], .int .i64 k]) (by simp [results, Tryd.results12, go_sem, c0, c1]) rfl ?_
    exact ⟨by rw [resV_mk HR.out.symm], ((below_new (below_drewn HT.out)).setCell (Nat.le_refl _) _).setCell (Nat.le_refl _) _⟩
set_option maxRecDepth 100000 in
set_option maxHeartbeats 4000000 in
theorem validCode (n d : Int) (w : World) (n0 : -9223372036854775808 ≤ n) (n1 : n ≤ 9223372036854775807) (d0 : -9223372036854775808 ≤ d) (d1 : d ≤ 9223372036854775807) :
    Calls Tryd.prog 15 #[rv n d] w (tBool w (validS n d)) := by
  by_cases hv : validS n d = true
  · have HR := Lib.hid (make_valid ⟨n0, n1⟩ ⟨d0, d1⟩ hv)
    rw [hv]
    clear hv
    go_enter Tryd.func15, Tryd.ntmps15
    go_wp2_with (go_at_call 12; refine (makeCode n d _ n0 n1 d0 d1).mono ?_; rintro e w3 h3; rw [HR.out] at h3; obtain ⟨rfl, hb3⟩ := h3; have HB := Lib.hid hb3; obtain ⟨c0, c1, f0, f1⟩ := cells2 hb3; have hz := below_lt hb3; clear hb3; unfold resV)
    go_ret
    exact ⟨rfl, (((Below.refl w.heap.size w).alloc (Nat.le_refl _) _).trans (HB.out.mono (by simp))).alloc (Nat.le_of_lt hz) _⟩
  · have hf : validS n d = false := by simpa using hv
    rw [hf]
    have HV := Lib.hid hv
    clear hv hf
    go_enter Tryd.func15, Tryd.ntmps15
    go_wp2_with (go_at_call 12; refine (makeCode n d _ n0 n1 d0 d1).mono ?_; rintro e w3 h3; obtain ⟨x, y, k, hr, rfl, hb3⟩ := tRes_open h3; have HR := Lib.hid hr; have HB := Lib.hid hb3; obtain ⟨c0, c1, f0, f1⟩ := cells2 hb3; have hz := below_lt hb3; clear h3 hr hb3)
    · (exfalso; have e1 : x = n := (by assumption); have e2 : y = d := (by assumption); have e3 : k = 0 := (by assumption); exact HV.out (valid_make (by rw [HR.out, e1, e2, e3])))
    all_goals (go_ret; exact ⟨rfl, (((Below.refl w.heap.size w).alloc (Nat.le_refl _) _).trans (HB.out.mono (by simp))).alloc (Nat.le_of_lt hz) _⟩)
end Go.Proofs.YtjighmmfaedgbaaDoor.RatW
