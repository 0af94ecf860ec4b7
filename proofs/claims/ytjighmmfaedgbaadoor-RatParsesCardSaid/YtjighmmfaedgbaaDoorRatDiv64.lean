/-
  What math/bits.Div64 and math/bits.Rem64 return.
-/
import Derived.Test.YtjighmmfaedgbaaDoorRatKn
import Derived.Test.YtjighmmfaedgbaaDoorRatOrd
import Derived.Test.YtjighmmfaedgbaaDoorNumShelf
import Derived.Laws.BitsAllLaws
import Derived.Laws.Bits64b
import Derived.Laws.ShiftsVarLaws
import Derived.Deep.LoopGhost
namespace Go.Proofs.YtjighmmfaedgbaaDoor.RatW
open Go Go.RowKit Go.Proofs.YtjighmmfaedgbaaDoor.RatM

theorem ret2u {a b c d : Int} (h : a = c) (h' : b = d) : Ending.returned (.tuple #[.int .u64 a, .int .u64 b]) = .returned (.tuple #[.int .u64 c, .int .u64 d]) := by rw [h, h']
def tDiv64 (N y : Nat) (w : World) (e : Ending) (w' : World) : Prop := e = .returned (.tuple #[.int .u64 ((N / y : Nat) : Int), .int .u64 ((N % y : Nat) : Int)]) ∧ ∃ m, w' = w.drewN m
theorem wrapN {a : Nat} (ha : a < 18446744073709551616) : IntKind.u64.wrap (a : Int) = (a : Int) := by rw [IntKind.wrap_u64]; omega
theorem wrapM (a : Nat) : IntKind.u64.wrap (a : Int) = ((a % 18446744073709551616 : Nat) : Int) := by rw [IntKind.wrap_u64]; omega
set_option maxRecDepth 100000 in
set_option maxHeartbeats 4000000 in
theorem divLow (lo y : Nat) (w : World) (hy : 0 < y) (h1 : lo < 18446744073709551616) :
    Calls Tryd.prog 79 #[.int .u64 0, .int .u64 lo, .int .u64 y] w (tDiv64 lo y w) := by
  have y1 : ((y : Int) == 0) = false := by simp; omega
  have q0 : (0 : Int) < (y : Int) := by omega
  have F1 : Hid (IntKind.u64.wrap ((lo : Int) / (y : Int)) = ((lo / y : Nat) : Int)) := Lib.hid (by
    rw [← Int.natCast_ediv]
    exact wrapN (Nat.lt_of_le_of_lt (Nat.div_le_self _ _) h1))
  have F2 : Hid ((lo : Int) % (y : Int) = ((lo % y : Nat) : Int)) := Lib.hid (Int.natCast_emod _ _).symm
  go_enter Tryd.func79, Tryd.ntmps79
  go_wp2
  go_quiet (fail)
  go_wp2
  go_ret2
  exact ⟨ret2u F1.out F2.out, _, rfl⟩
/-- All that the walk reckons ahead of the two digits. -/
structure Norm (hi lo y s t Y y1 y0 H L U V v1 v0 : Nat) : Prop where
  hs : s = 64 - Lib.bitLen y
  s1 : s ≤ 63
  t1 : t = 64 - s
  e2 : IntKind.u64.wrap ((y : Int) * 2 ^ s) = (Y : Int)
  e3 : (Y : Int) / 4294967296 = (y1 : Int)
  e4 : bits .and .u64 (Y : Int) 4294967295 = (y0 : Int)
  e5 : IntKind.u64.wrap ((hi : Int) * 2 ^ s) = (H : Int)
  e7 : (lo : Int) / 2 ^ t = (L : Int)
  e8 : bits .or .u64 (H : Int) (L : Int) = (U : Int)
  e9 : IntKind.u64.wrap ((lo : Int) * 2 ^ s) = (V : Int)
  e10 : (V : Int) / 4294967296 = (v1 : Int)
  e11 : bits .and .u64 (V : Int) 4294967295 = (v0 : Int)
  Y1 : Y = y1 * 4294967296 + y0
  Y2 : 2147483648 ≤ y1
  Y3 : y0 < 4294967296
  Y4 : Y < 18446744073709551616
  U1 : U < Y
  V1 : v1 < 4294967296
  V0 : v0 < 4294967296
  hq : (hi * 18446744073709551616 + lo) / y = (U * 18446744073709551616 + (v1 * 4294967296 + v0)) / Y
  hr : (hi * 18446744073709551616 + lo) % y * 2 ^ s = (U * 18446744073709551616 + (v1 * 4294967296 + v0)) % Y
theorem maskU (a : Nat) (ha : a < 18446744073709551616) : bits .and .u64 (a : Int) 4294967295 = ((a % 4294967296 : Nat) : Int) := by
  have h := bits_and_u64_nat a 4294967295 ha (by omega)
  have e : a &&& 4294967295 = a % 4294967296 := Nat.and_two_pow_sub_one_eq_mod a 32
  rw [e] at h
  exact h
theorem or_disj {s : Nat} (h l : Nat) (hl : l < 2 ^ s) : (h * 2 ^ s) ||| l = h * 2 ^ s + l := by
  rw [Nat.mul_comm]
  exact (Nat.two_pow_add_eq_or_of_lt hl h).symm
theorem norm {hi lo y : Nat} (hhi : hi < y) (hlo : lo < 18446744073709551616) (hy : y < 18446744073709551616) : ∃ s t Y y1 y0 H L U V v1 v0, Norm hi lo y s t Y y1 y0 H L U V v1 v0 := by
  obtain ⟨n1, n2, n3, n4⟩ := k_norm (y := y) (by omega) hy
  obtain ⟨s, hs⟩ : ∃ s, s = 64 - Lib.bitLen y := ⟨_, rfl⟩
  rw [← hs] at n3 n4
  have s63 : s ≤ 63 := by omega
  obtain ⟨P, hP⟩ : ∃ P, 2 ^ s = P := ⟨_, rfl⟩
  obtain ⟨T, hT⟩ : ∃ T, 2 ^ (64 - s) = T := ⟨_, rfl⟩
  have hPT : P * T = 18446744073709551616 := by rw [← hP, ← hT, ← Nat.pow_add, show s + (64 - s) = 64 by omega]
  have hPp : 0 < P := by rw [← hP]; exact Nat.pow_pos (by omega)
  have hTp : 0 < T := by rw [← hT]; exact Nat.pow_pos (by omega)
  rw [hP] at n3 n4
  have hH : hi * P < y * P := Nat.mul_lt_mul_of_pos_right hhi hPp
  have hL : lo / T < P := by rw [Nat.div_lt_iff_lt_mul hTp, hPT]; exact hlo
  have hHU : hi * P + lo / T < y * P := by
    have : hi * P + P ≤ y * P := by rw [← Nat.succ_mul]; exact Nat.mul_le_mul_right _ hhi
    omega
  -- the lower word of the shifted number
  have hV : lo * P = lo / T * 18446744073709551616 + lo * P % 18446744073709551616 := by
    have h1 : lo * P / 18446744073709551616 = lo / T := by rw [← hPT, Nat.mul_comm P T, Nat.mul_div_mul_right _ _ hPp]
    have h2 := Nat.div_add_mod (lo * P) 18446744073709551616
    rw [h1] at h2
    omega
  have hN : (hi * 18446744073709551616 + lo) * P = (hi * P + lo / T) * 18446744073709551616 + lo * P % 18446744073709551616 := by
    rw [Nat.add_mul, Nat.add_mul]
    have : hi * 18446744073709551616 * P = hi * P * 18446744073709551616 := by rw [Nat.mul_right_comm]
    omega
  have hv : lo * P % 18446744073709551616 < 18446744073709551616 := Nat.mod_lt _ (by omega)
  have c1 : ∀ a : Nat, ((a : Int)) * 2 ^ s = ((a * P : Nat) : Int) := fun a => by rw [← hP, Int.natCast_mul, Int.natCast_pow]; rfl
  have hV2 : lo * P % 18446744073709551616 = lo * P % 18446744073709551616 / 4294967296 * 4294967296 + lo * P % 18446744073709551616 % 4294967296 := by omega
  have sh := k_shift (X := hi * 18446744073709551616 + lo) (y := y) (s := s)
  rw [hP] at sh
  refine ⟨s, 64 - s, y * P, y * P / 4294967296, y * P % 4294967296, hi * P, lo / T, hi * P + lo / T, lo * P % 18446744073709551616, lo * P % 18446744073709551616 / 4294967296, lo * P % 18446744073709551616 % 4294967296, ?_⟩
  refine { hs := hs, s1 := s63, t1 := rfl, e2 := ?_, e3 := ?_, e4 := ?_, e5 := ?_, e7 := ?_, e8 := ?_, e9 := ?_, e10 := ?_, e11 := ?_, Y1 := ?_, Y2 := ?_, Y3 := ?_, Y4 := n4, U1 := hHU, V1 := ?_, V0 := ?_, hq := ?_, hr := ?_ }
  · rw [c1]; exact wrapN n4
  · rfl
  · exact maskU _ n4
  · rw [c1]; exact wrapN (by omega)
  · rw [← hT, Int.natCast_ediv, Int.natCast_pow]; rfl
  · rw [bits_or_u64_nat _ _ (by omega) (by omega)]
    rw [← hP, or_disj _ _ (by rw [hP]; exact hL)]
  · rw [c1]; exact wrapM _
  · rfl
  · exact maskU _ hv
  · omega
  · omega
  · exact Nat.mod_lt _ (by omega)
  · omega
  · exact Nat.mod_lt _ (by omega)
  · rw [← hV2, ← hN, sh.1]
  · rw [← hV2, ← hN, sh.2, hP]
/-- The first digit, and what is left behind it: as the walk reckons them. -/
theorem first_rest {U Y v1 D : Nat} (hU : U < Y) (hY : Y < 18446744073709551616) (_h1 : v1 < 4294967296) (hD : D = (U * 4294967296 + v1) / Y) :
    IntKind.u64.wrap (IntKind.u64.wrap (IntKind.u64.wrap ((U : Int) * 4294967296) + (v1 : Int)) - IntKind.u64.wrap ((D : Int) * (Y : Int))) = (((U * 4294967296 + v1) % Y : Nat) : Int) := by
  obtain ⟨k1, k2⟩ := k_rest (u := U) (y := Y) (w := v1) hD
  have hlt : (U * 4294967296 + v1) % Y < Y := Nat.mod_lt _ (by omega)
  rw [← Int.natCast_mul]
  generalize (U * 4294967296 + v1) % Y = R at *
  generalize D * Y = P at *
  simp only [IntKind.wrap_u64]
  omega
set_option maxRecDepth 100000 in
set_option maxHeartbeats 16000000 in
theorem divHigh (hi lo y : Nat) (w : World) (h0 : 0 < hi) (hy : hi < y) (hlo : lo < 18446744073709551616) (hy1 : y < 18446744073709551616) :
    Calls Tryd.prog 79 #[.int .u64 hi, .int .u64 lo, .int .u64 y] w (tDiv64 (hi * 18446744073709551616 + lo) y w) := by
  obtain ⟨s, t, Y, y1, y0, H, L, U, V, v1, v0, n⟩ := norm hy hlo hy1
  have bl : ∀ w : World, Calls Tryd.prog 90 #[.int .u64 y] w fun e w' => e = .returned (.int .i64 s) ∧ w' = w := fun w => by
    have := Tryd.bits_LeadingZeros64 (y : Int) w (by omega) (by omega)
    have e : (64 - ((Lib.bitLen (y : Int).toNat : Nat) : Int)) = (s : Int) := by
      have h1 := (k_norm (y := y) (by omega) hy1).1
      have h2 := n.hs
      rw [Int.toNat_natCast]; omega
    rw [e] at this
    exact this
  have N := Lib.hid n
  have z1 : ((y : Int) == 0) = false := by simp; omega
  have z2 : ((hi : Int) == 0) = false := by simp; omega
  have e1 := N.out.e2
  have e3 := N.out.e3
  have e4 := N.out.e4
  have e5 := N.out.e5
  have e7 := N.out.e7
  have e8 := N.out.e8
  have e9 := N.out.e9
  have e10 := N.out.e10
  have e11 := N.out.e11
  have s63 := N.out.s1
  have y2 := N.out.Y2
  have y3 := N.out.Y3
  have w1 := N.out.V1
  have w0 := N.out.V0
  have m1 : min s 64 = s := by omega
  have m2 : IntKind.u64.wrap (64 - (s : Int)) = (t : Int) := by
    have := N.out.t1
    rw [IntKind.wrap_u64]; omega
  have m3 : min t 64 = t := by have := N.out.t1; omega
  have m4 : IntKind.u64.wrap (s : Int) = (s : Int) := wrapN (by omega)
  have k0 := k_start (w := v1) N.out.Y1 y2 y3 N.out.U1 w1
  obtain ⟨q0, hq0⟩ : ∃ q0, U / y1 = q0 := ⟨_, rfl⟩
  obtain ⟨r0, hr0⟩ : ∃ r0, U - q0 * y1 = r0 := ⟨_, rfl⟩
  rw [hq0, hr0] at k0
  have K0 := Lib.hid k0.1
  have r0lt : r0 < 4294967296 := by have := k0.2.1; have := N.out.Y4; have := N.out.Y1; omega
  have hle : q0 * y1 ≤ U := k0.2.2
  have hU64 : U < 18446744073709551616 := Nat.lt_trans N.out.U1 N.out.Y4
  have e12 : (U : Int) / (y1 : Int) = (q0 : Int) := by rw [← Int.natCast_ediv, hq0]
  have e13 : IntKind.u64.wrap (q0 : Int) = (q0 : Int) := wrapN (by rw [← hq0]; exact Nat.lt_of_le_of_lt (Nat.div_le_self _ _) hU64)
  have e14 : IntKind.u64.wrap ((q0 : Int) * (y1 : Int)) = ((q0 * y1 : Nat) : Int) := by rw [← Int.natCast_mul]; exact wrapN (by omega)
  have e15 : IntKind.u64.wrap ((U : Int) - ((q0 * y1 : Nat) : Int)) = (r0 : Int) := by
    rw [show (U : Int) - ((q0 * y1 : Nat) : Int) = (r0 : Int) by omega]; exact wrapN (by omega)
  obtain ⟨A0, hA0⟩ : ∃ A0, q0 * y1 = A0 := ⟨_, rfl⟩
  rw [hA0] at e14 e15
  have zy : ¬ (y1 : Int) = 0 := by omega
  obtain ⟨D1, hD1⟩ : ∃ D1, (U * 4294967296 + v1) / Y = D1 := ⟨_, rfl⟩
  rw [hD1] at K0
  have HD1 := Lib.hid hD1
  -- the second digit
  obtain ⟨R1, hR1⟩ : ∃ R1, (U * 4294967296 + v1) % Y = R1 := ⟨_, rfl⟩
  have hR1Y : R1 < Y := by rw [← hR1]; exact Nat.mod_lt _ (by have := N.out.U1; omega)
  have j0 := k_start (w := v0) N.out.Y1 y2 y3 hR1Y w0
  obtain ⟨q2, hq2⟩ : ∃ q2, R1 / y1 = q2 := ⟨_, rfl⟩
  obtain ⟨r2, hr2⟩ : ∃ r2, R1 - q2 * y1 = r2 := ⟨_, rfl⟩
  rw [hq2, hr2] at j0
  have r2lt : r2 < 4294967296 := by have := j0.2.1; have := N.out.Y4; have := N.out.Y1; omega
  have jle : q2 * y1 ≤ R1 := j0.2.2
  have hR64 : R1 < 18446744073709551616 := Nat.lt_trans hR1Y N.out.Y4
  have g12 : (R1 : Int) / (y1 : Int) = (q2 : Int) := by rw [← Int.natCast_ediv, hq2]
  have g13 : IntKind.u64.wrap (q2 : Int) = (q2 : Int) := wrapN (by rw [← hq2]; exact Nat.lt_of_le_of_lt (Nat.div_le_self _ _) hR64)
  have g14 : IntKind.u64.wrap ((q2 : Int) * (y1 : Int)) = ((q2 * y1 : Nat) : Int) := by rw [← Int.natCast_mul]; exact wrapN (by omega)
  have g15 : IntKind.u64.wrap ((R1 : Int) - ((q2 * y1 : Nat) : Int)) = (r2 : Int) := by
    rw [show (R1 : Int) - ((q2 * y1 : Nat) : Int) = (r2 : Int) by omega]; exact wrapN (by omega)
  obtain ⟨A2, hA2⟩ : ∃ A2, q2 * y1 = A2 := ⟨_, rfl⟩
  rw [hA2] at g14 g15
  obtain ⟨D2, hD2⟩ : ∃ D2, (R1 * 4294967296 + v0) / Y = D2 := ⟨_, rfl⟩
  rw [hD2] at j0
  have J0 := Lib.hid j0.1
  have HD2 := Lib.hid hD2
  have f1 := first_rest N.out.U1 N.out.Y4 w1 hD1.symm
  have f2 := first_rest hR1Y N.out.Y4 w0 hD2.symm
  rw [hR1] at f1
  obtain ⟨R2, hR2⟩ : ∃ R2, (R1 * 4294967296 + v0) % Y = R2 := ⟨_, rfl⟩
  rw [hR2] at f2
  have tw := k_two (u := U) (y := Y) (w1 := v1) (w0 := v0) (by have := N.out.U1; omega)
  rw [← N.out.hq, ← N.out.hr, hD1, hR1, hD2, hR2] at tw
  have f3 : (R2 : Int) / 2 ^ s = (((hi * 18446744073709551616 + lo) % y : Nat) : Int) := by
    rw [← tw.2, Int.natCast_mul, Int.natCast_pow]
    exact Int.mul_ediv_cancel _ (Int.ne_of_gt (Int.pow_pos (by omega)))
  obtain ⟨QQ, hQQ⟩ : ∃ QQ, (hi * 18446744073709551616 + lo) / y = QQ := ⟨_, rfl⟩
  obtain ⟨MM, hMM⟩ : ∃ MM, (hi * 18446744073709551616 + lo) % y = MM := ⟨_, rfl⟩
  rw [hQQ] at tw
  rw [hMM] at f3
  unfold tDiv64
  rw [hQQ, hMM]
  have FQ : Hid (((D1 : Int) * 4294967296 + (D2 : Int)) = ((QQ : Nat) : Int)) := Lib.hid (by rw [tw.1, Int.natCast_add, Int.natCast_mul]; rfl)
  have D1b : (D1 : Int) ≤ 4294967295 := by have := k_digit N.out.U1 w1; omega
  have D2b : (D2 : Int) ≤ 4294967295 := by have := k_digit hR1Y w0; omega
  have y1b : (y1 : Int) ≤ 4294967295 := by have := N.out.Y4; have := N.out.Y1; omega
  have HW1 : Hid (v1 < 4294967296) := Lib.hid w1
  have HW0 : Hid (v0 < 4294967296) := Lib.hid w0
  have HR1Y := Lib.hid hR1Y
  have Yp : 0 < Y := by omega
  have HY3 := Lib.hid y3
  clear hQQ hMM n hle hU64 hr0 hq0 hA0 k0 hD1 hR1 hq2 hr2 j0 jle hR64 hA2 hD2 hR2 tw hR1Y y2 D1b D2b y1b Yp
  have D1b : (D1 : Int) ≤ 4294967295 := by have := k_digit N.out.U1 w1; have := HD1.out; omega
  have D2b : (D2 : Int) ≤ 4294967295 := by have := k_digit HR1Y.out w0; have := HD2.out; omega
  have y1b : (y1 : Int) ≤ 4294967295 := by have := N.out.Y4; have := N.out.Y1; omega
  have HYp : Hid (0 < Y) := Lib.hid (by have := N.out.U1; omega)
  have v1b : (v1 : Int) ≤ 4294967295 := by omega
  have v0b : (v0 : Int) ≤ 4294967295 := by omega
  have y0b : (y0 : Int) ≤ 4294967295 := by omega
  have Hr0 := Lib.hid r0lt
  have Hr2 := Lib.hid r2lt
  clear hlo hy1 y3 w1 w0 r0lt r2lt
  go_enter Tryd.func79, Tryd.ntmps79
  go_wp2_with (go_at_call 90; refine (bl _).mono ?_; rintro e w' ⟨rfl, rfl⟩)
  clear m2 m4 e1 e3 e4 e5 e7 e8 e9 e10 e11 e12 e13 e14 e15
  obtain ⟨wz, rfl⟩ : ∃ wz, wz = w' := ⟨_, rfl⟩
  go_loopg [15, 16] q0 (fun q sq sr wr => ∃ r : Nat, sq = .int .u64 q ∧ sr = .int .u64 r ∧ kRel U y1 D1 q r ∧ r < 4294967296 ∧ wr = wz)
  case atStart => exact ⟨r0, rfl, rfl, K0.out, Hr0.out, rfl⟩
  case round =>
    obtain ⟨r, rfl, rfl, hk, hr, rfl⟩ := hrel
    have HK := Lib.hid hk
    have qm : (gk : Int) ≤ 4294967297 := by have := hk.2.2; omega
    have rb : (r : Int) ≤ 4294967295 := by omega
    clear hk hr
    by_cases hq : 4294967296 ≤ gk
    · have st := k_step N.out.Y1 HYp.out N.out.U1 HW1.out (by rw [HD1.out]; exact HK.out) (.inl hq)
      rw [HD1.out] at st
      obtain ⟨p, rfl⟩ : ∃ p, gk = p + 1 := ⟨gk - 1, by omega⟩
      have ST := Lib.hid st.2
      have hqI : (4294967296 : Int) ≤ (p : Int) + 1 := by omega
      have HP : Hid (p ≤ 4294967296) := Lib.hid (by omega)
      clear st hq
      by_cases hb : 4294967296 ≤ r + y1
      · have e := k_break N.out.Y1 HYp.out HY3.out (by rw [HD1.out]; exact ST.out) HP.out hb
        rw [HD1.out] at e
        have hbI : (4294967296 : Int) ≤ (r : Int) + (y1 : Int) := by omega
        subst e
        clear hb qm
        go_wp2
        obtain ⟨wz, rfl⟩ : ∃ wz, wz = wr := ⟨_, rfl⟩
        go_loopg [18, 16] q2 (fun q sq sr wr => ∃ r : Nat, sq = .int .u64 q ∧ sr = .int .u64 r ∧ kRel R1 y1 D2 q r ∧ r < 4294967296 ∧ wr = wz)
        case atStart => exact ⟨r2, rfl, rfl, J0.out, Hr2.out, rfl⟩
        case round =>
          obtain ⟨r, rfl, rfl, hk, hr, rfl⟩ := hrel
          have HK := Lib.hid hk
          have qm : (gk : Int) ≤ 4294967297 := by have := hk.2.2; omega
          have rb : (r : Int) ≤ 4294967295 := by omega
          clear hk hr
          by_cases hq : 4294967296 ≤ gk
          · have st := k_step N.out.Y1 HYp.out HR1Y.out HW0.out (by rw [HD2.out]; exact HK.out) (.inl hq)
            rw [HD2.out] at st
            obtain ⟨p, rfl⟩ : ∃ p, gk = p + 1 := ⟨gk - 1, by omega⟩
            have ST := Lib.hid st.2
            have hqI : (4294967296 : Int) ≤ (p : Int) + 1 := by omega
            have HP : Hid (p ≤ 4294967296) := Lib.hid (by omega)
            clear st hq
            by_cases hb : 4294967296 ≤ r + y1
            · have e := k_break N.out.Y1 HYp.out HY3.out (by rw [HD2.out]; exact ST.out) HP.out hb
              rw [HD2.out] at e
              have hbI : (4294967296 : Int) ≤ (r : Int) + (y1 : Int) := by omega
              subst e
              clear hb qm
              go_wp2
              go_ret2
              exact ⟨ret2u FQ.out rfl, 0, rfl⟩
            · have hbI : (r : Int) + (y1 : Int) ≤ 4294967295 := by omega
              have hb3 : decide ((4294967296 : Int) ≤ (r : Int) + (y1 : Int)) = false := decide_eq_false (by omega)
              have HB : Hid (r + y1 < 4294967296) := Lib.hid (by omega)
              clear hb
              go_wp2
              go_roundg p
              case measure => exact Nat.lt_succ_self _
              case rel => exact ⟨r + y1, by go_num, by go_num, ST.out, HB.out, rfl⟩
          · have hqI : (gk : Int) ≤ 4294967295 := by omega
            obtain ⟨C, hC⟩ : ∃ C, gk * y0 = C := ⟨_, rfl⟩
            have p0 : IntKind.u64.wrap ((gk : Int) * (y0 : Int)) = (C : Int) := by
              rw [← Int.natCast_mul, hC]
              exact wrapN (by rw [← hC]; exact Nat.lt_of_le_of_lt (Nat.mul_le_mul (show gk ≤ 4294967295 by omega) (show y0 ≤ 4294967295 by have := HY3.out; omega)) (by decide))
            clear hq
            by_cases ht : 4294967296 * r + v0 < C
            · have st := k_step N.out.Y1 HYp.out HR1Y.out HW0.out (by rw [HD2.out]; exact HK.out) (.inr (by rw [hC]; exact ht))
              rw [HD2.out] at st
              have htI : 4294967296 * (r : Int) + (v0 : Int) < (C : Int) := by omega
              obtain ⟨p, rfl⟩ : ∃ p, gk = p + 1 := ⟨gk - 1, by omega⟩
              have ST := Lib.hid st.2
              have HP : Hid (p ≤ 4294967296) := Lib.hid (by omega)
              have hq2 : (p : Int) + 1 ≤ 4294967295 := by omega
              have p1 : IntKind.u64.wrap (((p : Int) + 1) * (y0 : Int)) = (C : Int) := p0
              have hq3 : decide ((4294967296 : Int) ≤ (p : Int) + 1) = false := decide_eq_false (by omega)
              clear st ht hC p0 hqI qm
              by_cases hb : 4294967296 ≤ r + y1
              · have e := k_break N.out.Y1 HYp.out HY3.out (by rw [HD2.out]; exact ST.out) HP.out hb
                rw [HD2.out] at e
                have hbI : (4294967296 : Int) ≤ (r : Int) + (y1 : Int) := by omega
                subst e
                clear hb
                go_wp2
                go_ret2
                exact ⟨ret2u FQ.out rfl, 0, rfl⟩
              · have hbI : (r : Int) + (y1 : Int) ≤ 4294967295 := by omega
                have hb3 : decide ((4294967296 : Int) ≤ (r : Int) + (y1 : Int)) = false := decide_eq_false (by omega)
                have HB : Hid (r + y1 < 4294967296) := Lib.hid (by omega)
                clear hb
                go_wp2
                go_roundg p
                case measure => exact Nat.lt_succ_self _
                case rel => exact ⟨r + y1, by go_num, by go_num, ST.out, HB.out, rfl⟩
            · have e := k_exit (q1 := gk) (r := r) N.out.Y1 HYp.out (by rw [HD2.out]; exact HK.out) (by rw [hC]; omega)
              rw [HD2.out] at e
              have htI : (C : Int) ≤ 4294967296 * (r : Int) + (v0 : Int) := by omega
              have ht3 : decide (4294967296 * (r : Int) + (v0 : Int) < (C : Int)) = false := decide_eq_false (by omega)
              have hq3 : decide ((4294967296 : Int) ≤ (gk : Int)) = false := decide_eq_false (by omega)
              clear ht hC
              subst e
              go_wp2
              go_ret2
              exact ⟨ret2u FQ.out rfl, 0, rfl⟩
      · have hbI : (r : Int) + (y1 : Int) ≤ 4294967295 := by omega
        have hb3 : decide ((4294967296 : Int) ≤ (r : Int) + (y1 : Int)) = false := decide_eq_false (by omega)
        have HB : Hid (r + y1 < 4294967296) := Lib.hid (by omega)
        clear hb
        go_wp2
        go_roundg p
        case measure => exact Nat.lt_succ_self _
        case rel => exact ⟨r + y1, by go_num, by go_num, ST.out, HB.out, rfl⟩
    · have hqI : (gk : Int) ≤ 4294967295 := by omega
      obtain ⟨C, hC⟩ : ∃ C, gk * y0 = C := ⟨_, rfl⟩
      have p0 : IntKind.u64.wrap ((gk : Int) * (y0 : Int)) = (C : Int) := by
        rw [← Int.natCast_mul, hC]
        exact wrapN (by rw [← hC]; exact Nat.lt_of_le_of_lt (Nat.mul_le_mul (show gk ≤ 4294967295 by omega) (show y0 ≤ 4294967295 by have := HY3.out; omega)) (by decide))
      clear hq
      by_cases ht : 4294967296 * r + v1 < C
      · have st := k_step N.out.Y1 HYp.out N.out.U1 HW1.out (by rw [HD1.out]; exact HK.out) (.inr (by rw [hC]; exact ht))
        rw [HD1.out] at st
        have htI : 4294967296 * (r : Int) + (v1 : Int) < (C : Int) := by omega
        obtain ⟨p, rfl⟩ : ∃ p, gk = p + 1 := ⟨gk - 1, by omega⟩
        have ST := Lib.hid st.2
        have HP : Hid (p ≤ 4294967296) := Lib.hid (by omega)
        have hq2 : (p : Int) + 1 ≤ 4294967295 := by omega
        have p1 : IntKind.u64.wrap (((p : Int) + 1) * (y0 : Int)) = (C : Int) := p0
        have hq3 : decide ((4294967296 : Int) ≤ (p : Int) + 1) = false := decide_eq_false (by omega)
        clear st ht hC p0 hqI qm
        by_cases hb : 4294967296 ≤ r + y1
        · have e := k_break N.out.Y1 HYp.out HY3.out (by rw [HD1.out]; exact ST.out) HP.out hb
          rw [HD1.out] at e
          have hbI : (4294967296 : Int) ≤ (r : Int) + (y1 : Int) := by omega
          subst e
          clear hb
          go_wp2
          obtain ⟨wz, rfl⟩ : ∃ wz, wz = wr := ⟨_, rfl⟩
          go_loopg [18, 16] q2 (fun q sq sr wr => ∃ r : Nat, sq = .int .u64 q ∧ sr = .int .u64 r ∧ kRel R1 y1 D2 q r ∧ r < 4294967296 ∧ wr = wz)
          case atStart => exact ⟨r2, rfl, rfl, J0.out, Hr2.out, rfl⟩
          case round =>
            obtain ⟨r, rfl, rfl, hk, hr, rfl⟩ := hrel
            have HK := Lib.hid hk
            have qm : (gk : Int) ≤ 4294967297 := by have := hk.2.2; omega
            have rb : (r : Int) ≤ 4294967295 := by omega
            clear hk hr
            by_cases hq : 4294967296 ≤ gk
            · have st := k_step N.out.Y1 HYp.out HR1Y.out HW0.out (by rw [HD2.out]; exact HK.out) (.inl hq)
              rw [HD2.out] at st
              obtain ⟨p, rfl⟩ : ∃ p, gk = p + 1 := ⟨gk - 1, by omega⟩
              have ST := Lib.hid st.2
              have hqI : (4294967296 : Int) ≤ (p : Int) + 1 := by omega
              have HP : Hid (p ≤ 4294967296) := Lib.hid (by omega)
              clear st hq
              by_cases hb : 4294967296 ≤ r + y1
              · have e := k_break N.out.Y1 HYp.out HY3.out (by rw [HD2.out]; exact ST.out) HP.out hb
                rw [HD2.out] at e
                have hbI : (4294967296 : Int) ≤ (r : Int) + (y1 : Int) := by omega
                subst e
                clear hb qm
                go_wp2
                go_ret2
                exact ⟨ret2u FQ.out rfl, 0, rfl⟩
              · have hbI : (r : Int) + (y1 : Int) ≤ 4294967295 := by omega
                have hb3 : decide ((4294967296 : Int) ≤ (r : Int) + (y1 : Int)) = false := decide_eq_false (by omega)
                have HB : Hid (r + y1 < 4294967296) := Lib.hid (by omega)
                clear hb
                go_wp2
                go_roundg p
                case measure => exact Nat.lt_succ_self _
                case rel => exact ⟨r + y1, by go_num, by go_num, ST.out, HB.out, rfl⟩
            · have hqI : (gk : Int) ≤ 4294967295 := by omega
              obtain ⟨C, hC⟩ : ∃ C, gk * y0 = C := ⟨_, rfl⟩
              have p0 : IntKind.u64.wrap ((gk : Int) * (y0 : Int)) = (C : Int) := by
                rw [← Int.natCast_mul, hC]
                exact wrapN (by rw [← hC]; exact Nat.lt_of_le_of_lt (Nat.mul_le_mul (show gk ≤ 4294967295 by omega) (show y0 ≤ 4294967295 by have := HY3.out; omega)) (by decide))
              clear hq
              by_cases ht : 4294967296 * r + v0 < C
              · have st := k_step N.out.Y1 HYp.out HR1Y.out HW0.out (by rw [HD2.out]; exact HK.out) (.inr (by rw [hC]; exact ht))
                rw [HD2.out] at st
                have htI : 4294967296 * (r : Int) + (v0 : Int) < (C : Int) := by omega
                obtain ⟨p, rfl⟩ : ∃ p, gk = p + 1 := ⟨gk - 1, by omega⟩
                have ST := Lib.hid st.2
                have HP : Hid (p ≤ 4294967296) := Lib.hid (by omega)
                have hq2 : (p : Int) + 1 ≤ 4294967295 := by omega
                have p1 : IntKind.u64.wrap (((p : Int) + 1) * (y0 : Int)) = (C : Int) := p0
                have hq3 : decide ((4294967296 : Int) ≤ (p : Int) + 1) = false := decide_eq_false (by omega)
                clear st ht hC p0 hqI qm
                by_cases hb : 4294967296 ≤ r + y1
                · have e := k_break N.out.Y1 HYp.out HY3.out (by rw [HD2.out]; exact ST.out) HP.out hb
                  rw [HD2.out] at e
                  have hbI : (4294967296 : Int) ≤ (r : Int) + (y1 : Int) := by omega
                  subst e
                  clear hb
                  go_wp2
                  go_ret2
                  exact ⟨ret2u FQ.out rfl, 0, rfl⟩
                · have hbI : (r : Int) + (y1 : Int) ≤ 4294967295 := by omega
                  have hb3 : decide ((4294967296 : Int) ≤ (r : Int) + (y1 : Int)) = false := decide_eq_false (by omega)
                  have HB : Hid (r + y1 < 4294967296) := Lib.hid (by omega)
                  clear hb
                  go_wp2
                  go_roundg p
                  case measure => exact Nat.lt_succ_self _
                  case rel => exact ⟨r + y1, by go_num, by go_num, ST.out, HB.out, rfl⟩
              · have e := k_exit (q1 := gk) (r := r) N.out.Y1 HYp.out (by rw [HD2.out]; exact HK.out) (by rw [hC]; omega)
                rw [HD2.out] at e
                have htI : (C : Int) ≤ 4294967296 * (r : Int) + (v0 : Int) := by omega
                have ht3 : decide (4294967296 * (r : Int) + (v0 : Int) < (C : Int)) = false := decide_eq_false (by omega)
                have hq3 : decide ((4294967296 : Int) ≤ (gk : Int)) = false := decide_eq_false (by omega)
                clear ht hC
                subst e
                go_wp2
                go_ret2
                exact ⟨ret2u FQ.out rfl, 0, rfl⟩
        · have hbI : (r : Int) + (y1 : Int) ≤ 4294967295 := by omega
          have hb3 : decide ((4294967296 : Int) ≤ (r : Int) + (y1 : Int)) = false := decide_eq_false (by omega)
          have HB : Hid (r + y1 < 4294967296) := Lib.hid (by omega)
          clear hb
          go_wp2
          go_roundg p
          case measure => exact Nat.lt_succ_self _
          case rel => exact ⟨r + y1, by go_num, by go_num, ST.out, HB.out, rfl⟩
      · have e := k_exit (q1 := gk) (r := r) N.out.Y1 HYp.out (by rw [HD1.out]; exact HK.out) (by rw [hC]; omega)
        rw [HD1.out] at e
        have htI : (C : Int) ≤ 4294967296 * (r : Int) + (v1 : Int) := by omega
        have ht3 : decide (4294967296 * (r : Int) + (v1 : Int) < (C : Int)) = false := decide_eq_false (by omega)
        have hq3 : decide ((4294967296 : Int) ≤ (gk : Int)) = false := decide_eq_false (by omega)
        clear ht hC
        subst e
        go_wp2
        obtain ⟨wz, rfl⟩ : ∃ wz, wz = wr := ⟨_, rfl⟩
        go_loopg [18, 16] q2 (fun q sq sr wr => ∃ r : Nat, sq = .int .u64 q ∧ sr = .int .u64 r ∧ kRel R1 y1 D2 q r ∧ r < 4294967296 ∧ wr = wz)
        case atStart => exact ⟨r2, rfl, rfl, J0.out, Hr2.out, rfl⟩
        case round =>
          obtain ⟨r, rfl, rfl, hk, hr, rfl⟩ := hrel
          have HK := Lib.hid hk
          have qm : (gk : Int) ≤ 4294967297 := by have := hk.2.2; omega
          have rb : (r : Int) ≤ 4294967295 := by omega
          clear hk hr
          by_cases hq : 4294967296 ≤ gk
          · have st := k_step N.out.Y1 HYp.out HR1Y.out HW0.out (by rw [HD2.out]; exact HK.out) (.inl hq)
            rw [HD2.out] at st
            obtain ⟨p, rfl⟩ : ∃ p, gk = p + 1 := ⟨gk - 1, by omega⟩
            have ST := Lib.hid st.2
            have hqI : (4294967296 : Int) ≤ (p : Int) + 1 := by omega
            have HP : Hid (p ≤ 4294967296) := Lib.hid (by omega)
            clear st hq
            by_cases hb : 4294967296 ≤ r + y1
            · have e := k_break N.out.Y1 HYp.out HY3.out (by rw [HD2.out]; exact ST.out) HP.out hb
              rw [HD2.out] at e
              have hbI : (4294967296 : Int) ≤ (r : Int) + (y1 : Int) := by omega
              subst e
              clear hb qm
              go_wp2
              go_ret2
              exact ⟨ret2u FQ.out rfl, 0, rfl⟩
            · have hbI : (r : Int) + (y1 : Int) ≤ 4294967295 := by omega
              have hb3 : decide ((4294967296 : Int) ≤ (r : Int) + (y1 : Int)) = false := decide_eq_false (by omega)
              have HB : Hid (r + y1 < 4294967296) := Lib.hid (by omega)
              clear hb
              go_wp2
              go_roundg p
              case measure => exact Nat.lt_succ_self _
              case rel => exact ⟨r + y1, by go_num, by go_num, ST.out, HB.out, rfl⟩
          · have hqI : (gk : Int) ≤ 4294967295 := by omega
            obtain ⟨C, hC⟩ : ∃ C, gk * y0 = C := ⟨_, rfl⟩
            have p0 : IntKind.u64.wrap ((gk : Int) * (y0 : Int)) = (C : Int) := by
              rw [← Int.natCast_mul, hC]
              exact wrapN (by rw [← hC]; exact Nat.lt_of_le_of_lt (Nat.mul_le_mul (show gk ≤ 4294967295 by omega) (show y0 ≤ 4294967295 by have := HY3.out; omega)) (by decide))
            clear hq
            by_cases ht : 4294967296 * r + v0 < C
            · have st := k_step N.out.Y1 HYp.out HR1Y.out HW0.out (by rw [HD2.out]; exact HK.out) (.inr (by rw [hC]; exact ht))
              rw [HD2.out] at st
              have htI : 4294967296 * (r : Int) + (v0 : Int) < (C : Int) := by omega
              obtain ⟨p, rfl⟩ : ∃ p, gk = p + 1 := ⟨gk - 1, by omega⟩
              have ST := Lib.hid st.2
              have HP : Hid (p ≤ 4294967296) := Lib.hid (by omega)
              have hq2 : (p : Int) + 1 ≤ 4294967295 := by omega
              have p1 : IntKind.u64.wrap (((p : Int) + 1) * (y0 : Int)) = (C : Int) := p0
              have hq3 : decide ((4294967296 : Int) ≤ (p : Int) + 1) = false := decide_eq_false (by omega)
              clear st ht hC p0 hqI qm
              by_cases hb : 4294967296 ≤ r + y1
              · have e := k_break N.out.Y1 HYp.out HY3.out (by rw [HD2.out]; exact ST.out) HP.out hb
                rw [HD2.out] at e
                have hbI : (4294967296 : Int) ≤ (r : Int) + (y1 : Int) := by omega
                subst e
                clear hb
                go_wp2
                go_ret2
                exact ⟨ret2u FQ.out rfl, 0, rfl⟩
              · have hbI : (r : Int) + (y1 : Int) ≤ 4294967295 := by omega
                have hb3 : decide ((4294967296 : Int) ≤ (r : Int) + (y1 : Int)) = false := decide_eq_false (by omega)
                have HB : Hid (r + y1 < 4294967296) := Lib.hid (by omega)
                clear hb
                go_wp2
                go_roundg p
                case measure => exact Nat.lt_succ_self _
                case rel => exact ⟨r + y1, by go_num, by go_num, ST.out, HB.out, rfl⟩
            · have e := k_exit (q1 := gk) (r := r) N.out.Y1 HYp.out (by rw [HD2.out]; exact HK.out) (by rw [hC]; omega)
              rw [HD2.out] at e
              have htI : (C : Int) ≤ 4294967296 * (r : Int) + (v0 : Int) := by omega
              have ht3 : decide (4294967296 * (r : Int) + (v0 : Int) < (C : Int)) = false := decide_eq_false (by omega)
              have hq3 : decide ((4294967296 : Int) ≤ (gk : Int)) = false := decide_eq_false (by omega)
              clear ht hC
              subst e
              go_wp2
              go_ret2
              exact ⟨ret2u FQ.out rfl, 0, rfl⟩
end Go.Proofs.YtjighmmfaedgbaaDoor.RatW
