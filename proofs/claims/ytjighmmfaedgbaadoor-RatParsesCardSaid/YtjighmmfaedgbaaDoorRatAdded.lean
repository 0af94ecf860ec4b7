/-
  What added of package rat returns.
-/
import Derived.Test.YtjighmmfaedgbaaDoorRatOps
import Derived.BigRegion
namespace Go.Proofs.YtjighmmfaedgbaaDoor.RatW
open Go Go.RowKit Go.Proofs.YtjighmmfaedgbaaDoor.RatM

theorem numS_top (s1 : Bool) (n1 d1 : Nat) (s2 : Bool) (n2 d2 : Nat) :
    (numS s1 n1 d1 s2 n2 d2).2 = n1 * d2 + n2 * d1 ∨ (numS s1 n1 d1 s2 n2 d2).2 + n2 * d1 = n1 * d2 ∨ (numS s1 n1 d1 s2 n2 d2).2 + n1 * d2 = n2 * d1 := by
  unfold numS
  split
  · exact .inl rfl
  · split
    · right; right; show n2 * d1 - n1 * d2 + n1 * d2 = n2 * d1; omega
    · right; left; show n1 * d2 - n2 * d1 + n2 * d1 = n1 * d2; omega
theorem keepA {w : World} {g g' g'' : Nat} {x y z x' y' z' p q : Value} (h : Three w g x y z) (h' : Three w g' x' y' z') (h'' : Two w g'' p q) : w.cell? ⟨g, 2, none⟩ = some z ∧ w.cell? ⟨g', 2, none⟩ = some z' ∧ w.cell? ⟨g'', 0, none⟩ = some p ∧ w.cell? ⟨g'', 1, none⟩ = some q := ⟨h.c2, h'.c2, h''.c0, h''.c1⟩
/-- What the two denominators' division leaves. -/
def Cut2 (w wx : World) (g2 g3 g4 : Nat) (s1 : Bool) (xn x' : Nat) (s2 : Bool) (yn y' : Nat) : Prop :=
  Three wx g2 (.bool s1) (.int .u64 xn) (.int .u64 x') ∧ Three wx g3 (.bool s2) (.int .u64 yn) (.int .u64 y') ∧ Two wx g4 (.int .i64 0) (.int .i64 0) ∧ Below w.heap.size w wx
set_option maxRecDepth 100000 in
set_option maxHeartbeats 32000000 in
theorem addCode2 (s1 : Bool) (xn xd : Nat) (s2 : Bool) (yn yd : Nat) (w : World) (a1 : xn ≤ 9223372036854775808) (a2 : xd ≤ 9223372036854775808) (a3 : yn ≤ 9223372036854775808) (a4 : yd ≤ 9223372036854775808)
    (hx : xn.gcd xd = 1) (hy : yn.gcd yd = 1) (hxd : 0 < xd) (hyd : 0 < yd) :
    Calls Tryd.prog 39 #[fv s1 xn xd, fv s2 yn yd] w (tRes w (zq (sg s1 xn * yd + sg s2 yn * xd) (xd * yd))) := by
  obtain ⟨c, hc⟩ : ∃ c, xd.gcd yd = c := ⟨_, rfl⟩
  obtain ⟨x', ex⟩ : ∃ x', xd / c = x' := ⟨_, rfl⟩
  obtain ⟨y', ey⟩ : ∃ y', yd / c = y' := ⟨_, rfl⟩
  have hT := numS_top s1 xn x' s2 yn y'
  have hS := numS_sg s1 xn x' s2 yn y'
  have bx : x' ≤ 9223372036854775808 := by rw [← ex]; exact Nat.le_trans (Nat.div_le_self _ _) a2
  have by' : y' ≤ 9223372036854775808 := by rw [← ey]; exact Nat.le_trans (Nat.div_le_self _ _) a4
  have NC := fun w => numCode s1 xn x' s2 yn y' w a1 bx a3 by'
  unfold tNum at NC
  obtain ⟨neg, hneg⟩ : ∃ neg, (numS s1 xn x' s2 yn y').1 = neg := ⟨_, rfl⟩
  obtain ⟨T, hTT⟩ : ∃ T, (numS s1 xn x' s2 yn y').2 = T := ⟨_, rfl⟩
  rw [hTT] at hT NC hS
  rw [hneg] at NC hS
  obtain ⟨g, hg⟩ : ∃ g, T.gcd c = g := ⟨_, rfl⟩
  obtain ⟨L1, L2, L3, L4, L5, L6, L7⟩ := add_low (s := neg) hx hy hxd hyd hc ex ey hT hg
  have HRES : zq (sg s1 xn * yd + sg s2 yn * xd) (xd * yd) = fit neg (T / g) (x' * (y' * (c / g))) := by
    rw [L1]
    exact (add_val L5 L6 L7 (Nat.mul_pos hxd hyd) hS rfl).symm
  rw [HRES]
  have P1 : xn * y' ≤ 85070591730234615865843651857942052864 := Nat.mul_le_mul a1 by'
  have P2 : yn * x' ≤ 85070591730234615865843651857942052864 := Nat.mul_le_mul a3 bx
  have TB : T ≤ 170141183460469231731687303715884105728 := by omega
  have c64 : c < 18446744073709551616 := by
    have : c ≤ xd := by rw [← hc]; exact Nat.le_of_dvd hxd (Nat.gcd_dvd_left _ _)
    omega
  have g64 : g < 18446744073709551616 := by
    have : g ≤ c := by rw [← hg]; exact Nat.le_of_dvd L3 (Nat.gcd_dvd_right _ _)
    omega
  have DV := Lib.hid (fun w => divisor_any xd yd w)
  have RM := Lib.hid (fun w => remCode T c w L3 c64)
  have DG : Hid (∀ w, Calls Tryd.prog 55 #[.int .u64 (T % c : Nat), .int .u64 c] w fun e w' => e = .returned (.int .u64 g) ∧ ∃ m, w' = w.drewN m) := Lib.hid (fun w => by
    have := divisor_any (T % c) c w
    have e : (T % c).gcd c = g := by rw [← hg, Nat.gcd_comm T c, Nat.gcd_rec c T]
    unfold tGcd at this
    rw [e] at this
    exact this)
  have QT := Lib.hid (fun w => quoCode T g w L2 g64 (by unfold hiW; omega))
  have TM := Lib.hid (fun w => timesX x' (y' * (c / g)) w (by omega) (by omega))
  have FT := Lib.hid (fun w => fittedCode neg (T / g) (x' * (y' * (c / g))) w)
  have NC := Lib.hid NC
  unfold tGcd at DV
  rw [hc] at DV
  have c0 : ¬ (c : Int) = 0 := by omega
  have c1 : (0 : Int) < (c : Int) := by omega
  have g0 : ¬ (g : Int) = 0 := by omega
  have g1 : (0 : Int) < (g : Int) := by omega
  have g2 : ¬ g = 0 := by omega
  have g3 : ((g : Int) == 0) = false := by simp [g2]
  have g4 : (1 : Int) ≤ (g : Int) := by omega
  have g5 : (0 : Int) ≤ (c : Int) := by omega
  have g6 : (c : Int).tdiv (g : Int) = ((c / g : Nat) : Int) := rfl
  have e1 : (xd : Int) / (c : Int) = (x' : Int) := by rw [← Int.natCast_ediv, ex]
  have e2 : (yd : Int) / (c : Int) = (y' : Int) := by rw [← Int.natCast_ediv, ey]
  have e3 : IntKind.u64.wrap (x' : Int) = (x' : Int) := wrapN (by omega)
  have e4 : IntKind.u64.wrap (y' : Int) = (y' : Int) := wrapN (by omega)
  have e5 : (c : Int) / (g : Int) = ((c / g : Nat) : Int) := (Int.natCast_ediv _ _).symm
  have e6 : IntKind.u64.wrap ((c / g : Nat) : Int) = ((c / g : Nat) : Int) := wrapN (Nat.lt_of_le_of_lt (Nat.div_le_self _ _) c64)
  have e7 : IntKind.u64.wrap ((y' : Int) * ((c / g : Nat) : Int)) = ((y' * (c / g) : Nat) : Int) := by rw [← Int.natCast_mul]; exact wrapN (by omega)
  clear HRES hc ex ey hT hS bx by' hneg hTT hg L1 L2 L3 L4 L5 L6 L7 P1 P2 TB c64 g64 a1 a2 a3 a4 hx hy hxd hyd
  generalize y' * (c / g) = z at *
  generalize c / g = u at *
  generalize x' * z = B at *
  generalize T / g = A at *
  generalize T % c = V at *
  obtain ⟨W0, hW0⟩ : ∃ W0, ((w.alloc (.cells #[.bool s1, .int .u64 xn, .int .u64 xd] 54)).alloc (.cells #[.bool s2, .int .u64 yn, .int .u64 yd] 54)).alloc (.cells #[.int .i64 0, .int .i64 0] 23) = W0 := ⟨_, rfl⟩
  have H2 : Hid (Three W0 w.heap.size (.bool s1) (.int .u64 xn) (.int .u64 xd)) := Lib.hid (by rw [← hW0]; exact ((Three.at_ rfl _ _ _ _).alloc _).alloc _)
  have H3 : Hid (Three W0 (w.heap.size + 1) (.bool s2) (.int .u64 yn) (.int .u64 yd)) := Lib.hid (by rw [← hW0]; exact (Three.at_ (by simp) _ _ _ _).alloc _)
  have H4 : Hid (Two W0 (w.heap.size + 1 + 1) (.int .i64 0) (.int .i64 0)) := Lib.hid (by rw [← hW0]; exact Two.at_ (by simp) _ _ _)
  have HBW : Hid (Below w.heap.size w W0) := Lib.hid (by rw [← hW0]; exact (((Below.refl _ _).alloc (Nat.le_refl _) _).alloc (by simp) _).alloc (by simp; omega) _)
  have hz0 : w.heap.size + 1 + 1 < W0.heap.size := H4.out.lt
  have HW := Lib.hid hW0
  clear hW0
  have x2 := H2.out.c2
  have x3 := H3.out.c2
  go_enter Tryd.func39, Tryd.ntmps39
  go_wp2_with (rw [HW.out]; (go_at_call 55; ((with_reducible refine (DV.out _).mono ?_); rintro e w' ⟨rfl, m1, rfl⟩)))
  have D2 := H2.out.drewN m1
  have D3 := H3.out.drewN m1
  have D4 := H4.out.drewN m1
  have hz1 : w.heap.size + 1 + 1 < (W0.drewN m1).heap.size := hz0
  have HB1 : Hid (Below w.heap.size w (W0.drewN m1)) := Lib.hid (below_drewN HBW.out m1)
  generalize W0.drewN m1 = w1 at *
  have y2 := D2.c2
  have y3 := D3.c2
  have f2 := D2.f 2
  have f3 := D3.f 2
  clear x2 x3
  go_cut [6] (fun s6 wx => s6 = .int .u64 c ∧ Cut2 w wx w.heap.size (w.heap.size + 1) (w.heap.size + 1 + 1) s1 xn x' s2 yn y')
  case first =>
    go_region
    all_goals
      go_wp2_with fail
      go_meet
    all_goals first
      | exact ⟨rfl, ((D2.set2 _).far (by omega)).drew, ((D3.far (by omega)).set2 _).drew, ((D4.far (by omega)).far (by omega)).drew, ((HB1.out.setCell (Nat.le_refl _) _).setCell (by simp) _).drew⟩
      | exact ⟨rfl, ((D2.set2 _).far (by omega)), ((D3.far (by omega)).set2 _), ((D4.far (by omega)).far (by omega)), ((HB1.out.setCell (Nat.le_refl _) _).setCell (by simp) _)⟩
  case rest =>
    obtain ⟨rfl, C2, C3, C4, BC0⟩ := hcut
    have BC := Lib.hid BC0
    clear BC0 D2 D3 D4 y2 y3 f2 f3 hz1 hz0 HB1
    have hz2 : w.heap.size + 1 + 1 < wc.heap.size := C4.lt
    have v0 := C2.c0
    have v1 := C2.c1
    have v2 := C2.c2
    have v3 := C3.c0
    have v4 := C3.c1
    have v5 := C3.c2
    go_wp2_with (first
      | (go_at_call 47; refine (NC.out _).mono ?_; rintro e wn ⟨rfl, hb⟩; have HN := Lib.hid hb; have F2 := C2.stay HN.out; have F3 := C3.stay HN.out; have F4 := C4.stay HN.out; have hzn := F4.lt; clear hb v0 v1 v2 v3 v4 v5)
      | (go_at_call 59; refine (RM.out _).mono ?_; rintro e wr ⟨rfl, hb⟩; have HR1 := Lib.hid (below_new hb); have G2 := F2.stay HR1.out; have G3 := F3.stay HR1.out; have G4 := F4.stay HR1.out; have G8 := (Two.at_ rfl _ _ _).stay hb; clear hb)
      | (go_at_call 55; ((with_reducible refine (DG.out _).mono ?_); rintro e w' ⟨rfl, m2, rfl⟩)))
    have B4 : Hid (Below w.heap.size w (wr.drewN m2)) := Lib.hid (below_drewN ((BC.out.trans (HN.out.mono BC.out.size)).trans (HR1.out.mono (BC.out.trans (HN.out.mono BC.out.size)).size)) m2)
    have I2 := G2.drewN m2
    have I3 := G3.drewN m2
    have I4 := G4.drewN m2
    have I8 := G8.drewN m2
    clear G2 G3 G4 G8 F2 F3 F4 C2 C3 C4
    generalize wr.drewN m2 = w4 at *
    have hz4 : w.heap.size + 1 + 1 < w4.heap.size := I4.lt
    have hz8 : wn.heap.size < w4.heap.size := I8.lt
    go_region_held3 (fun w' => w'.cell? ⟨w.heap.size, 2, none⟩ = some (.int .u64 x') ∧ w'.cell? ⟨w.heap.size + 1, 2, none⟩ = some (.int .u64 y') ∧ w'.cell? ⟨wn.heap.size, 0, none⟩ = some (.int .u64 (hiW T)) ∧ w'.cell? ⟨wn.heap.size, 1, none⟩ = some (.int .u64 (loW T)))
      (first
        | assumption
        | exact keepA I2.drew I3.drew I8.drew
        | exact keepA (I2.alloc _).drew (I3.alloc _).drew (I8.alloc _).drew
        | exact keepA (Q2.alloc _) (Q3.alloc _) (Q8.alloc _)
        | exact keepA ((R2.far (by omega)).far (by omega)) ((R3.far (by omega)).far (by omega)) ((R8.far (by omega)).far (by omega))
        | fail)
      (first
        | (go_at_call 60; refine (QT.out _).mono ?_; rintro e wq ⟨rfl, hb⟩; have HQ : Hid (Below w4.heap.size w4 wq) := Lib.hid (by first | exact below_drew hb | exact below_new (below_drew hb)); have Q2 := I2.stay HQ.out; have Q3 := I3.stay HQ.out; have Q4 := I4.stay HQ.out; have Q8 := I8.stay HQ.out; have K := keepA Q2 Q3 Q8; clear hb)
        | (go_at_call 61; ((with_reducible refine (TM.out _).mono ?_); rintro e w' ⟨rfl, rfl⟩))
        | (go_at_call 36; refine (FT.out _).mono ?_; rintro e w5 h5; obtain ⟨x, y, k, hr, rfl, hb⟩ := tRes_open h5; have HR := Lib.hid hr; have HF : Hid (Below wq.heap.size wq w5) := Lib.hid (by first | exact hb | exact below_new hb); have R2 := Q2.stay HF.out; have R3 := Q3.stay HF.out; have R8 := Q8.stay HF.out; obtain ⟨_, q0, q1, q2, q3⟩ := Q4.stay HF.out; have K5 := keepA R2 R3 R8; clear h5 hr hb))
    all_goals
      go_wp2
      refine bodyPost_ret (v := .tuple #[.agg #[.int .i64 x, .int .i64 y], .int .i64 k]) (by simp [results, Tryd.results39, go_sem, q0, q1]) rfl ?_
      exact ⟨by rw [resV_mk HR.out.symm], (((B4.out.trans (HQ.out.mono B4.out.size)).trans (HF.out.mono (B4.out.trans (HQ.out.mono B4.out.size)).size)).setCell (by simp; omega) _).setCell (by simp; omega) _⟩
end Go.Proofs.YtjighmmfaedgbaaDoor.RatW
