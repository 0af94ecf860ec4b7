/-
  What 'Below' of the reference of package rng returns.
-/
import Derived.Test.YtahjgepjhihhjaaRngBelow
namespace Go.Proofs.Ytahjgepjhihhjaa.RngW
open Go Go.RowKit Go.Proofs.Ytahjgepjhihhjaa.HashM Go.Proofs.Ytahjgepjhihhjaa.HashW Go.Proofs.Ytahjgepjhihhjaa.RngM

theorem le_last {n : Nat} (h : 0 < n) (h2 : n ≤ 4611686018427387904) (x : UInt64) : x ≤ lastN n ↔ x.toNat < 18446744073709551616 - restN n := by
  have := restN_lt h
  rw [UInt64.le_iff_toNat_le, lastN_nat]
  omega
theorem remS (a n : Nat) : ((a : Int) + 1).tmod (n : Int) = (((a + 1) % n : Nat) : Int) := by rw [← remN]; rfl
theorem remT (a n : Nat) (b : Int) (h : b = (a : Int)) : b.tmod (n : Int) = ((a % n : Nat) : Int) := by rw [h, remN]
theorem lt_cast {a n : Nat} (h : a < n) : (a : Int) < n := by omega
theorem lt64 (x : UInt64) : x.toNat < 18446744073709551616 := UInt64.toNat_lt x
/-- The state of the loop, behind j rounds. -/
structure BLoop (k c g : UInt64) (b0 : Nat) (W0 wr : World) (j : Nat) (c' : UInt64) : Prop where
  two : Two wr b0 (.int .u64 (V k)) (.int .u64 (V c'))
  res : Two wr (b0 + 1) (.int .u64 0) (.int .u64 0)
  upd : Upd b0 W0 wr
  eq : tk k g (63 - j) c' = tk k g 63 c
  lt : j < 64
set_option maxRecDepth 100000 in
set_option maxHeartbeats 8000000 in
theorem belowRefRaw (k c g : UInt64) (n a r bX : Nat) (bC : UInt64) (w : World) (h1 : 0 < n) (h2 : n ≤ 4611686018427387904) (e2 : IntKind.u64.wrap (n : Int) = (n : Int)) (e3 : (18446744073709551615 : Int).tmod (n : Int) = (a : Int)) (e4 : (a : Int) < n) (e5 : ((a : Int) + 1).tmod (n : Int) = (r : Int))
    (hl : ∀ x : UInt64, x ≤ g ↔ x.toNat < 18446744073709551616 - r) (hrl : r ≤ 4611686018427387904) (he : ∀ p : UInt64 × UInt64, tk k g 63 c = p → bX = p.1.toNat % n ∧ bC = p.2) :
    Calls Try.prog 20 #[rv k c, .int .i64 n] w (tBe w ⟨bX, k, bC, 0⟩) := by
  obtain ⟨W0, hW0⟩ : ∃ W0, (w.alloc (.cells #[.int .u64 (V k), .int .u64 (V c)] 24)).alloc (.cells #[.int .u64 0, .int .u64 0] 24) = W0 := ⟨_, rfl⟩
  have H2 : Hid (Two W0 w.heap.size (.int .u64 (V k)) (.int .u64 (V c))) := Lib.hid (by rw [← hW0]; exact (Two.new _ _ _ _).alloc _)
  have H3 : Hid (Two W0 (w.heap.size + 1) (.int .u64 0) (.int .u64 0)) := Lib.hid (by rw [← hW0]; exact Two.at_ (by simp) _ _ _)
  have HBW : Hid (Below w.heap.size w W0) := Lib.hid (by rw [← hW0]; exact ((Below.refl _ _).alloc (Nat.le_refl _) _).alloc (by simp) _)
  have HZ : Hid (W0.heap.size = w.heap.size + 2) := Lib.hid (by rw [← hW0]; simp)
  have HW := Lib.hid hW0
  clear hW0
  have HL := Lib.hid hl
  have HE := Lib.hid he
  clear hl he
  go_enter Try.func20, Try.ntmps20
  go_wp2
  rw [HW.out]
  go_loopw [9] (fun i wr => ∃ j : Nat, i = .int .i64 j ∧ ∃ c' : UInt64, BLoop k c g w.heap.size W0 wr j c') (fun i _ => 64 - (intOf i).toNat)
  case atStart => exact ⟨0, rfl, c, H2.out, H3.out, Upd.refl _ _, rfl, by omega⟩
  case round =>
    obtain ⟨j, rfl, c', hB⟩ := hrel
    have hj := hB.lt
    have hc := fun w => nextRef k c' w
    have hS := tk_stop k g c'
    have hZ := tk_zero k g c'
    have hG := tk_go k g c'
    unfold tNx at hc
    generalize mix k c' = X at hc hS hZ hG
    have HC := Lib.hid hc
    have HS := Lib.hid hS
    have HZE := Lib.hid hZ
    have HG := Lib.hid hG
    clear hc hS hZ hG
    have HB := Lib.hid hB
    obtain ⟨_, c0, c1, f0, f1⟩ := hB.two
    clear hB
    obtain ⟨m, hm⟩ : ∃ m, 18446744073709551616 - r = m := ⟨_, rfl⟩
    obtain ⟨y, hy⟩ : ∃ y, (X).toNat % n = y := ⟨_, rfl⟩
    have e7 : (V X).tmod (n : Int) = (y : Int) := by rw [remV, hy]
    have e8 : y ≤ 4611686018427387904 := by rw [← hy]; exact Nat.le_trans (Nat.le_of_lt (Nat.mod_lt _ h1)) h2
    have HY := Lib.hid hy
    clear hy
    by_cases hA : r = 0
    · have hstop : X ≤ g := (HL.out _).2 (by have := lt64 X; omega)
      have HX := Lib.hid (HE.out (X, c' + 1) (by rw [← HB.out.eq]; exact HS.out _ hstop))
      have k1 : ((r : Int) == 0) = true := by rw [hA]; rfl
      clear hA hstop hm
      go_wp2_with (go_at_call 11; ((with_reducible refine (HC.out _).mono ?_); rintro e w1 ⟨rfl, hb1⟩; have HB1 := Lib.hid hb1; have T1 := Lib.hid (HB.out.two.stay hb1); have R1 := Lib.hid (HB.out.res.stay hb1); obtain ⟨_, d0, d1, q0, q1⟩ := T1.out; obtain ⟨_, d2, d3, q2, q3⟩ := R1.out; clear hb1))
      go_region
      all_goals
        go_wp2
        have RW := ((((R1.out.far (b := w.heap.size) (o := 0) (v := .int .u64 (V k)) (by omega)).far (b := w.heap.size) (o := 1) (v := .int .u64 (V (c' + 1))) (by omega)).put (.int .u64 (V k)) (.int .u64 (V (c' + 1)))).alloc (.cells #[.int .u64 (V k), .int .u64 (V (c' + 1))] 24)).drew
        obtain ⟨_, z0, z1, _, _⟩ := RW
        refine bodyPost_ret (v := bv ⟨y, k, c' + 1, 0⟩) (by simp [results, Try.results20, go_sem, z0, z1]) rfl ?_
        refine ⟨by rw [HX.out.1, HX.out.2, HY.out], ?_⟩
        have u1 := HB.out.upd.trans (Upd.of HB1.out)
        have u2 := ((u1.set 0 (.int .u64 (V k))).set 1 (.int .u64 (V (c' + 1))))
        exact ((((HBW.out.trans (u2.below (Nat.le_refl _) HBW.out.size)).setCell (by simp) _).setCell (by simp) _).alloc (Nat.le_of_lt (by simp only [setCell_size]; omega)) _).drew
    · have k1 : ((r : Int) == 0) = false := by simp; omega
      have k2 : IntKind.u64.wrap (-(r : Int)) = (m : Int) := by rw [negV (by omega) hrl, hm]
      by_cases hs : X ≤ g
      · have k3 : V X < (m : Int) := by have := (HL.out _).1 hs; unfold V; omega
        have HX := Lib.hid (HE.out (X, c' + 1) (by rw [← HB.out.eq]; exact HS.out _ hs))
        clear hA hs hm
        go_wp2_with (go_at_call 11; ((with_reducible refine (HC.out _).mono ?_); rintro e w1 ⟨rfl, hb1⟩; have HB1 := Lib.hid hb1; have T1 := Lib.hid (HB.out.two.stay hb1); have R1 := Lib.hid (HB.out.res.stay hb1); obtain ⟨_, d0, d1, q0, q1⟩ := T1.out; obtain ⟨_, d2, d3, q2, q3⟩ := R1.out; clear hb1))
        go_region
        all_goals
          go_wp2
          have RW := ((((R1.out.far (b := w.heap.size) (o := 0) (v := .int .u64 (V k)) (by omega)).far (b := w.heap.size) (o := 1) (v := .int .u64 (V (c' + 1))) (by omega)).put (.int .u64 (V k)) (.int .u64 (V (c' + 1)))).alloc (.cells #[.int .u64 (V k), .int .u64 (V (c' + 1))] 24)).drew
          obtain ⟨_, z0, z1, _, _⟩ := RW
          refine bodyPost_ret (v := bv ⟨y, k, c' + 1, 0⟩) (by simp [results, Try.results20, go_sem, z0, z1]) rfl ?_
          refine ⟨by rw [HX.out.1, HX.out.2, HY.out], ?_⟩
          have u1 := HB.out.upd.trans (Upd.of HB1.out)
          have u2 := ((u1.set 0 (.int .u64 (V k))).set 1 (.int .u64 (V (c' + 1))))
          exact ((((HBW.out.trans (u2.below (Nat.le_refl _) HBW.out.size)).setCell (by simp) _).setCell (by simp) _).alloc (Nat.le_of_lt (by simp only [setCell_size]; omega)) _).drew
      · have k3 : decide (V X < (m : Int)) = false := by
          have : ¬ X.toNat < 18446744073709551616 - r := fun x => hs ((HL.out _).2 x)
          exact decide_eq_false (by unfold V; omega)
        by_cases hl : j = 63
        · have HX := Lib.hid (HE.out (X, c' + 1) (by rw [← HB.out.eq, hl]; exact HZE.out))
          have k4 : (j : Int) = 63 := by omega
          clear hA hs hm hl
          go_wp2_with (go_at_call 11; ((with_reducible refine (HC.out _).mono ?_); rintro e w1 ⟨rfl, hb1⟩; have HB1 := Lib.hid hb1; have T1 := Lib.hid (HB.out.two.stay hb1); have R1 := Lib.hid (HB.out.res.stay hb1); obtain ⟨_, d0, d1, q0, q1⟩ := T1.out; obtain ⟨_, d2, d3, q2, q3⟩ := R1.out; clear hb1))
          go_region
          all_goals
            go_wp2
            have RW := ((((R1.out.far (b := w.heap.size) (o := 0) (v := .int .u64 (V k)) (by omega)).far (b := w.heap.size) (o := 1) (v := .int .u64 (V (c' + 1))) (by omega)).put (.int .u64 (V k)) (.int .u64 (V (c' + 1)))).alloc (.cells #[.int .u64 (V k), .int .u64 (V (c' + 1))] 24)).drew
            obtain ⟨_, z0, z1, _, _⟩ := RW
            refine bodyPost_ret (v := bv ⟨y, k, c' + 1, 0⟩) (by simp [results, Try.results20, go_sem, z0, z1]) rfl ?_
            refine ⟨by rw [HX.out.1, HX.out.2, HY.out], ?_⟩
            have u1 := HB.out.upd.trans (Upd.of HB1.out)
            have u2 := ((u1.set 0 (.int .u64 (V k))).set 1 (.int .u64 (V (c' + 1))))
            exact ((((HBW.out.trans (u2.below (Nat.le_refl _) HBW.out.size)).setCell (by simp) _).setCell (by simp) _).alloc (Nat.le_of_lt (by simp only [setCell_size]; omega)) _).drew
        · have k4 : ((j : Int) == 63) = false := by simp; omega
          have HJ : Hid (tk k g (63 - (j + 1)) (c' + 1) = tk k g 63 c) := Lib.hid (by rw [← HB.out.eq, show 63 - j = (63 - (j + 1)) + 1 by omega]; exact (HG.out _ hs).symm)
          have HJL := Lib.hid hl
          clear hA hs hm hl
          go_wp2_with (go_at_call 11; ((with_reducible refine (HC.out _).mono ?_); rintro e w1 ⟨rfl, hb1⟩; have HB1 := Lib.hid hb1; have T1 := Lib.hid (HB.out.two.stay hb1); have R1 := Lib.hid (HB.out.res.stay hb1); obtain ⟨_, d0, d1, q0, q1⟩ := T1.out; obtain ⟨_, d2, d3, q2, q3⟩ := R1.out; clear hb1))
          go_roundw
          case rel =>
            have u1 := HB.out.upd.trans (Upd.of HB1.out)
            have u2 := ((u1.set 0 (.int .u64 (V k))).set 1 (.int .u64 (V (c' + 1))))
            exact ⟨j + 1, by go_num, c' + 1, (T1.out.put _ _).alloc _, ((R1.out.far (by omega)).far (by omega)).alloc _, u2.trans (Upd.of ((Below.refl _ _).alloc (Nat.le_refl _) _)), HJ.out, by have := HJL.out; omega⟩
          case measure => simp [intOf]; omega
theorem belowRefYes (k c : UInt64) (n : Nat) (w : World) (h1 : 0 < n) (h2 : n ≤ 4611686018427387904) :
    Calls Try.prog 20 #[rv k c, .int .i64 n] w (tBe w ⟨belX k c n, k, belC k c n, 0⟩) :=
  belowRefRaw k c (lastN n) n (18446744073709551615 % n) (restN n) (belX k c n) (belC k c n) w h1 h2 (wrapN h2) (remT 18446744073709551615 n _ rfl) (lt_cast (Nat.mod_lt _ h1)) (by rw [remS, rest_ref]) (le_last h1 h2) (Nat.le_of_lt (Nat.lt_of_lt_of_le (restN_lt h1) h2))
    (fun p hp => ⟨by unfold belX tkX; rw [hp], by unfold belC tkC; rw [hp]⟩)
theorem belowRef (k c : UInt64) (n : Int) (w : World) :
    Calls Try.prog 20 #[rv k c, .int .i64 n] w (tBe w (belR k c n)) := by
  by_cases hn : 1 ≤ n ∧ n ≤ 4611686018427387904
  · obtain ⟨m, rfl⟩ := Int.eq_ofNat_of_zero_le (show 0 ≤ n by omega)
    rw [belR_yes (by omega) (by omega)]
    exact belowRefYes k c m w (by omega) (by omega)
  · rw [belR_no hn]
    by_cases hl : n < 1
    · go_enter Try.func20, Try.ntmps20
      go_wp2
      refine bodyPost_ret (v := bv ⟨0, 0, 0, 1⟩) (by simp [results, Try.results20, go_sem, V0]) rfl ?_
      exact ⟨rfl, ((Below.refl _ _).alloc (Nat.le_refl _) _).alloc (by simp) _⟩
    · have hg : 4611686018427387904 < n := by omega
      go_enter Try.func20, Try.ntmps20
      go_wp2
      refine bodyPost_ret (v := bv ⟨0, 0, 0, 1⟩) (by simp [results, Try.results20, go_sem, V0]) rfl ?_
      exact ⟨rfl, ((Below.refl _ _).alloc (Nat.le_refl _) _).alloc (by simp) _⟩
end Go.Proofs.Ytahjgepjhihhjaa.RngW
