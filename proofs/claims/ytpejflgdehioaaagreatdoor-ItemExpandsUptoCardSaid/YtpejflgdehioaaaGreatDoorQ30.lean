/-
  Laws that the card uses; no conditions beside those that each states (ExBrief ItNames).
-/
import Derived.Test.YtpejflgdehioaaaGreatDoorQ19
import Derived.Test.YtpejflgdehioaaaGreatDoorQ21
import Derived.Test.YtpejflgdehioaaaGreatDoorQ24
namespace Go.Proofs.YtpejflgdehioaaaGreatDoor.WordW
open Go Go.RowKit Go.Proofs.YtpejflgdehioaaaGreatDoor.WordM
theorem half_step (Z k : Nat) : Z / 2 ^ k = 2 * (Z / 2 ^ (k + 1)) + bitN Z k := by
  unfold bitN; rw [Nat.pow_succ, ← Nat.div_div_eq_div_mul]; omega
def BitsOf (x y lo hi Z : Nat) : Prop := ∀ i, bitN Z i = if lo ≤ bitN x i + bitN y i ∧ bitN x i + bitN y i ≤ hi then 1 else 0
theorem bits_and (x y : Nat) : BitsOf x y 2 2 (x &&& y) := fun i => by
  rw [bitN_test, bitN_test, bitN_test, Nat.testBit_and]; cases x.testBit i <;> cases y.testBit i <;> simp
theorem bits_or (x y : Nat) : BitsOf x y 1 2 (x ||| y) := fun i => by
  rw [bitN_test, bitN_test, bitN_test, Nat.testBit_or]; cases x.testBit i <;> cases y.testBit i <;> simp
theorem bits_xor (x y : Nat) : BitsOf x y 1 1 (x ^^^ y) := fun i => by
  rw [bitN_test, bitN_test, bitN_test, Nat.testBit_xor]; cases x.testBit i <;> cases y.testBit i <;> simp
theorem wordN_small {x : Nat} (h : x < 65536) : wordN (x : Int) = x := by unfold wordN; omega
set_option maxHeartbeats 2000000 in
theorem refBits (x y lo hi Z : Nat) (w : World) (hx : x < 65536) (hy : y < 65536) (hl : lo ≤ 2) (hh : hi ≤ 2) (hZ : Z < 65536) (hB : BitsOf x y lo hi Z) :
    Calls Tryz.prog 202 #[.int .i64 x, .int .i64 y, .int .i64 lo, .int .i64 hi] w fun e w' => e = .returned (.int .i64 Z) ∧ w = w' := by
  have HB := Lib.hid hB; clear hB
  go_enter Tryz.func202, Tryz.ntmps202
  go_wp2; go_loop [9, 10] (fun o i => ∃ k : Nat, k ≤ 16 ∧ i = .int .i64 ((k : Int) - 1) ∧ o = .int .i64 ((Z / 2 ^ k : Nat) : Int)) (fun _ i => (intOf i + 1).toNat)
  case atStart => exact ⟨16, by omega, rfl, by rw [Nat.div_eq_of_lt (by omega)]; rfl⟩
  case round =>
    obtain ⟨k, hk, rfl, rfl⟩ := hrel; by_cases hlt : 0 < k
    · obtain ⟨j, rfl⟩ : ∃ j, k = j + 1 := ⟨k - 1, by omega⟩; have hj : j < 16 := (by omega); have ej : (((j + 1 : Nat) : Int) - 1) = (j : Int) := (by omega); have hs := half_step Z j; have hb := HB.out j; have bx := bitN_le x j; have by' := bitN_le y j
      have X := bitS_in (x : Int) j hj; have Y := bitS_in (y : Int) j hj; rw [wordN_small hx] at X; rw [wordN_small hy] at Y; have XC : Hid (∀ W, Calls Tryz.prog 201 #[.int .i64 (x : Int), .int .i64 (j : Int)] W fun e w' => e = .returned (.int .i64 (bitN x j : Int)) ∧ W = w') := (Lib.hid fun W => by rw [← X]; exact refBit x j W (by omega) (by omega)); have YC : Hid (∀ W, Calls Tryz.prog 201 #[.int .i64 (y : Int), .int .i64 (j : Int)] W fun e w' => e = .returned (.int .i64 (bitN y j : Int)) ∧ W = w') := (Lib.hid fun W => by rw [← Y]; exact refBit y j W (by omega) (by omega)); clear X Y; rw [ej]; have hzz : Z / 2 ^ (j + 1) ≤ 65535 := Nat.le_trans (Nat.div_le_self _ _) (by omega); generalize bitN x j = p at *
      generalize bitN y j = q at *
      generalize Z / 2 ^ (j + 1) = z at *
      have HS := Lib.hid hs; clear hs; by_cases hc : lo ≤ p + q ∧ p + q ≤ hi
      · rw [if_pos hc] at hb; have hz : Z / 2 ^ j = 2 * z + 1 := (by rw [HS.out, hb]); have g1 : decide ((lo : Int) ≤ (p : Int) + (q : Int)) = true := decide_eq_true (by omega); have g2 : decide ((p : Int) + (q : Int) ≤ (hi : Int)) = true := decide_eq_true (by omega); have g1' : (lo : Int) ≤ (p : Int) + (q : Int) := (by omega); have g2' : (p : Int) + (q : Int) ≤ (hi : Int) := (by omega); have HZ := Lib.hid hz; clear hz hb HS hc; go_wp2_with (first
          | (go_at_call 201; ((with_reducible refine (XC.out _).mono ?_); rintro e w' ⟨rfl, rfl⟩))
          | (go_at_call 201; ((with_reducible refine (YC.out _).mono ?_); rintro e w' ⟨rfl, rfl⟩)))
        go_round
        case rel => exact ⟨j, by omega, by go_num, by rw [HZ.out]; go_num⟩
        case measure => simp [intOf]
      · rw [if_neg hc] at hb; have hz : Z / 2 ^ j = 2 * z := (by rw [HS.out, hb]; rfl); have HZ := Lib.hid hz; clear hz hb HS; have hc' : ¬ (lo : Int) ≤ (p : Int) + (q : Int) ∨ ((lo : Int) ≤ (p : Int) + (q : Int) ∧ ¬ (p : Int) + (q : Int) ≤ (hi : Int)) := (by omega); clear hc; rcases hc' with g | ⟨g, g'⟩
        all_goals
          go_wp2_with (first
            | (go_at_call 201; ((with_reducible refine (XC.out _).mono ?_); rintro e w' ⟨rfl, rfl⟩))
            | (go_at_call 201; ((with_reducible refine (YC.out _).mono ?_); rintro e w' ⟨rfl, rfl⟩)))
          go_round
          case rel => exact ⟨j, by omega, by go_num, by rw [HZ.out]; go_num⟩
          case measure => simp [intOf]
    · obtain rfl : k = 0 := (by omega); go_wp2; go_ret; exact ⟨by simp, rfl⟩
theorem refAnd (x y : Nat) (w : World) (hx : x < 65536) (hy : y < 65536) (hZ : x &&& y < 65536) :
    Calls Tryz.prog 185 #[.int .i64 x, .int .i64 y] w fun e w' => e = .returned (.int .i64 ((x &&& y : Nat) : Int)) ∧ w = w' := by
  have C := Lib.hid (refBits x y 2 2 _ w hx hy (by omega) (by omega) hZ (bits_and x y)); clear hZ
  go_enter Tryz.func185, Tryz.ntmps185
  go_wp2_with (go_at_call 202; (refine C.out.mono ?_; rintro e w' ⟨rfl, rfl⟩))
  go_ret; exact ⟨rfl, rfl⟩
theorem refOr (x y : Nat) (w : World) (hx : x < 65536) (hy : y < 65536) (hZ : x ||| y < 65536) :
    Calls Tryz.prog 186 #[.int .i64 x, .int .i64 y] w fun e w' => e = .returned (.int .i64 ((x ||| y : Nat) : Int)) ∧ w = w' := by
  have C := Lib.hid (refBits x y 1 2 _ w hx hy (by omega) (by omega) hZ (bits_or x y)); clear hZ
  go_enter Tryz.func186, Tryz.ntmps186
  go_wp2_with (go_at_call 202; (refine C.out.mono ?_; rintro e w' ⟨rfl, rfl⟩))
  go_ret; exact ⟨rfl, rfl⟩
theorem refXor (x y : Nat) (w : World) (hx : x < 65536) (hy : y < 65536) (hZ : x ^^^ y < 65536) :
    Calls Tryz.prog 187 #[.int .i64 x, .int .i64 y] w fun e w' => e = .returned (.int .i64 ((x ^^^ y : Nat) : Int)) ∧ w = w' := by
  have C := Lib.hid (refBits x y 1 1 _ w hx hy (by omega) (by omega) hZ (bits_xor x y)); clear hZ
  go_enter Tryz.func187, Tryz.ntmps187
  go_wp2_with (go_at_call 202; (refine C.out.mono ?_; rintro e w' ⟨rfl, rfl⟩))
  go_ret; exact ⟨rfl, rfl⟩
end Go.Proofs.YtpejflgdehioaaaGreatDoor.WordW
namespace Go.Proofs.YtpejflgdehioaaaGreatDoor.ExW
open Go Go.RowKit Go.«Sort» Go.Proofs.YtpejflgdehioaaaGreatDoor.NumM Go.Proofs.YtpejflgdehioaaaGreatDoor.LexW Go.Proofs.YtpejflgdehioaaaGreatDoor.LexM Go.Proofs.YtpejflgdehioaaaGreatDoor.ExM
theorem truthR_any (x : Bool) (w : World) : Calls Tryz.prog 179 #[.bool x] w fun e w' => e = .returned (.int .i64 (tr x)) ∧ w = w' := by
  cases x
  all_goals
    go_enter Tryz.func179, Tryz.ntmps179
    go_wp2; go_ret; exact ⟨rfl, rfl⟩
set_option maxRecDepth 100000 in
set_option maxHeartbeats 2000000 in
theorem un4 (a : Int) (w : World) (_a0 : 0 ≤ a) (_a1 : a ≤ 65535) : Calls Tryz.prog 161 #[.int .i64 4, .int .i64 a] w (tInt (opS 4 [a]) w) := by
  have EE : Hid (opS 4 [a] = tr (decide (a = 0))) := Lib.hid (by simp [opS, ix]); have TC : Hid (∀ x W, Calls Tryz.prog 179 #[.bool x] W fun e w' => e = .returned (.int .i64 (tr x)) ∧ W = w') := Lib.hid fun x W => truthR_any x W
  go_enter Tryz.func161, Tryz.ntmps161
  go_wp2_with (go_at_call 179; ((with_reducible refine (TC.out _ _).mono ?_); rintro e w1 ⟨rfl, rfl⟩))
  go_ret; exact tInt_mk (by rw [EE.out] <;> rfl) (Below.refl _ _)
set_option maxRecDepth 100000 in
set_option maxHeartbeats 2000000 in
theorem un5 (a : Int) (w : World) (_a0 : 0 ≤ a) (_a1 : a ≤ 65535) : Calls Tryz.prog 161 #[.int .i64 5, .int .i64 a] w (tInt (opS 5 [a]) w) := by
  have EE : Hid (opS 5 [a] = 65535 - a % 65536) := Lib.hid (by simp [opS, ix]); have WC : Hid (∀ W, Calls Tryz.prog 180 #[.int .i64 a] W fun e w' => e = .returned (.int .i64 (65535 - a % 65536)) ∧ W = w') := Lib.hid fun W => WordW.refInv a W (by omega) (by omega)
  go_enter Tryz.func161, Tryz.ntmps161
  go_wp2_with (go_at_call 180; ((with_reducible refine (WC.out _).mono ?_); rintro e w1 ⟨rfl, rfl⟩))
  go_ret; exact tInt_mk (by rw [EE.out] <;> rfl) (Below.refl _ _)
set_option maxRecDepth 100000 in
set_option maxHeartbeats 2000000 in
theorem un6 (a : Int) (w : World) (_a0 : 0 ≤ a) (_a1 : a ≤ 65535) : Calls Tryz.prog 161 #[.int .i64 6, .int .i64 a] w (tInt (opS 6 [a]) w) := by
  have EE : Hid (opS 6 [a] = -a % 65536) := Lib.hid (by simp [opS, ix]); have WC : Hid (∀ W, Calls Tryz.prog 181 #[.int .i64 a] W fun e w' => e = .returned (.int .i64 (-a % 65536)) ∧ W = w') := Lib.hid fun W => WordW.refNeg a W (by omega) (by omega)
  go_enter Tryz.func161, Tryz.ntmps161
  go_wp2_with (go_at_call 181; ((with_reducible refine (WC.out _).mono ?_); rintro e w1 ⟨rfl, rfl⟩))
  go_ret; exact tInt_mk (by rw [EE.out] <;> rfl) (Below.refl _ _)
set_option maxRecDepth 100000 in
set_option maxHeartbeats 2000000 in
theorem un25 (a : Int) (w : World) (_a0 : 0 ≤ a) (_a1 : a ≤ 65535) : Calls Tryz.prog 161 #[.int .i64 25, .int .i64 a] w (tInt (opS 25 [a]) w) := by
  have EE : Hid (opS 25 [a] = onesM a) := Lib.hid (by simp [opS, ix]); have WC : Hid (∀ W, Calls Tryz.prog 182 #[.int .i64 a] W fun e w' => e = .returned (.int .i64 (onesM a)) ∧ W = w') := Lib.hid fun W => WordW.refOnes a W (by omega) (by omega)
  go_enter Tryz.func161, Tryz.ntmps161
  go_wp2_with (go_at_call 182; ((with_reducible refine (WC.out _).mono ?_); rintro e w1 ⟨rfl, rfl⟩))
  go_ret; exact tInt_mk (by rw [EE.out] <;> rfl) (Below.refl _ _)
set_option maxRecDepth 100000 in
set_option maxHeartbeats 2000000 in
theorem bi7 (a c : Int) (w : World) (_a0 : 0 ≤ a) (_a1 : a ≤ 65535) (_c0 : 0 ≤ c) (_c1 : c ≤ 65535) : Calls Tryz.prog 162 #[.int .i64 7, .int .i64 a, .int .i64 c] w (tInt (opS 7 [a, c]) w) := by
  have EE : Hid (opS 7 [a, c] = (a + c) % 65536) := Lib.hid (by simp [opS, ix]); have WC : Hid (∀ W, Calls Tryz.prog 160 #[.int .i64 a, .int .i64 c] W fun e w' => e = .returned (.int .i64 ((a + c) % 65536)) ∧ W = w') := Lib.hid fun W => WordW.refAdd a c W (by omega) (by omega) (by omega) (by omega)
  go_enter Tryz.func162, Tryz.ntmps162
  go_wp2_with (go_at_call 160; ((with_reducible refine (WC.out _).mono ?_); rintro e w1 ⟨rfl, rfl⟩))
  go_ret; exact tInt_mk (by rw [EE.out] <;> rfl) (Below.refl _ _)
set_option maxRecDepth 100000 in
set_option maxHeartbeats 2000000 in
theorem bi8 (a c : Int) (w : World) (_a0 : 0 ≤ a) (_a1 : a ≤ 65535) (_c0 : 0 ≤ c) (_c1 : c ≤ 65535) : Calls Tryz.prog 162 #[.int .i64 8, .int .i64 a, .int .i64 c] w (tInt (opS 8 [a, c]) w) := by
  have EE : Hid (opS 8 [a, c] = (a - c) % 65536) := Lib.hid (by simp [opS, ix]); have WC : Hid (∀ W, Calls Tryz.prog 183 #[.int .i64 a, .int .i64 c] W fun e w' => e = .returned (.int .i64 ((a - c) % 65536)) ∧ W = w') := Lib.hid fun W => WordW.refSub a c W (by omega) (by omega) (by omega) (by omega)
  go_enter Tryz.func162, Tryz.ntmps162
  go_wp2_with (go_at_call 183; ((with_reducible refine (WC.out _).mono ?_); rintro e w1 ⟨rfl, rfl⟩))
  go_ret; exact tInt_mk (by rw [EE.out] <;> rfl) (Below.refl _ _)
set_option maxRecDepth 100000 in
set_option maxHeartbeats 2000000 in
theorem bi9 (a c : Int) (w : World) (_a0 : 0 ≤ a) (_a1 : a ≤ 65535) (_c0 : 0 ≤ c) (_c1 : c ≤ 65535) : Calls Tryz.prog 162 #[.int .i64 9, .int .i64 a, .int .i64 c] w (tInt (opS 9 [a, c]) w) := by
  have EE : Hid (opS 9 [a, c] = a * c % 65536) := Lib.hid (by simp [opS, ix]); have WC : Hid (∀ W, Calls Tryz.prog 184 #[.int .i64 a, .int .i64 c] W fun e w' => e = .returned (.int .i64 (a * c % 65536)) ∧ W = w') := Lib.hid fun W => WordW.refMul a c W (by omega) (by omega) (by omega) (by omega)
  go_enter Tryz.func162, Tryz.ntmps162
  go_wp2_with (go_at_call 184; ((with_reducible refine (WC.out _).mono ?_); rintro e w1 ⟨rfl, rfl⟩))
  go_ret; exact tInt_mk (by rw [EE.out] <;> rfl) (Below.refl _ _)
set_option maxRecDepth 100000 in
set_option maxHeartbeats 2000000 in
theorem bi13 (a c : Int) (w : World) (_a0 : 0 ≤ a) (_a1 : a ≤ 65535) (_c0 : 0 ≤ c) (_c1 : c ≤ 65535) : Calls Tryz.prog 162 #[.int .i64 13, .int .i64 a, .int .i64 c] w (tInt (opS 13 [a, c]) w) := by
  have EE : Hid (opS 13 [a, c] = shlM a c) := Lib.hid (by simp [opS, ix]); have WC : Hid (∀ W, Calls Tryz.prog 188 #[.int .i64 a, .int .i64 c] W fun e w' => e = .returned (.int .i64 (shlM a c)) ∧ W = w') := Lib.hid fun W => WordW.refShl a c W (by omega) (by omega)
  go_enter Tryz.func162, Tryz.ntmps162
  go_wp2_with (go_at_call 188; ((with_reducible refine (WC.out _).mono ?_); rintro e w1 ⟨rfl, rfl⟩))
  go_ret; exact tInt_mk (by rw [EE.out] <;> rfl) (Below.refl _ _)
set_option maxRecDepth 100000 in
set_option maxHeartbeats 2000000 in
theorem bi14 (a c : Int) (w : World) (_a0 : 0 ≤ a) (_a1 : a ≤ 65535) (_c0 : 0 ≤ c) (_c1 : c ≤ 65535) : Calls Tryz.prog 162 #[.int .i64 14, .int .i64 a, .int .i64 c] w (tInt (opS 14 [a, c]) w) := by
  have EE : Hid (opS 14 [a, c] = shrM a c) := Lib.hid (by simp [opS, ix]); have WC : Hid (∀ W, Calls Tryz.prog 189 #[.int .i64 a, .int .i64 c] W fun e w' => e = .returned (.int .i64 (shrM a c)) ∧ W = w') := Lib.hid fun W => WordW.refShr a c W (by omega) (by omega)
  go_enter Tryz.func162, Tryz.ntmps162
  go_wp2_with (go_at_call 189; ((with_reducible refine (WC.out _).mono ?_); rintro e w1 ⟨rfl, rfl⟩))
  go_ret; exact tInt_mk (by rw [EE.out] <;> rfl) (Below.refl _ _)
set_option maxRecDepth 100000 in
set_option maxHeartbeats 2000000 in
theorem bi10 (a c : Int) (w : World) (_a0 : 0 ≤ a) (_a1 : a ≤ 65535) (_c0 : 0 ≤ c) (_c1 : c ≤ 65535) : Calls Tryz.prog 162 #[.int .i64 10, .int .i64 a, .int .i64 c] w (tInt (opS 10 [a, c]) w) := by
  obtain ⟨x, rfl⟩ := Int.eq_ofNat_of_zero_le _a0; obtain ⟨y, rfl⟩ := Int.eq_ofNat_of_zero_le _c0; have hz : x &&& y ≤ 65535 := and_range (b := y) (by omega); have EE : Hid (opS 10 [(x : Int), (y : Int)] = ((x &&& y : Nat) : Int)) := Lib.hid (by simp [opS, ix]); have WC : Hid (∀ W, Calls Tryz.prog 185 #[.int .i64 (x : Int), .int .i64 (y : Int)] W fun e w' => e = .returned (.int .i64 ((x &&& y : Nat) : Int)) ∧ W = w') := (Lib.hid fun W => WordW.refAnd x y W (by omega) (by omega) (by omega)); generalize x &&& y = z at *
  go_enter Tryz.func162, Tryz.ntmps162
  go_wp2_with (go_at_call 185; ((with_reducible refine (WC.out _).mono ?_); rintro e w1 ⟨rfl, rfl⟩))
  go_ret; exact tInt_mk EE.out.symm (Below.refl _ _)
set_option maxRecDepth 100000 in
set_option maxHeartbeats 2000000 in
theorem bi11 (a c : Int) (w : World) (_a0 : 0 ≤ a) (_a1 : a ≤ 65535) (_c0 : 0 ≤ c) (_c1 : c ≤ 65535) : Calls Tryz.prog 162 #[.int .i64 11, .int .i64 a, .int .i64 c] w (tInt (opS 11 [a, c]) w) := by
  obtain ⟨x, rfl⟩ := Int.eq_ofNat_of_zero_le _a0; obtain ⟨y, rfl⟩ := Int.eq_ofNat_of_zero_le _c0; have hz : x ||| y ≤ 65535 := or_range (a := x) (b := y) (by omega) (by omega)
  have EE : Hid (opS 11 [(x : Int), (y : Int)] = ((x ||| y : Nat) : Int)) := Lib.hid (by simp [opS, ix]); have WC : Hid (∀ W, Calls Tryz.prog 186 #[.int .i64 (x : Int), .int .i64 (y : Int)] W fun e w' => e = .returned (.int .i64 ((x ||| y : Nat) : Int)) ∧ W = w') := (Lib.hid fun W => WordW.refOr x y W (by omega) (by omega) (by omega)); generalize x ||| y = z at *
  go_enter Tryz.func162, Tryz.ntmps162
  go_wp2_with (go_at_call 186; ((with_reducible refine (WC.out _).mono ?_); rintro e w1 ⟨rfl, rfl⟩))
  go_ret; exact tInt_mk EE.out.symm (Below.refl _ _)
set_option maxRecDepth 100000 in
set_option maxHeartbeats 2000000 in
theorem bi12 (a c : Int) (w : World) (_a0 : 0 ≤ a) (_a1 : a ≤ 65535) (_c0 : 0 ≤ c) (_c1 : c ≤ 65535) : Calls Tryz.prog 162 #[.int .i64 12, .int .i64 a, .int .i64 c] w (tInt (opS 12 [a, c]) w) := by
  obtain ⟨x, rfl⟩ := Int.eq_ofNat_of_zero_le _a0; obtain ⟨y, rfl⟩ := Int.eq_ofNat_of_zero_le _c0; have hz : x ^^^ y ≤ 65535 := xor_range (a := x) (b := y) (by omega) (by omega); have EE : Hid (opS 12 [(x : Int), (y : Int)] = ((x ^^^ y : Nat) : Int)) := Lib.hid (by simp [opS, ix]); have WC : Hid (∀ W, Calls Tryz.prog 187 #[.int .i64 (x : Int), .int .i64 (y : Int)] W fun e w' => e = .returned (.int .i64 ((x ^^^ y : Nat) : Int)) ∧ W = w') := (Lib.hid fun W => WordW.refXor x y W (by omega) (by omega) (by omega)); generalize x ^^^ y = z at *
  go_enter Tryz.func162, Tryz.ntmps162
  go_wp2_with (go_at_call 187; ((with_reducible refine (WC.out _).mono ?_); rintro e w1 ⟨rfl, rfl⟩))
  go_ret; exact tInt_mk EE.out.symm (Below.refl _ _)
set_option maxRecDepth 100000 in
set_option maxHeartbeats 2000000 in
theorem bi15 (a c : Int) (w : World) (_a0 : 0 ≤ a) (_a1 : a ≤ 65535) (_c0 : 0 ≤ c) (_c1 : c ≤ 65535) : Calls Tryz.prog 162 #[.int .i64 15, .int .i64 a, .int .i64 c] w (tInt (opS 15 [a, c]) w) := by
  have EE : Hid (opS 15 [a, c] = tr (decide (a = c))) := Lib.hid (by simp [opS, ix]); have TC : Hid (∀ x W, Calls Tryz.prog 179 #[.bool x] W fun e w' => e = .returned (.int .i64 (tr x)) ∧ W = w') := Lib.hid fun x W => truthR_any x W
  go_enter Tryz.func162, Tryz.ntmps162
  go_wp2_with (go_at_call 179; ((with_reducible refine (TC.out _ _).mono ?_); rintro e w1 ⟨rfl, rfl⟩))
  go_ret; exact tInt_mk (by rw [EE.out] <;> rfl) (Below.refl _ _)
set_option maxRecDepth 100000 in
set_option maxHeartbeats 2000000 in
theorem bi16 (a c : Int) (w : World) (_a0 : 0 ≤ a) (_a1 : a ≤ 65535) (_c0 : 0 ≤ c) (_c1 : c ≤ 65535) : Calls Tryz.prog 162 #[.int .i64 16, .int .i64 a, .int .i64 c] w (tInt (opS 16 [a, c]) w) := by
  have EE : Hid (opS 16 [a, c] = tr (!decide (a = c))) := Lib.hid (by simp [opS, ix]); have TC : Hid (∀ x W, Calls Tryz.prog 179 #[.bool x] W fun e w' => e = .returned (.int .i64 (tr x)) ∧ W = w') := Lib.hid fun x W => truthR_any x W
  go_enter Tryz.func162, Tryz.ntmps162
  go_wp2_with (go_at_call 179; ((with_reducible refine (TC.out _ _).mono ?_); rintro e w1 ⟨rfl, rfl⟩))
  go_ret; exact tInt_mk (by rw [EE.out] <;> rfl) (Below.refl _ _)
set_option maxRecDepth 100000 in
set_option maxHeartbeats 2000000 in
theorem bi17 (a c : Int) (w : World) (_a0 : 0 ≤ a) (_a1 : a ≤ 65535) (_c0 : 0 ≤ c) (_c1 : c ≤ 65535) : Calls Tryz.prog 162 #[.int .i64 17, .int .i64 a, .int .i64 c] w (tInt (opS 17 [a, c]) w) := by
  have EE : Hid (opS 17 [a, c] = tr (decide (a < c))) := Lib.hid (by simp [opS, ix]); have TC : Hid (∀ x W, Calls Tryz.prog 179 #[.bool x] W fun e w' => e = .returned (.int .i64 (tr x)) ∧ W = w') := Lib.hid fun x W => truthR_any x W
  go_enter Tryz.func162, Tryz.ntmps162
  go_wp2_with (go_at_call 179; ((with_reducible refine (TC.out _ _).mono ?_); rintro e w1 ⟨rfl, rfl⟩))
  go_ret; exact tInt_mk (by rw [EE.out] <;> rfl) (Below.refl _ _)
set_option maxRecDepth 100000 in
set_option maxHeartbeats 2000000 in
theorem bi18 (a c : Int) (w : World) (_a0 : 0 ≤ a) (_a1 : a ≤ 65535) (_c0 : 0 ≤ c) (_c1 : c ≤ 65535) : Calls Tryz.prog 162 #[.int .i64 18, .int .i64 a, .int .i64 c] w (tInt (opS 18 [a, c]) w) := by
  have EE : Hid (opS 18 [a, c] = tr (decide (a ≤ c))) := Lib.hid (by simp [opS, ix]); have TC : Hid (∀ x W, Calls Tryz.prog 179 #[.bool x] W fun e w' => e = .returned (.int .i64 (tr x)) ∧ W = w') := Lib.hid fun x W => truthR_any x W
  go_enter Tryz.func162, Tryz.ntmps162
  go_wp2_with (go_at_call 179; ((with_reducible refine (TC.out _ _).mono ?_); rintro e w1 ⟨rfl, rfl⟩))
  go_ret; exact tInt_mk (by rw [EE.out] <;> rfl) (Below.refl _ _)
set_option maxRecDepth 100000 in
set_option maxHeartbeats 2000000 in
theorem bi19 (a c : Int) (w : World) (_a0 : 0 ≤ a) (_a1 : a ≤ 65535) (_c0 : 0 ≤ c) (_c1 : c ≤ 65535) : Calls Tryz.prog 162 #[.int .i64 19, .int .i64 a, .int .i64 c] w (tInt (opS 19 [a, c]) w) := by
  have EE : Hid (opS 19 [a, c] = tr (!decide (a = 0) && !decide (c = 0))) := Lib.hid (by simp [opS, ix]); have TC : Hid (∀ x W, Calls Tryz.prog 179 #[.bool x] W fun e w' => e = .returned (.int .i64 (tr x)) ∧ W = w') := (Lib.hid fun x W => truthR_any x W); by_cases az : a = 0
  · by_cases cz : c = 0
    · have EV : Hid (opS 19 [a, c] = tr false) := Lib.hid (by rw [EE.out]; simp [az, cz]); clear EE; subst az; subst cz
      go_enter Tryz.func162, Tryz.ntmps162
      go_wp2_with (go_at_call 179; ((with_reducible refine (TC.out _ _).mono ?_); rintro e w1 ⟨rfl, rfl⟩))
      go_ret; exact tInt_mk EV.out.symm (Below.refl _ _)
    · have EV : Hid (opS 19 [a, c] = tr false) := Lib.hid (by rw [EE.out]; simp [az, cz]); clear EE; subst az; have cz1 : (c == 0) = false := (by simpa using cz); have cz2 : (c != 0) = true := (by simpa using cz); clear cz
      go_enter Tryz.func162, Tryz.ntmps162
      go_wp2_with (go_at_call 179; ((with_reducible refine (TC.out _ _).mono ?_); rintro e w1 ⟨rfl, rfl⟩))
      go_ret; exact tInt_mk EV.out.symm (Below.refl _ _)
  · by_cases cz : c = 0
    · have EV : Hid (opS 19 [a, c] = tr false) := Lib.hid (by rw [EE.out]; simp [az, cz]); clear EE; have az1 : (a == 0) = false := (by simpa using az); have az2 : (a != 0) = true := (by simpa using az); clear az; subst cz
      go_enter Tryz.func162, Tryz.ntmps162
      go_wp2_with (go_at_call 179; ((with_reducible refine (TC.out _ _).mono ?_); rintro e w1 ⟨rfl, rfl⟩))
      go_ret; exact tInt_mk EV.out.symm (Below.refl _ _)
    · have EV : Hid (opS 19 [a, c] = tr true) := Lib.hid (by rw [EE.out]; simp [az, cz]); clear EE; have az1 : (a == 0) = false := (by simpa using az); have az2 : (a != 0) = true := (by simpa using az); clear az; have cz1 : (c == 0) = false := (by simpa using cz); have cz2 : (c != 0) = true := (by simpa using cz); clear cz
      go_enter Tryz.func162, Tryz.ntmps162
      go_wp2_with (go_at_call 179; ((with_reducible refine (TC.out _ _).mono ?_); rintro e w1 ⟨rfl, rfl⟩))
      go_ret; exact tInt_mk EV.out.symm (Below.refl _ _)
set_option maxRecDepth 100000 in
set_option maxHeartbeats 2000000 in
theorem bi20 (a c : Int) (w : World) (_a0 : 0 ≤ a) (_a1 : a ≤ 65535) (_c0 : 0 ≤ c) (_c1 : c ≤ 65535) : Calls Tryz.prog 162 #[.int .i64 20, .int .i64 a, .int .i64 c] w (tInt (opS 20 [a, c]) w) := by
  have EE : Hid (opS 20 [a, c] = tr (!decide (a = 0) || !decide (c = 0))) := Lib.hid (by simp [opS, ix]); have TC : Hid (∀ x W, Calls Tryz.prog 179 #[.bool x] W fun e w' => e = .returned (.int .i64 (tr x)) ∧ W = w') := (Lib.hid fun x W => truthR_any x W); by_cases az : a = 0
  · by_cases cz : c = 0
    · have EV : Hid (opS 20 [a, c] = tr false) := Lib.hid (by rw [EE.out]; simp [az, cz]); clear EE; subst az; subst cz
      go_enter Tryz.func162, Tryz.ntmps162
      go_wp2_with (go_at_call 179; ((with_reducible refine (TC.out _ _).mono ?_); rintro e w1 ⟨rfl, rfl⟩))
      go_ret; exact tInt_mk EV.out.symm (Below.refl _ _)
    · have EV : Hid (opS 20 [a, c] = tr true) := Lib.hid (by rw [EE.out]; simp [az, cz]); clear EE; subst az; have cz1 : (c == 0) = false := (by simpa using cz); have cz2 : (c != 0) = true := (by simpa using cz); clear cz
      go_enter Tryz.func162, Tryz.ntmps162
      go_wp2_with (go_at_call 179; ((with_reducible refine (TC.out _ _).mono ?_); rintro e w1 ⟨rfl, rfl⟩))
      go_ret; exact tInt_mk EV.out.symm (Below.refl _ _)
  · by_cases cz : c = 0
    · have EV : Hid (opS 20 [a, c] = tr true) := Lib.hid (by rw [EE.out]; simp [az, cz]); clear EE; have az1 : (a == 0) = false := (by simpa using az); have az2 : (a != 0) = true := (by simpa using az); clear az; subst cz
      go_enter Tryz.func162, Tryz.ntmps162
      go_wp2_with (go_at_call 179; ((with_reducible refine (TC.out _ _).mono ?_); rintro e w1 ⟨rfl, rfl⟩))
      go_ret; exact tInt_mk EV.out.symm (Below.refl _ _)
    · have EV : Hid (opS 20 [a, c] = tr true) := Lib.hid (by rw [EE.out]; simp [az, cz]); clear EE; have az1 : (a == 0) = false := (by simpa using az); have az2 : (a != 0) = true := (by simpa using az); clear az; have cz1 : (c == 0) = false := (by simpa using cz); have cz2 : (c != 0) = true := (by simpa using cz); clear cz
      go_enter Tryz.func162, Tryz.ntmps162
      go_wp2_with (go_at_call 179; ((with_reducible refine (TC.out _ _).mono ?_); rintro e w1 ⟨rfl, rfl⟩))
      go_ret; exact tInt_mk EV.out.symm (Below.refl _ _)
set_option maxRecDepth 100000 in
set_option maxHeartbeats 2000000 in
theorem bi21 (a c : Int) (w : World) (_a0 : 0 ≤ a) (_a1 : a ≤ 65535) (_c0 : 0 ≤ c) (_c1 : c ≤ 65535) : Calls Tryz.prog 162 #[.int .i64 21, .int .i64 a, .int .i64 c] w (tInt (opS 21 [a, c]) w) := by
  have EE : Hid (opS 21 [a, c] = tr (decide (a = 0) || !decide (c = 0))) := Lib.hid (by simp [opS, ix]); have TC : Hid (∀ x W, Calls Tryz.prog 179 #[.bool x] W fun e w' => e = .returned (.int .i64 (tr x)) ∧ W = w') := (Lib.hid fun x W => truthR_any x W); by_cases az : a = 0
  · by_cases cz : c = 0
    · have EV : Hid (opS 21 [a, c] = tr true) := Lib.hid (by rw [EE.out]; simp [az, cz]); clear EE; subst az; subst cz
      go_enter Tryz.func162, Tryz.ntmps162
      go_wp2_with (go_at_call 179; ((with_reducible refine (TC.out _ _).mono ?_); rintro e w1 ⟨rfl, rfl⟩))
      go_ret; exact tInt_mk EV.out.symm (Below.refl _ _)
    · have EV : Hid (opS 21 [a, c] = tr true) := Lib.hid (by rw [EE.out]; simp [az, cz]); clear EE; subst az; have cz1 : (c == 0) = false := (by simpa using cz); have cz2 : (c != 0) = true := (by simpa using cz); clear cz
      go_enter Tryz.func162, Tryz.ntmps162
      go_wp2_with (go_at_call 179; ((with_reducible refine (TC.out _ _).mono ?_); rintro e w1 ⟨rfl, rfl⟩))
      go_ret; exact tInt_mk EV.out.symm (Below.refl _ _)
  · by_cases cz : c = 0
    · have EV : Hid (opS 21 [a, c] = tr false) := Lib.hid (by rw [EE.out]; simp [az, cz]); clear EE; have az1 : (a == 0) = false := (by simpa using az); have az2 : (a != 0) = true := (by simpa using az); clear az; subst cz
      go_enter Tryz.func162, Tryz.ntmps162
      go_wp2_with (go_at_call 179; ((with_reducible refine (TC.out _ _).mono ?_); rintro e w1 ⟨rfl, rfl⟩))
      go_ret; exact tInt_mk EV.out.symm (Below.refl _ _)
    · have EV : Hid (opS 21 [a, c] = tr true) := Lib.hid (by rw [EE.out]; simp [az, cz]); clear EE; have az1 : (a == 0) = false := (by simpa using az); have az2 : (a != 0) = true := (by simpa using az); clear az; have cz1 : (c == 0) = false := (by simpa using cz); have cz2 : (c != 0) = true := (by simpa using cz); clear cz
      go_enter Tryz.func162, Tryz.ntmps162
      go_wp2_with (go_at_call 179; ((with_reducible refine (TC.out _ _).mono ?_); rintro e w1 ⟨rfl, rfl⟩))
      go_ret; exact tInt_mk EV.out.symm (Below.refl _ _)
theorem drew_below' (W : World) (n : Nat) : Below W.heap.size W (W.drewN n) := drewB (Below.refl _ _)
set_option maxRecDepth 100000 in
set_option maxHeartbeats 2000000 in
theorem operate1 (o a : Int) (b cap : Nat) (w : World) (h : IntsAt w b 0 [a]) (h1 : 0 ≤ a ∧ a ≤ 65535) (ho : o = 4 ∨ o = 5 ∨ o = 6 ∨ o = 25) : Calls Tryz.prog 112 #[.int .i64 o, .slice (some ⟨b, 0, none⟩) 1 cap] w (tInt (opS o [a]) w) := by
  have c0 : w.cell? ⟨b, 0, none⟩ = some (.int .i64 a) := (by simpa using h.cell 0 a rfl); have UC : Hid (Calls Tryz.prog 161 #[.int .i64 o, .int .i64 a] w (tInt (opS o [a]) w)) := Lib.hid (by
    rcases ho with rfl | rfl | rfl | rfl
    · exact un4 a w h1.1 h1.2
    · exact un5 a w h1.1 h1.2
    · exact un6 a w h1.1 h1.2
    · exact un25 a w h1.1 h1.2)
  have e22 : (o == 22) = false := (by rw [beq_eq_false_iff_ne]; omega); have e23 : (o == 23) = false := (by rw [beq_eq_false_iff_ne]; omega); clear h h1 ho; generalize opS o [a] = x at *
  go_enter Tryz.func112, Tryz.ntmps112
  go_wp2_with (go_at_call 161; ((with_reducible refine UC.out.mono ?_); rintro e w1 ⟨rfl, hb⟩; have HB := Lib.hid hb; clear hb))
  go_ret; exact tInt_mk rfl HB.out
set_option maxRecDepth 100000 in
set_option maxHeartbeats 2000000 in
theorem operate2 (o a c : Int) (b cap : Nat) (w : World) (h : IntsAt w b 0 [a, c]) (h1 : 0 ≤ a ∧ a ≤ 65535) (h2 : 0 ≤ c ∧ c ≤ 65535) (ho : 7 ≤ o ∧ o ≤ 21) : Calls Tryz.prog 112 #[.int .i64 o, .slice (some ⟨b, 0, none⟩) 2 cap] w (tInt (opS o [a, c]) w) := by
  have c0 : w.cell? ⟨b, 0, none⟩ = some (.int .i64 a) := (by simpa using h.cell 0 a rfl); have c1 : w.cell? ⟨b, 1, none⟩ = some (.int .i64 c) := (by simpa using h.cell 1 c rfl); have UC : ∀ W, Calls Tryz.prog 162 #[.int .i64 o, .int .i64 a, .int .i64 c] W (tInt (opS o [a, c]) W) := fun W => by
    obtain rfl | rfl | rfl | rfl | rfl | rfl | rfl | rfl | rfl | rfl | rfl | rfl | rfl | rfl | rfl : o = 7 ∨ o = 8 ∨ o = 9 ∨ o = 10 ∨ o = 11 ∨ o = 12 ∨ o = 13 ∨ o = 14 ∨ o = 15 ∨ o = 16 ∨ o = 17 ∨ o = 18 ∨ o = 19 ∨ o = 20 ∨ o = 21 := by omega
    · exact bi7 a c W h1.1 h1.2 h2.1 h2.2
    · exact bi8 a c W h1.1 h1.2 h2.1 h2.2
    · exact bi9 a c W h1.1 h1.2 h2.1 h2.2
    · exact bi10 a c W h1.1 h1.2 h2.1 h2.2
    · exact bi11 a c W h1.1 h1.2 h2.1 h2.2
    · exact bi12 a c W h1.1 h1.2 h2.1 h2.2
    · exact bi13 a c W h1.1 h1.2 h2.1 h2.2
    · exact bi14 a c W h1.1 h1.2 h2.1 h2.2
    · exact bi15 a c W h1.1 h1.2 h2.1 h2.2
    · exact bi16 a c W h1.1 h1.2 h2.1 h2.2
    · exact bi17 a c W h1.1 h1.2 h2.1 h2.2
    · exact bi18 a c W h1.1 h1.2 h2.1 h2.2
    · exact bi19 a c W h1.1 h1.2 h2.1 h2.2
    · exact bi20 a c W h1.1 h1.2 h2.1 h2.2
    · exact bi21 a c W h1.1 h1.2 h2.1 h2.2
  have e22 : (o == 22) = false := (by rw [beq_eq_false_iff_ne]; omega); have e23 : (o == 23) = false := (by rw [beq_eq_false_iff_ne]; omega); clear h h1 h2 ho; generalize opS o [a, c] = x at *
  have k0 := cell_regrown c0; have k1 := cell_regrown c1; have EC := reB (w := w) (v := .int .i64 x) (fun W _ => UC W); clear UC c0 c1
  go_enter Tryz.func112, Tryz.ntmps112
  go_wp2; refine wp_region_quiet_below (by kernel_rfl) (by kernel_rfl) ?_; repeat (first | go_big_quiet_step (exact EC _ _) | quiet_step (exact EC _ _))
  refine wpQuiet_nil ?_; intro w4 hw'; obtain ⟨pq, hw''⟩ := hw'; have HX : Hid (Below w.heap.size w w4) := Lib.hid (by rw [hw'']; exact below_regrown _ _ _); clear hw'' k0 k1 EC; go_wp2; go_ret; exact tInt_mk rfl HX.out
set_option maxRecDepth 100000 in
set_option maxHeartbeats 2000000 in
theorem operate22 (a c d : Int) (b cap : Nat) (w : World) (h : IntsAt w b 0 [a, c, d]) : Calls Tryz.prog 112 #[.int .i64 22, .slice (some ⟨b, 0, none⟩) 3 cap] w (tInt (opS 22 [a, c, d]) w) := by
  have c0 : w.cell? ⟨b, 0, none⟩ = some (.int .i64 a) := (by simpa using h.cell 0 a rfl); have c1 : w.cell? ⟨b, 1, none⟩ = some (.int .i64 c) := (by simpa using h.cell 1 c rfl); have c2 : w.cell? ⟨b, 2, none⟩ = some (.int .i64 d) := (by simpa using h.cell 2 d rfl); have EE : Hid (opS 22 [a, c, d] = if a = 0 then d else c) := Lib.hid (by simp [opS, ix]); clear h; by_cases az : a = 0
  · have EV := EE.out; rw [if_pos az] at EV; have EV := Lib.hid EV; subst az; clear EE
    go_enter Tryz.func112, Tryz.ntmps112
    go_wp2; go_ret; exact tInt_mk EV.out.symm (Below.refl _ _)
  · have EV := EE.out; rw [if_neg az] at EV; have EV := Lib.hid EV; have a2 : (a != 0) = true := (by simpa using az); clear EE az
    go_enter Tryz.func112, Tryz.ntmps112
    go_wp2; go_ret; exact tInt_mk EV.out.symm (Below.refl _ _)
set_option maxRecDepth 100000 in
set_option maxHeartbeats 4000000 in
theorem operate23 (a : Int) (l : List Int) (b cap : Nat) (w : World) (h : IntsAt w b 0 (a :: l)) (hl : l.length ≤ 32) (h2 : l.length % 2 = 0) :
    Calls Tryz.prog 112 #[.int .i64 23, .slice (some ⟨b, 0, none⟩) (l.length + 1) cap] w (tInt (opS 23 (a :: l)) w) := by
  have c0 : w.cell? ⟨b, 0, none⟩ = some (.int .i64 a) := (by simpa using h.cell 0 a rfl); have EE : Hid (opS 23 (a :: l) = tr (insB a l)) := Lib.hid (by simp [opS, ix]); have HI := Lib.hid h; obtain ⟨K, hK⟩ : ∃ K, l.length = K := ⟨_, rfl⟩; have HK := Lib.hid hK; rw [hK] at hl h2 ⊢; clear hK h; have HB0 := Lib.hid (Below.refl w.heap.size w)
  go_enter Tryz.func112, Tryz.ntmps112
  go_wp2; go_loopw [5] (fun i wr => ∃ j : Nat, 2 * j ≤ K ∧ i = .int .i64 ((2 * j + 1 : Nat) : Int) ∧ Hid (insB a l = insB a (l.drop (2 * j))) ∧ Hid (Below w.heap.size w wr)) (fun i _ => K + 1 - (intOf i).toNat)
  case atStart => exact ⟨0, by omega, rfl, Lib.hid rfl, HB0⟩
  case round =>
    obtain ⟨j, hj, rfl, FD, BW⟩ := hrel; have ew : wrap64 (((2 * j + 1 : Nat) : Int) + 1) = ((2 * j + 2 : Nat) : Int) := (by unfold wrap64; omega); have hbl := HI.out.lt; by_cases hlt : 2 * j < K
    · obtain ⟨x, hx0⟩ : ∃ x, l[2 * j]? = some x := ⟨_, List.getElem?_eq_getElem (by rw [HK.out]; omega)⟩; obtain ⟨y, hx1⟩ : ∃ y, l[2 * j + 1]? = some y := ⟨_, List.getElem?_eq_getElem (by rw [HK.out]; omega)⟩; have FK := Lib.hid (ins_drop (n := a) hx0 hx1); have d0 : wr.cell? ⟨b, 0, none⟩ = some (.int .i64 a) := (BW.out.cell (p := ⟨b, 0, none⟩) hbl).trans c0; have d1 : wr.cell? ⟨b, 2 * j + 1, none⟩ = some (.int .i64 x) := by
        rw [BW.out.cell (p := ⟨b, 2 * j + 1, none⟩) hbl]; have := HI.out.cell (2 * j + 1) _ (by simpa using hx0)
        rwa [Nat.zero_add] at this
      have d2 : wr.cell? ⟨b, 2 * j + 2, none⟩ = some (.int .i64 y) := by
        rw [BW.out.cell (p := ⟨b, 2 * j + 2, none⟩) hbl]; have := HI.out.cell (2 * j + 2) _ (by simpa using hx1)
        rwa [Nat.zero_add] at this
      clear c0 hx0 hx1; have i0 : ((2 * j + 1 : Nat) : Int).toNat = 2 * j + 1 := (by omega); have i1 : ((2 * j + 2 : Nat) : Int).toNat = 2 * j + 2 := (by omega); have l0 : ((2 * j + 1 : Nat) : Int) < ((K : Int) + 1) := (by omega); have l1 : ((2 * j + 2 : Nat) : Int) < ((K : Int) + 1) := (by omega); by_cases hin : x ≤ a ∧ a ≤ y
      · have g1 : decide (x ≤ a) = true := decide_eq_true hin.1; have g2 : decide (a ≤ y) = true := decide_eq_true hin.2; have hin1 := hin.1; have hin2 := hin.2; have EV : Hid (opS 23 (a :: l) = 1) := Lib.hid (by rw [EE.out, FD.out, FK.out, g1, g2]; rfl); clear EE FD FK hin; go_wp2; go_quiet (fail)
        go_wp2; go_ret; exact tInt_mk EV.out.symm (BW.out.then_ (drew_below' _ _))
      · have FD2 : Hid (insB a l = insB a (l.drop (2 * (j + 1)))) := Lib.hid (by
          rw [FD.out, FK.out]; have : (decide (x ≤ a) && decide (a ≤ y)) = false := by
            rw [Bool.and_eq_false_iff, decide_eq_false_iff_not, decide_eq_false_iff_not]; omega
          rw [this]; rfl)
        clear FD FK; by_cases g : x ≤ a
        · have g1 : decide (x ≤ a) = true := decide_eq_true g; have g2' : ¬ a ≤ y := (fun q => hin ⟨g, q⟩); have g2 : decide (a ≤ y) = false := decide_eq_false g2'; clear hin; go_wp2; go_quiet (fail)
          go_wp2; go_roundw
          case rel => exact ⟨j + 1, by omega, by go_num, FD2, Lib.hid (BW.out.then_ (drew_below' _ _))⟩
          case measure => simp [intOf]; omega
        · have g1 : decide (x ≤ a) = false := decide_eq_false g; clear hin; go_wp2; go_quiet (fail)
          go_wp2; go_roundw
          case rel => exact ⟨j + 1, by omega, by go_num, FD2, Lib.hid (BW.out.then_ (drew_below' _ _))⟩
          case measure => simp [intOf]; omega
    · have EV : Hid (opS 23 (a :: l) = 0) := Lib.hid (by
        rw [EE.out, FD.out, List.drop_of_length_le (by rw [HK.out]; omega)]; rfl)
      have l0 : ¬ ((2 * j + 2 : Nat) : Int) < ((K : Int) + 1) := (by omega); go_wp2; go_ret; exact tInt_mk EV.out.symm BW.out
theorem operate_any (o : Int) (l : List Int) (b cap : Nat) (w : World) (h : IntsAt w b 0 l) (hw : Wd l) (ht : takesS o l.length = true) (ha : asksB o = false) :
    Calls Tryz.prog 112 #[.int .i64 o, .slice (some ⟨b, 0, none⟩) l.length cap] w (tInt (opS o l) w) := by
  have ho := takes_op ht; by_cases h23 : o = 23
  · subst h23; unfold takesS at ht; simp only [if_true, decide_eq_true_eq] at ht; cases l with
    | nil => simp at ht
    | cons a r =>
      simp only [List.length_cons] at ht; exact operate23 a r b cap w h (by omega) (by omega)
  · unfold takesS at ht; rw [if_neg h23, decide_eq_true_eq] at ht; have h1 : o ≠ 1 ∧ o ≠ 2 ∧ o ≠ 3 ∧ o ≠ 24 := by
      unfold asksB isVr isAr at ha; simp only [Bool.or_eq_false_iff, decide_eq_false_iff_not] at ha; exact ⟨ha.1, ha.2.1, ha.2.2.1, ha.2.2.2⟩
    by_cases h22 : o = 22
    · subst h22; have hl : l.length = 3 := (by rw [show arS 22 = 3 from rfl] at ht; omega); match l, hl with
      | [a, c, d], _ => exact operate22 a c d b cap w h
    · by_cases hu : o = 4 ∨ o = 5 ∨ o = 6 ∨ o = 25
      · have hl : l.length = 1 := by
          have : arS o = 1 := (by rcases hu with rfl | rfl | rfl | rfl <;> rfl); omega
        match l, hl with
        | [a], _ => exact operate1 o a b cap w h (hw a (by simp)) hu
      · have hl : l.length = 2 := by
          have : arS o = 2 := by
            unfold arS; rw [if_neg (by omega), if_neg (by omega), if_neg (by omega), if_neg (by omega), if_pos (by omega)]
          omega
        match l, hl with
        | [a, c], _ => exact operate2 o a c b cap w h (hw a (by simp)) (hw c (by simp)) (by omega)
end Go.Proofs.YtpejflgdehioaaaGreatDoor.ExW
namespace Go.Proofs.YtpejflgdehioaaaGreatDoor.ExW
open Go Go.RowKit Go.«Sort» Go.Proofs.YtpejflgdehioaaaGreatDoor.NumM Go.Proofs.YtpejflgdehioaaaGreatDoor.LexW Go.Proofs.YtpejflgdehioaaaGreatDoor.LexM Go.Proofs.YtpejflgdehioaaaGreatDoor.ExM
theorem ints_own {W : World} {B : Nat} {v : Value} {l : List Int} (h : W.ownsRow B 3 1 v l.length (l.map (Value.int .i64))) : IntsV W v l := by
  obtain ⟨_, ⟨hv, hn⟩ | ⟨g, cap, cur, hv, hB, hg, hle, _, _, htake⟩⟩ := h
  · exact ⟨none, 0, by rw [hv, hn], by omega, fun x => by omega⟩
  · refine ⟨some ⟨g, 0, none⟩, cap, hv, hle, fun _ => ⟨g, rfl, (Array.getElem?_eq_some_iff.1 hg).1, fun i s hi => ?_⟩⟩; rw [cell_of_row W g _ cur 3 (0, 0) hg, Nat.zero_add]; have hl := (List.getElem?_eq_some_iff.1 hi).1; have : (cur.toList.take (l.length * 1))[i]? = some (.int .i64 s) := (by rw [htake, List.getElem?_map, hi]; rfl); rw [List.getElem?_take, if_pos (by omega)] at this
    simpa using this
theorem infoInt : (Tryz.prog.info? 3).map (fun i => (i.zero, i.size, i.bytes)) = some (some (.int .i64 0), 1, 8) := by kernel_rfl
theorem kids33' {lv : Nat} {o n : Int} {s : ByteArray} {k : Nat} (h : fltS ⟨lv, o, n, s, k⟩ = 0) : k ≤ 33 := by
  have ht := flt_takes h; have ho := takes_op ht; unfold takesS at ht; split at ht
  · simp at ht; omega
  · rw [decide_eq_true_eq] at ht; have : arS o ≤ 3 := (by unfold arS; repeat' split <;> omega); omega
theorem takes_pos {o : Int} {k : Nat} (h : takesS o k = true) (ha : asksB o = false) : 0 < k := by
  have ho := takes_op h; obtain ⟨h1, h2, h3, h4⟩ := asks_no ha; unfold takesS at h; split at h
  · simp at h; omega
  · rw [decide_eq_true_eq] at h; have : 1 ≤ arS o := by
      unfold arS; rw [if_neg (by omega)]; repeat' split <;> omega
    omega
def leafS (env : Env) (o n : Int) (s : ByteArray) (l : List Int) : Int × Int := if knwS env o s = true then (valS env o n s l, 0) else (0, 7)
theorem leafS_yes {env : Env} {o n : Int} {s : ByteArray} {l : List Int} (h : knwS env o s = true) : leafS env o n s l = (valS env o n s l, 0) := if_pos h
theorem leafS_no {env : Env} {o n : Int} {s : ByteArray} {l : List Int} (h : knwS env o s = false) : leafS env o n s l = (0, 7) := if_neg (by rw [h]; simp)
set_option maxRecDepth 100000 in
set_option maxHeartbeats 4000000 in
theorem leaf_any (env : Env) (ev : Value) (o n : Int) (s : ByteArray) (p : Option Addr) (cap : Nat) (va : Value) (l : List Int) (w : World) (hE : SigsAt w ev env) (hr : ∀ x ∈ env, -9223372036854775808 ≤ x.2 ∧ x.2 ≤ 9223372036854775807) (hI : IntsV w va l) (hw : Wd l) (hf : fltS ⟨0, o, n, s, l.length⟩ = 0) (ha : asksB o = true) :
    Calls Tryz.prog 111 #[xv o n s (.slice p l.length cap), ev, va] w (tEv (leafS env o n s l) w) := by
  obtain ⟨K, hK⟩ : ∃ K, l.length = K := ⟨_, rfl⟩; have ht := flt_takes hf; have HB0 : Hid (Below w.heap.size w (w.alloc (.cells #[.int .i64 o, .int .i64 n, .string s, .slice p K cap] 43))) := Lib.hid ((Below.refl _ _).alloc (Nat.le_refl _) _); have four := Four.new w (.int .i64 o) (.int .i64 n) (.string s) (.slice p K cap) 43; have c0 := four.c0; have c1 := four.c1; have c2 := four.c2; have hE1 := hE.later HB0.out; have ho : o = 1 ∨ o = 2 ∨ o = 3 ∨ o = 24 := by
    unfold asksB isVr isAr at ha
    simpa using ha
  by_cases h1 : o = 1
  · subst h1; have EE : Hid (leafS env 1 n s l = (n, 0)) := Lib.hid rfl; rw [hK]; clear hE hI hf ht ho hw hr hE1 four ha hK
    go_enter Tryz.func111, Tryz.ntmps111
    go_wp2; go_ret2; exact tEv_mk EE.out HB0.out
  by_cases h2 : o = 2
  · subst h2; have FC := Lib.hid (find_any env ev s _ hE1 hr); have KE : knwS env 2 s = hasN env s := rfl; have VE : valS env 2 n s l = fnd env s := rfl; rw [hK]; cases hh : hasN env s
    · have EE : Hid (leafS env 2 n s l = (0, 7)) := Lib.hid (leafS_no (by rw [KE, hh])); have FC2 := FC.out; rw [hh] at FC2; have FC2 := Lib.hid FC2; clear hE hI hf ht ho hw hr hE1 four ha h1 hK FC KE VE hh; generalize fnd env s = x at *
      go_enter Tryz.func111, Tryz.ntmps111
      go_wp2_with (go_at_call 158; ((with_reducible refine FC2.out.mono ?_); rintro e w1 ⟨rfl, rfl⟩))
      go_ret2; exact tEv_mk EE.out HB0.out
    · have EE : Hid (leafS env 2 n s l = (fnd env s, 0)) := Lib.hid (by rw [leafS_yes (by rw [KE, hh]), VE]); have FC2 := FC.out; rw [hh] at FC2; have FC2 := Lib.hid FC2; clear hE hI hf ht ho hw hr hE1 four ha h1 hK FC KE VE hh; generalize fnd env s = x at *
      go_enter Tryz.func111, Tryz.ntmps111
      go_wp2_with (go_at_call 158; ((with_reducible refine FC2.out.mono ?_); rintro e w1 ⟨rfl, rfl⟩))
      go_ret2; exact tEv_mk EE.out HB0.out
  have h34 : o = 3 ∨ o = 24 := (by omega); have hs := flt_name hf h34; have E0 : Hid (Calls Tryz.prog 62 #[.string s, .int .i64 0] (w.alloc (.cells #[.int .i64 o, .int .i64 n, .string s, .slice p K cap] 43)) fun e w' => e = .returned (.string (elmN s 0)) ∧ (w.alloc (.cells #[.int .i64 o, .int .i64 n, .string s, .slice p K cap] 43)) = w') := Lib.hid (elementR_any s 0 (by omega) hs _); have FC := Lib.hid (find_any env ev (elmN s 0) _ hE1 hr); have KE : knwS env o s = hasN env (elmN s 0) := (by unfold knwS; rw [if_neg h2, if_pos h34]); have e1 : (o == 1) = false := (by rw [beq_eq_false_iff_ne]; exact h1); have e2 : (o == 2) = false := (by rw [beq_eq_false_iff_ne]; exact h2); rw [hK]; cases hh : hasN env (elmN s 0)
  · have EE : Hid (leafS env o n s l = (0, 7)) := Lib.hid (leafS_no (by rw [KE, hh])); have FC2 := FC.out; rw [hh] at FC2; have FC2 := Lib.hid FC2; clear hE hI hf ht ho hw hr hE1 four ha h1 h2 hK FC KE hh h34 hs; generalize fnd env (elmN s 0) = x at *
    generalize elmN s 0 = en at *
    go_enter Tryz.func111, Tryz.ntmps111
    go_wp2_with (first
      | (go_at_call 62; ((with_reducible refine E0.out.mono ?_); rintro e w1 ⟨rfl, rfl⟩))
      | (go_at_call 158; ((with_reducible refine FC2.out.mono ?_); rintro e w1 ⟨rfl, rfl⟩)))
    go_ret2; exact tEv_mk EE.out HB0.out
  · have FC2 := FC.out; rw [hh] at FC2; have FC2 := Lib.hid FC2; by_cases h3 : o = 3
    · subst h3; obtain rfl : K = 1 := by
        rw [hK] at ht; unfold takesS at ht; rw [if_neg (by decide), decide_eq_true_eq, show arS 3 = 1 from rfl] at ht; omega
      match l, hK with
      | [a], _ =>
        have hra := hw a (by simp); obtain ⟨q, cp, rfl, hcp, hq⟩ := hI; obtain ⟨g, rfl, hg⟩ := hq (by simp); have hgb := (hg.later HB0.out); have g0 : (w.alloc (.cells #[.int .i64 3, .int .i64 n, .string s, .slice p 1 cap] 43)).cell? ⟨g, 0, none⟩ = some (.int .i64 a) := (by simpa using hgb.cell 0 a rfl); have EE : Hid (leafS env 3 n s [a] = (elS env s a, 0)) := Lib.hid (by rw [leafS_yes (by rw [KE, hh])]; rfl); have ECs : ∀ i, Calls Tryz.prog 159 #[ev, .string s, .int .i64 a] ((w.alloc (.cells #[.int .i64 3, .int .i64 n, .string s, .slice p 1 cap] 43)).drewN i) fun e w' => e = .returned (.int .i64 (elS env s a)) ∧ ((w.alloc (.cells #[.int .i64 3, .int .i64 n, .string s, .slice p 1 cap] 43)).drewN i) = w' := fun i => elR_any env ev s a _ (hE1.later (drew_below _ _)) hr hs hra.1
        have ECs := Lib.hid ECs; clear hE hf ht ho hw hr hE1 four ha h1 h2 FC KE hh h34 hs hra hq hg hgb; generalize fnd env (elmN s 0) = x at *
        generalize elmN s 0 = en at *
        generalize elS env s a = y at *
        go_enter Tryz.func111, Tryz.ntmps111
        go_wp2_with (first
          | (go_at_call 62; ((with_reducible refine E0.out.mono ?_); rintro e w1 ⟨rfl, rfl⟩))
          | (go_at_call 158; ((with_reducible refine FC2.out.mono ?_); rintro e w1 ⟨rfl, rfl⟩)))
        go_quiet ((go_at_call 159; first | exact quietL (ECs.out _) | exact quietA (ECs.out _)))
        go_wp2; go_ret2; exact tEv_mk EE.out (HB0.out.then_ (drew_below _ _))
    · obtain rfl : o = 24 := (by omega); have EE : Hid (leafS env 24 n s l = (sumK env s 8, 0)) := Lib.hid (by rw [leafS_yes (by rw [KE, hh])]; rfl); have EC : Hid (∀ k : Nat, Calls Tryz.prog 159 #[ev, .string s, .int .i64 (k : Int)] (w.alloc (.cells #[.int .i64 24, .int .i64 n, .string s, .slice p K cap] 43)) fun e w' => e = .returned (.int .i64 (elS env s (k : Int))) ∧ (w.alloc (.cells #[.int .i64 24, .int .i64 n, .string s, .slice p K cap] 43)) = w') := (Lib.hid fun k => elR_any env ev s k _ hE1 hr hs (by omega)); clear hE hf ht ho hw hr hE1 four ha h1 h2 FC KE hh h34 hs h3 hI hK; generalize fnd env (elmN s 0) = x at *
      generalize elmN s 0 = en at *
      go_enter Tryz.func111, Tryz.ntmps111
      go_wp2_with (first
        | (go_at_call 62; ((with_reducible refine E0.out.mono ?_); rintro e w1 ⟨rfl, rfl⟩))
        | (go_at_call 158; ((with_reducible refine FC2.out.mono ?_); rintro e w1 ⟨rfl, rfl⟩)))
      go_loop [12, 13] (fun t i => ∃ k : Nat, k ≤ 8 ∧ i = .int .i64 k ∧ t = .int .i64 (sumK env s k)) (fun _ i => 8 - (intOf i).toNat)
      case atStart => exact ⟨0, by omega, rfl, rfl⟩
      case round =>
        obtain ⟨k, hk, rfl, rfl⟩ := hrel; by_cases hlt : k < 8
        · have SE := Lib.hid (addS_eq env s k); have r1 := sumK_range env s k; have r2 := elS_range env s (k : Int); have ECk := Lib.hid (EC.out k); generalize elS env s (k : Int) = y at *
          have AC : Hid (∀ W, Calls Tryz.prog 160 #[.int .i64 (sumK env s k), .int .i64 y] W fun e w' => e = .returned (.int .i64 ((sumK env s k + y) % 65536)) ∧ W = w') := (Lib.hid fun W => WordW.refAdd _ _ W (by omega) (by omega) (by omega) (by omega)); generalize sumK env s k = t at *
          have hlt' : (k : Int) < 8 := (by omega); clear r1 r2; go_wp2_with (first
            | (go_at_call 159; ((with_reducible refine ECk.out.mono ?_); rintro e w1 ⟨rfl, rfl⟩))
            | (go_at_call 160; ((with_reducible refine (AC.out _).mono ?_); rintro e w1 ⟨rfl, rfl⟩)))
          go_round
          case rel => exact ⟨k + 1, by omega, by go_num, by rw [SE.out]⟩
          case measure => simp [intOf]; omega
        · obtain rfl : k = 8 := (by omega); go_wp2; go_ret2; exact tEv_mk EE.out HB0.out
theorem ints_block {w : World} {base : Nat} {e : TypeId} {size n : Nat} {v : Value} {xs : List Value} (h : w.ownsRow base e size v n xs) : ∀ k, v.ownBlock = some k → base ≤ k := by
  intro k hk; rcases h.2 with ⟨rfl, _⟩ | ⟨g, cap, cur, rfl, hB, _⟩
  · simp [Value.ownBlock] at hk
  · obtain rfl : g = k := (by simpa [Value.ownBlock] using hk); exact hB
theorem evs_take {env : Env} {ks : List Ex} {k : Nat} {a : Ex} (h : ks[k]? = some a) : evs env (ks.take (k + 1)) = evs env (ks.take k) ++ [ExM.ev env a] := by
  obtain ⟨hk, he⟩ := List.getElem?_eq_some_iff.1 h; rw [evs_map, evs_map, List.take_succ_eq_append_getElem hk, List.map_append, he]; rfl
theorem kns_false {env : Env} {ks : List Ex} {k : Nat} {a : Ex} (h : ks[k]? = some a) (g : kn env a = false) : kns env ks = false := by
  rw [kns_all]; cases hc : ks.all (kn env)
  · rfl
  · have := List.all_eq_true.1 hc a (List.mem_of_getElem? h); rw [g] at this; cases this
def valR (env : Env) (e : Ex) : Int × Int := if kn env e = true then (ExM.ev env e, 0) else (0, 7)
theorem valR_yes {env : Env} {e : Ex} (h : kn env e = true) : valR env e = (ExM.ev env e, 0) := if_pos h
theorem valR_no {env : Env} {e : Ex} (h : kn env e = false) : valR env e = (0, 7) := if_neg (by rw [h]; simp)
set_option maxRecDepth 100000 in
set_option maxHeartbeats 8000000 in
theorem valueR_any (env : Env) (ev : Value) (hr : ∀ x ∈ env, -9223372036854775808 ≤ x.2 ∧ x.2 ≤ 9223372036854775807) (e : Ex) :
    ∀ (N : Nat) (w : World) (v : Value), ExAt N w v e → N ≤ w.heap.size → Ok e → SigsAt w ev env → Calls Tryz.prog 64 #[v, ev] w (tEv (valR env e) w) := by
  induction e using Ex.ind with
  | h o num s ks ih =>
    intro N w v hx hN hok hE; obtain ⟨p, cap, pl, cl, rfl, hs, ha⟩ := hx.form; simp only [Ex.op, Ex.n, Ex.nm, Ex.args] at hs ha ⊢; rw [ok_mk] at hok; have hK33 : ks.length ≤ 33 := kids33' hok.1; obtain ⟨i0, hi, hz0, hz1, hz2⟩ := info_parts infoInt; obtain ⟨K, hK⟩ : ∃ K, ks.length = K := ⟨_, rfl⟩; have HK := Lib.hid hK; rw [hK] at hK33 ⊢; clear hK; have four := Four.new w (.int .i64 o) (.int .i64 num) (.string s) (.slice p K cap) 43; have c3 := four.c3; have HF := Lib.hid four; have HB0 : Hid (Below w.heap.size w (w.alloc (.cells #[.int .i64 o, .int .i64 num, .string s, .slice p K cap] 43))) := Lib.hid ((Below.refl _ _).alloc (Nat.le_refl _) _); have HA := Lib.hid ha; have HIH := Lib.hid ih; have HOK := Lib.hid hok; have HE := Lib.hid hE; have HO0 : Hid ((w.alloc (.cells #[.int .i64 o, .int .i64 num, .string s, .slice p K cap] 43)).ownsRow (w.heap.size + 1) 3 1 (.slice none 0 0) 0 ((evs env (ks.take 0)).map (Value.int .i64))) := Lib.hid (by
      rw [List.take_zero, evs_map]; exact World.ownsRow_nil _ _ _ _)
    clear four ha ih hok hx hE
    go_enter Tryz.func64, Tryz.ntmps64
    go_wp2; go_loopw [6, 7] (fun vo i wr => ∃ j : Nat, j ≤ K ∧ i = .int .i64 j ∧ Hid (wr.ownsRow (w.heap.size + 1) 3 1 vo j ((evs env (ks.take j)).map (Value.int .i64))) ∧ Hid (kns env (ks.take j) = true) ∧ Hid (Below w.heap.size w wr) ∧ Hid (Four wr w.heap.size (.int .i64 o) (.int .i64 num) (.string s) (.slice p K cap))) (fun _ i _ => K - (intOf i).toNat)
    case atStart => exact ⟨0, Nat.zero_le _, rfl, HO0, Lib.hid (by rw [List.take_zero, kns_all]; rfl), HB0, HF⟩
    case round =>
      obtain ⟨j, hj, rfl, OW, KN, BW, FW⟩ := hrel; clear c3; have d3 := FW.out.c3; by_cases hlt : j < K
      · obtain ⟨b, off, rfl, hbs, hcell⟩ := HA.out.hp (by rw [HK.out]; omega); obtain ⟨a, hak⟩ : ∃ a, ks[j]? = some a := ⟨_, List.getElem?_eq_getElem (by rw [HK.out]; exact hlt)⟩; obtain ⟨q0, q1, q2, q3⟩ := hcell j a hak; have hbw : Below N w wr := BW.out.mono hN; have ca0 : wr.cell? ⟨b, off + j * 4, none⟩ = some (.int .i64 a.op) := (by rw [hbw.cell hbs]; exact q0); have ca1 : wr.cell? ⟨b, off + j * 4 + 1, none⟩ = some (.int .i64 a.n) := (by rw [hbw.cell hbs]; exact q1); have ca2 : wr.cell? ⟨b, off + j * 4 + 2, none⟩ = some (.string a.nm) := (by rw [hbw.cell hbs]; exact q2); have ca3 : wr.cell? ⟨b, off + j * 4 + 3, none⟩ = some (.slice (pl j) a.args.length (cl j)) := (by rw [hbw.cell hbs]; exact q3); have hxa := HA.out.hx j a hak; have VC := HIH.out a (List.mem_of_getElem? hak) N wr _ (hxa.under hbw) (by have := BW.out.size; omega) (HOK.out.2 a (List.mem_of_getElem? hak)) (HE.out.later BW.out); have ET := Lib.hid (evs_take (env := env) hak); have KT := Lib.hid (kns_take (env := env) hak); have KF := Lib.hid (fun g => kns_false (env := env) hak g); obtain ⟨ao, hao⟩ : ∃ x, a.op = x := ⟨_, rfl⟩; obtain ⟨an, han⟩ : ∃ x, a.n = x := ⟨_, rfl⟩; obtain ⟨am, ham⟩ : ∃ x, a.nm = x := ⟨_, rfl⟩; obtain ⟨ak, hka⟩ : ∃ x, a.args.length = x := ⟨_, rfl⟩; obtain ⟨ap, hap⟩ : ∃ x, pl j = x := ⟨_, rfl⟩; obtain ⟨ac, hac⟩ : ∃ x, cl j = x := ⟨_, rfl⟩; rw [hao] at ca0 VC; rw [han] at ca1 VC; rw [ham] at ca2 VC; rw [hka, hap, hac] at ca3 VC; clear hcell q0 q1 q2 q3 hbw hxa hak hao han ham hka hap hac; cases hk : kn env a
        · rw [valR_no hk] at VC; have VC2 := Lib.hid VC; have EE : Hid (valR env (.mk o num s ks) = (0, 7)) := Lib.hid (valR_no (by rw [kn_mk, KF.out hk]; rfl)); clear VC hk ET KT KF; go_wp2_with (go_at_call 64; ((with_reducible refine VC2.out.mono ?_); rintro e w5 ⟨rfl, hb⟩; have HB5 := Lib.hid (BW.out.then_ hb); clear hb))
          go_ret2; exact tEv_mk EE.out HB5.out
        · rw [valR_yes hk] at VC; have VC2 := Lib.hid VC; have KN2 : Hid (kns env (ks.take (j + 1)) = true) := Lib.hid (by rw [KT.out, KN.out, hk]; rfl); clear VC hk KT KF; generalize ExM.ev env a = va at *
          go_wp2_with (first
            | (go_at_call 64; ((with_reducible refine VC2.out.mono ?_); rintro e w5 ⟨rfl, hb⟩; have OW5 := Lib.hid (row_later OW.out hb); have HF5 := Lib.hid (FW.out.stay hb); have HB5 := Lib.hid (BW.out.then_ hb); clear hb))
            | (at_builtin; go_must (refine wpList_append_own _ rfl _ _ 50 rfl (w.heap.size + 1) 3 i0 (.int .i64 0) 1 8 Tryz.underlying50 hi hz0 hz1 hz2 rfl (by decide) _ j _ rfl (OW5.out.alloc _) ⟨w5.heap.size, 0, none⟩ 1 1 [.int .i64 va] rfl rfl (cell_one_new _ _ _) (by simp [Value.oneCell']) (by unfold maxLen; omega) (by omega) (by have := HB5.out.size; have := HF5.out.lt; simp; omega) ?_; intro v' w6 hown' hgrow _; have HO6 := Lib.hid hown'; have HG6 := Lib.hid hgrow; clear hown' hgrow)))
          have hlo := HF5.out.lt; have hbk := ints_block OW5.out; have B6 : Hid (Below w.heap.size w w6) := Lib.hid ((HB5.out.then_ ((Below.refl _ _).alloc (Nat.le_refl _) _)).grown HG6.out (by have := HB5.out.size; simp; omega) (fun k e => by have := hbk k e; omega)); have F6 := Lib.hid (four_grown (HF5.out.alloc _) HG6.out (fun e => by have := hbk _ e.symm; omega)); clear hlo hbk; go_roundw
          case rel => exact ⟨j + 1, by omega, by go_num, Lib.hid (by rw [ET.out, List.map_append]; exact HO6.out), KN2, B6, F6⟩
          case measure => simp [intOf]; omega
      · have hjK : ks.take j = ks := List.take_of_length_le (by rw [HK.out]; omega); have hlen : (evs env ks).length = K := (by rw [evs_len]; exact HK.out); have hjl : j = (evs env ks).length := (by omega); have OW2 := OW.out; rw [hjK, hjl] at OW2; have hIV := ints_own OW2; have hwd := evs_range env ks HOK.out.2; have hft : fltS ⟨0, o, num, s, (evs env ks).length⟩ = 0 := (by rw [hlen, ← HK.out]; exact HOK.out.1); have KE : Hid (kns env ks = true) := Lib.hid (by have := KN.out; rw [hjK] at this; exact this); have EV := Lib.hid (ev_mk env o num s ks); have EK : Hid (kn env (.mk o num s ks) = knwS env o s) := Lib.hid (by rw [kn_mk, KE.out]; rfl); have F2 := FW.out; have g0 := F2.c0; have g1 := F2.c1; have g2 := F2.c2; have AC : Hid (∀ W, Calls Tryz.prog 110 #[.int .i64 o] W fun e w' => e = .returned (.bool (asksB o)) ∧ W = w') := (Lib.hid fun W => asks_any o W); cases hq : asksB o
        · have ht := flt_takes hft; obtain ⟨hv1, hv2⟩ := valS_comp (env := env) (n := num) (s := s) (l := evs env ks) hq; have EE : Hid (valR env (.mk o num s ks) = (opS o (evs env ks), 0)) := Lib.hid (by rw [valR_yes (by rw [EK.out, hv2]), EV.out, hv1]); obtain ⟨q, cp, rfl, hcp, hg⟩ := hIV; have hpos : 0 < (evs env ks).length := takes_pos ht hq; obtain ⟨g, rfl, hgi⟩ := hg hpos; have OC := operate_any o (evs env ks) g cp wr hgi hwd ht hq; rw [hq] at AC; rw [hlen] at OC ⊢; have OC := Lib.hid OC; clear hv1 hv2 hg hgi hpos hcp ht hft hwd hjl hjK hlen OW2 hq F2; generalize opS o (evs env ks) = x at *
          go_wp2_with (first
            | (go_at_call 110; ((with_reducible refine (AC.out _).mono ?_); rintro e w5 ⟨rfl, rfl⟩))
            | (go_at_call 112; ((with_reducible refine OC.out.mono ?_); rintro e w5 ⟨rfl, hb⟩; have HB5 := Lib.hid (BW.out.then_ hb); clear hb)))
          go_ret2; exact tEv_mk EE.out HB5.out
        · have LC := leaf_any env ev o num s p cap _ (evs env ks) wr (HE.out.later BW.out) hr hIV hwd hft hq; have EE : Hid (valR env (.mk o num s ks) = leafS env o num s (evs env ks)) := Lib.hid (by unfold valR leafS; rw [EK.out, EV.out]); rw [hq] at AC; rw [hlen] at LC; have LC := Lib.hid LC; clear hIV hft hwd hjl hjK hlen OW2 hq F2; generalize leafS env o num s (evs env ks) = r at *
          obtain ⟨r1, r2⟩ := r; go_wp2_with (first
            | (go_at_call 110; ((with_reducible refine (AC.out _).mono ?_); rintro e w5 ⟨rfl, rfl⟩))
            | (go_at_call 111; ((with_reducible refine LC.out.mono ?_); rintro e w5 ⟨rfl, hb⟩; have HB5 := Lib.hid (BW.out.then_ hb); clear hb)))
          go_ret2; exact tEv_mk EE.out HB5.out
end Go.Proofs.YtpejflgdehioaaaGreatDoor.ExW
namespace Go.Proofs.YtpejflgdehioaaaGreatDoor.ExW
open Go Go.RowKit Go.«Sort» Go.Proofs.YtpejflgdehioaaaGreatDoor.NumM Go.Proofs.YtpejflgdehioaaaGreatDoor.LexW Go.Proofs.YtpejflgdehioaaaGreatDoor.LexM Go.Proofs.YtpejflgdehioaaaGreatDoor.ExM
theorem evalS_ok {env : Env} {e : Ex} (h : vld e = 0) : evalS env e = valR env e := by unfold evalS valR; rw [if_pos h]
theorem evalS_bad {env : Env} {e : Ex} (h : vld e ≠ 0) : evalS env e = (0, 1) := by unfold evalS; rw [if_neg h]
set_option maxRecDepth 100000 in
set_option maxHeartbeats 4000000 in
theorem evalR_any (env : Env) (sv v : Value) (e : Ex) (w : World) (hx : ExAt w.heap.size w v e) (hE : SigsAt w sv env) (hr : ∀ x ∈ env, -9223372036854775808 ≤ x.2 ∧ x.2 ≤ 9223372036854775807) (hsz : sz e ≤ 10000) :
    Calls Tryz.prog 33 #[v, sv] w (tEv (evalS env e) w) := by
  obtain ⟨p, cap, pl, cl, rfl, hs, _⟩ := hx.form; have hb1 : Below w.heap.size w (w.alloc (.cells #[.int .i64 e.op, .int .i64 e.n, .string e.nm, .slice p e.args.length cap] 43)) := (Below.refl _ _).alloc (Nat.le_refl _) _; have HB1 := Lib.hid hb1; have four := Four.new w (.int .i64 e.op) (.int .i64 e.n) (.string e.nm) (.slice p e.args.length cap) 43; have c0 := four.c0; have c1 := four.c1; have c2 := four.c2; have c3 := four.c3; have HF := Lib.hid four; have VC := Lib.hid (validR_any e _ _ (hx.later hb1) hsz); by_cases hv : vld e = 0
  · have AC : Hid (∀ W, Below w.heap.size w W → Calls Tryz.prog 64 #[xv e.op e.n e.nm (.slice p e.args.length cap), sv] W (tEv (valR env e) W)) := (Lib.hid fun W hW => valueR_any env sv hr e _ W _ (hx.under hW) hW.size ((vld_zero e).1 hv).1 (hE.later hW)); have EE := Lib.hid (evalS_ok (env := env) hv); have VC2 := VC.out; rw [hv] at VC2; have VC2 := Lib.hid VC2; rw [EE.out]; clear hx hs hb1 four hE hr hsz VC hv; generalize valR env e = r at *
    obtain ⟨r1, r2⟩ := r; generalize e.op = o at *
    generalize e.n = n at *
    generalize e.nm = s at *
    generalize e.args.length = K at *
    go_enter Tryz.func33, Tryz.ntmps33
    go_wp2_with (first
      | (go_at_call 51; ((with_reducible refine VC2.out.mono ?_); rintro e w5 ⟨rfl, hb⟩; have f5 := HF.out.stay hb; clear c0 c1 c2 c3; have c0 := f5.c0; have c1 := f5.c1; have c2 := f5.c2; have c3 := f5.c3; have HB5 := Lib.hid (HB1.out.then_ hb); clear hb f5))
      | (go_at_call 64; ((with_reducible refine (AC.out _ HB5.out).mono ?_); rintro e w6 ⟨rfl, hb⟩; have HB6 := Lib.hid (HB5.out.then_ hb); clear hb)))
    go_ret2; exact tEv_mk rfl HB6.out
  · have EE := Lib.hid (evalS_bad (env := env) hv); have hv1 : (vld e != 0) = true := (by rw [bne_iff_ne]; exact hv); clear hx hs hb1 four hE hr hsz hv; generalize vld e = f at *
    generalize e.op = o at *
    generalize e.n = n at *
    generalize e.nm = s at *
    generalize e.args.length = K at *
    go_enter Tryz.func33, Tryz.ntmps33
    go_wp2_with (go_at_call 51; ((with_reducible refine VC.out.mono ?_); rintro e w5 ⟨rfl, hb⟩; have HB5 := Lib.hid (HB1.out.then_ hb); clear hb))
    go_ret2; exact tEv_mk EE.out HB5.out
end Go.Proofs.YtpejflgdehioaaaGreatDoor.ExW
namespace Go.Proofs.YtpejflgdehioaaaGreatDoor.ItW
open Go Go.RowKit Go.Shelf Go.Proofs.YtpejflgdehioaaaGreatDoor.LexW Go.Proofs.YtpejflgdehioaaaGreatDoor.LexM Go.Proofs.YtpejflgdehioaaaGreatDoor.ExM Go.Proofs.YtpejflgdehioaaaGreatDoor.ExW Go.Proofs.YtpejflgdehioaaaGreatDoor.ItM
open Go.Proofs.YtpejflgdehioaaaGreatDoor.ClM (Fld firstE firstE_zero)
attribute [local go_sem] Oper.semAt_some
theorem HeldG.step {B lb X Y n₁ B0 : Nat} {l : List ByteArray} {W : World} {s : ByteArray} {v v' : Value} {w2 : World} (hv1 : Boxed W lb 27 v) (hrow1 : W.ownsRow B 9 1 v l.length (l.map Value.string)) (hgap : ∀ b, v.ownBlock = some b → b < X ∨ Y ≤ b) (hlB : lb < X) (hBl : B ≤ lb) (hn1 : lb < n₁) (hX : X ≤ Y) (hY : Y ≤ W.heap.size)
    (hown' : w2.ownsRow B 9 1 v' (l.length + 1) (l.map Value.string ++ [.string s])) (hgrow : (W.alloc (.cells #[.string s] 9)).grownBy w2 v.ownBlock) (hnew : v'.ownBlock = v.ownBlock ∨ v'.ownBlock = some (W.alloc (.cells #[.string s] 9)).heap.size) :
    ∃ g' cap', v' = .slice (some ⟨g', 0, none⟩) (l.length + 1) cap' ∧ w2.cell? ⟨lb, 0, none⟩ = some v ∧ w2.frozen? ⟨lb, 0, none⟩ = false ∧ HeldG B lb X Y (l ++ [s]) (w2.setCell ⟨lb, 0, none⟩ v') ∧ Kept5 B X Y n₁ B0 W (w2.setCell ⟨lb, 0, none⟩ v') := by
  obtain ⟨g', cap', rfl⟩ := ownsRow_succ hown'; obtain ⟨hv2, hv3, hr2, hk2, hb2⟩ := hv1.appended (by decide) hrow1 (by omega) (by omega) hown' hgrow; have hsa : (W.alloc (.cells #[.string s] 9)).heap.size = W.heap.size + 1 := (by simp); refine ⟨g', cap', rfl, hv2.cell, hv2.frozen, ⟨⟨_, hv3, by rw [List.length_append, List.map_append]; exact hr2, fun b eb => ?_⟩⟩, ?_, hk2.from _, hb2, fun b h1 h2 => ?_⟩
  · rcases hnew with h | h
    · rw [h] at eb; exact hgap b eb
    · rw [h] at eb; cases eb; right; omega
  · exact ((KeepC.of_below (ba _ _)).trans (KeepC.grown hgrow fun b eb => by obtain ⟨q1, q2⟩ := own_notOk hrow1 _ b eb; exact ⟨q1, .inr q2⟩)).set (by omega) hn1 _
  · rw [Below.heap_setCell _ _ _ _ (by show b ≠ lb; omega)]; refine (hgrow.block b (by omega) (fun e => by rcases hgap b e.symm with h | h <;> omega)).trans ?_; exact Below.heap_alloc W _ b (by omega)
end Go.Proofs.YtpejflgdehioaaaGreatDoor.ItW
