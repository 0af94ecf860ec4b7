/-
  What CRC, its reference, and the statements' undo return.
-/
import Derived.Test.YtejmhhijmglopaaHashWalks
namespace Go.Proofs.Ytejmhhijmglopaa.HashW
open Go Go.RowKit Go.Proofs.Ytejmhhijmglopaa.HashM

theorem undoCode (y : UInt64) (w : World) :
    Calls Try.prog 26 #[.int .u64 (V y)] w fun e w' => e = .returned (.int .u64 (V (undo y))) ∧ w = w' := by
  have i1 := invCode 0x94d049bb133111eb w
  have i2 := invCode 0xbf58476d1ce4e5b9 w
  have m1 := mulV (ust y 31 2) (nst 0x94d049bb133111eb 6)
  have m2 := mulV (ust (ust y 31 2 * nst 0x94d049bb133111eb 6) 27 2) (nst 0xbf58476d1ce4e5b9 6)
  rw [show V 0x94d049bb133111eb = 10723151780598845931 from rfl] at i1
  rw [show V 0xbf58476d1ce4e5b9 = 13787848793156543929 from rfl] at i2
  have I1 := Lib.hid i1
  have I2 := Lib.hid i2
  have e : V (undo y) = V (ust (ust (ust y 31 2 * nst 0x94d049bb133111eb 6) 27 2 * nst 0xbf58476d1ce4e5b9 6) 30 2) := rfl
  rw [e]
  clear i1 i2 e
  go_enter Try.func26, Try.ntmps26
  go_wp2_with (first
    | (go_at_call 32; ((with_reducible refine (uns31 _ _).mono ?_); rintro e w' ⟨rfl, rfl⟩))
    | (go_at_call 32; ((with_reducible refine (uns27 _ _).mono ?_); rintro e w' ⟨rfl, rfl⟩))
    | (go_at_call 32; ((with_reducible refine (uns30 _ _).mono ?_); rintro e w' ⟨rfl, rfl⟩))
    | (go_at_call 27; ((with_reducible refine I1.out.mono ?_); rintro e w' ⟨rfl, rfl⟩))
    | (go_at_call 27; ((with_reducible refine I2.out.mono ?_); rintro e w' ⟨rfl, rfl⟩)))
  go_ret
  exact ⟨rfl, rfl⟩

/-! ### CRC -/
theorem xorV32 (a b : UInt32) : bits .xor .u32 (V32 a) (V32 b) = V32 (a ^^^ b) := by
  unfold V32
  rw [u32_xor_nat _ _ (UInt32.toNat_lt a) (UInt32.toNat_lt b), UInt32.toNat_xor]
theorem byteV32 (c : UInt8) : (c.toNat : Int) % 4294967296 = V32 c.toUInt32 := by
  unfold V32
  rw [UInt8.toNat_toUInt32]
  have := UInt8.toNat_lt c
  omega
theorem shr1 (c : UInt32) : V32 c / (2 : Int) = V32 (c >>> 1) := by
  unfold V32
  rw [UInt32.toNat_shiftRight, show (1 : UInt32).toNat % 32 = 1 from rfl, Nat.shiftRight_eq_div_pow]
  omega
theorem mod2 (c : UInt32) : V32 c % (2 : Int) = V32 (c % 2) := by
  unfold V32
  rw [UInt32.toNat_mod]
  rfl
theorem and1 (c : UInt32) : bits .and .u32 (V32 c) 1 = V32 (c % 2) := by
  unfold V32
  rw [show (1 : Int) = ((1 : Nat) : Int) from rfl, u32_and_nat _ _ (UInt32.toNat_lt c) (by omega), Nat.and_one_is_mod, UInt32.toNat_mod]
  rfl
theorem xorT (c : UInt32) : bits .xor .u32 (V32 c) 3988292384 = V32 (c ^^^ 0xedb88320) := xorV32 c 0xedb88320
theorem xorF (c : UInt32) : bits .xor .u32 (V32 c) 4294967295 = V32 (c ^^^ 0xffffffff) := xorV32 c 0xffffffff
theorem stepT {c : UInt32} (h : c % 2 = 1) : bits .xor .u32 (V32 c / 2) 3988292384 = V32 (bstep c) := by
  rw [shr1, xorT]; unfold bstep; rw [if_pos h]
theorem stepF {c : UInt32} (h : ¬ c % 2 = 1) : V32 c / 2 = V32 (bstep c) := by
  rw [shr1]; unfold bstep; rw [if_neg h]
theorem low1 {c : UInt32} (h : c % 2 = 1) : bits .and .u32 (V32 c) 1 = 1 := by rw [and1, h]; rfl
theorem low0 {c : UInt32} (h : ¬ c % 2 = 1) : bits .and .u32 (V32 c) 1 = 0 := by rw [and1, odd_or c h]; rfl
theorem odd1 {c : UInt32} (h : c % 2 = 1) : (V32 c % 2 == 1) = true := by rw [mod2, h]; rfl
theorem odd0 {c : UInt32} (h : ¬ c % 2 = 1) : (V32 c % 2 == 1) = false := by rw [mod2, odd_or c h]; rfl
theorem V32_lo (c : UInt32) : 0 ≤ V32 c := by unfold V32; omega
theorem V32_hi (c : UInt32) : V32 c < 4294967296 := by unfold V32; have := UInt32.toNat_lt c; omega
theorem crcCode (s : ByteArray) (w : World) (hs : s.size ≤ 140737488351232) :
    Calls Try.prog 12 #[.string s] w fun e w' => e = .returned (.int .u32 (V32 (crcL s.data.toList))) ∧ w = w' := by
  have F := Lib.hid (take_all s)
  go_enter Try.func12, Try.ntmps12
  go_wp2
  go_loop [3, 8, 17, 5] (fun c i _ _ => ∃ k : Nat, k ≤ s.size ∧ i = .int .i64 k ∧ c = .int .u32 (V32 (crcR (s.data.toList.take k)))) (fun _ i _ _ => s.size - (intOf i).toNat)
  case atStart => exact ⟨0, Nat.zero_le _, rfl, rfl⟩
  case round =>
    obtain ⟨k, hk, rfl, rfl⟩ := hrel
    by_cases hlt : k < s.size
    · have N : Hid (crcR (s.data.toList.take (k + 1)) = bst (crcR (s.data.toList.take k) ^^^ s[k].toUInt32) 8) := Lib.hid (by rw [take_snoc s k hlt, crcR_snoc]; rfl)
      have B := (xorV32 (crcR (s.data.toList.take k)) s[k].toUInt32)
      rw [← byteV32] at B
      obtain ⟨C, hC⟩ : ∃ C, crcR (s.data.toList.take k) ^^^ s[k].toUInt32 = C := ⟨_, rfl⟩
      rw [hC] at N B
      have HB := Lib.hid B
      clear hC B
      go_wp2
      go_loop [3, 17, 5] (fun c i _ => ∃ j : Nat, j ≤ 8 ∧ i = .int .i64 j ∧ c = .int .u32 (V32 (bst C j))) (fun _ i _ => 8 - (intOf i).toNat)
      case atStart => exact ⟨0, Nat.zero_le _, rfl, val1 HB.out⟩
      case round =>
        obtain ⟨j, hj, rfl, rfl⟩ := hrel
        by_cases hlj : j < 8
        · by_cases hc : bst C j % 2 = 1
          · have T := Lib.hid (stepT hc)
            have L := low1 hc
            clear hc
            go_wp2
            go_round
            case rel => exact ⟨j + 1, by omega, by go_num, val1 T.out⟩
            case measure => simp [intOf]; omega
          · have T := Lib.hid (stepF hc)
            have L := low0 hc
            clear hc
            go_wp2
            go_round
            case rel => exact ⟨j + 1, by omega, by go_num, val1 T.out⟩
            case measure => simp [intOf]; omega
        · obtain rfl : j = 8 := by omega
          rw [← N.out]
          go_wp2
          go_round
          case rel => exact ⟨k + 1, by omega, by go_num, rfl⟩
          case measure => simp [intOf]; omega
    · obtain rfl : k = s.size := by omega
      go_wp2
      go_ret
      exact ⟨ret1 (by rw [F.out]; exact xorF _), rfl⟩
theorem crcRef (s : ByteArray) (w : World) (hs : s.size ≤ 140737488351232) :
    Calls Try.prog 13 #[.string s] w fun e w' => e = .returned (.int .u32 (V32 (crcL s.data.toList))) ∧ w = w' := by
  have F := Lib.hid (take_all s)
  go_enter Try.func13, Try.ntmps13
  go_wp2
  go_loop [3, 4, 5] (fun c i _ => ∃ k : Nat, k ≤ s.size ∧ i = .int .i64 k ∧ c = .int .u32 (V32 (crcR (s.data.toList.take k)))) (fun _ i _ => s.size - (intOf i).toNat)
  case atStart => exact ⟨0, Nat.zero_le _, rfl, rfl⟩
  case round =>
    obtain ⟨k, hk, rfl, rfl⟩ := hrel
    by_cases hlt : k < s.size
    · have N : Hid (crcR (s.data.toList.take (k + 1)) = bst (crcR (s.data.toList.take k) ^^^ s[k].toUInt32) 8) := Lib.hid (by rw [take_snoc s k hlt, crcR_snoc]; rfl)
      have B := (xorV32 (crcR (s.data.toList.take k)) s[k].toUInt32)
      rw [← byteV32] at B
      obtain ⟨C, hC⟩ : ∃ C, crcR (s.data.toList.take k) ^^^ s[k].toUInt32 = C := ⟨_, rfl⟩
      rw [hC] at N B
      have HB := Lib.hid B
      clear hC B
      go_wp2
      go_loop [3, 5] (fun c i => ∃ j : Nat, j ≤ 8 ∧ i = .int .i64 j ∧ c = .int .u32 (V32 (bst C j))) (fun _ i => 8 - (intOf i).toNat)
      case atStart => exact ⟨0, Nat.zero_le _, rfl, val1 HB.out⟩
      case round =>
        obtain ⟨j, hj, rfl, rfl⟩ := hrel
        have l0 := V32_lo (bst C j)
        by_cases hlj : j < 8
        · by_cases hc : bst C j % 2 = 1
          · have T := Lib.hid (stepT hc)
            have L := odd1 hc
            clear hc
            go_wp2
            go_round
            case rel => exact ⟨j + 1, by omega, by go_num, val1 T.out⟩
            case measure => simp [intOf]; omega
          · have T := Lib.hid (stepF hc)
            have L := odd0 hc
            clear hc
            go_wp2
            go_round
            case rel => exact ⟨j + 1, by omega, by go_num, val1 T.out⟩
            case measure => simp [intOf]; omega
        · obtain rfl : j = 8 := by omega
          rw [← N.out]
          go_wp2
          go_round
          case rel => exact ⟨k + 1, by omega, by go_num, rfl⟩
          case measure => simp [intOf]; omega
    · obtain rfl : k = s.size := by omega
      go_wp2
      go_ret
      exact ⟨ret1 (by rw [F.out]; exact xorF _), rfl⟩
end Go.Proofs.Ytejmhhijmglopaa.HashW
