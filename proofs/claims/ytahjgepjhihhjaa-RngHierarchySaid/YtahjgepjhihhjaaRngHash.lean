/-
  What Hash, Finish and Mix of package hash and of its reference return (HashWalks without what the statements of stage 4 alone call).
-/
import Derived.Test.YtahjgepjhihhjaaHashMath
import Derived.Test.YtahjgepjhihhjaaRows
import Derived.WalkKit
import Derived.Outline
import Derived.WalkSpells
import Derived.Deep.DeepFit
import Derived.Lib.Hide
import Derived.LoopTactic
import Derived.Deep.QuietTactic
import Derived.BigQuiet
import Derived.Laws.BitsAllLaws
namespace Go.Proofs.Ytahjgepjhihhjaa.HashW
open Go Go.RowKit Go.Proofs.Ytahjgepjhihhjaa.HashM

/-- The value of a number of 64 bits, of 32 bits. -/
def V (x : UInt64) : Int := x.toNat
def V32 (x : UInt32) : Int := x.toNat
theorem ret1 {k : IntKind} {a b : Int} (h : a = b) : Ending.returned (.int k a) = .returned (.int k b) := by rw [h]
theorem val1 {k : IntKind} {a b : Int} (h : a = b) : Value.int k a = .int k b := by rw [h]
theorem V_inj {a b : UInt64} (h : V a = V b) : a = b := UInt64.toNat_inj.1 (by unfold V at h; omega)
theorem V32_inj {a b : UInt32} (h : V32 a = V32 b) : a = b := UInt32.toNat_inj.1 (by unfold V32 at h; omega)
theorem xorV (a b : UInt64) : bits .xor .u64 (V a) (V b) = V (a ^^^ b) := by
  unfold V
  rw [bits_xor_u64_nat _ _ (UInt64.toNat_lt a) (UInt64.toNat_lt b), UInt64.toNat_xor]
theorem mulV (a b : UInt64) : IntKind.u64.wrap (V a * V b) = V (a * b) := by
  unfold V
  rw [IntKind.wrap_u64, UInt64.toNat_mul]
  have e : ((a.toNat * b.toNat % 2 ^ 64 : Nat) : Int) = ((a.toNat * b.toNat : Nat) : Int) % 18446744073709551616 := by
    generalize a.toNat * b.toNat = p; omega
  rw [e, Int.natCast_mul]
theorem addV (a b : UInt64) : IntKind.u64.wrap (V a + V b) = V (a + b) := by
  unfold V
  rw [IntKind.wrap_u64, UInt64.toNat_add]
  omega
theorem subV (a b : UInt64) : IntKind.u64.wrap (V a - V b) = V (a - b) := by
  unfold V
  rw [IntKind.wrap_u64, UInt64.toNat_sub]
  have := UInt64.toNat_lt a
  have := UInt64.toNat_lt b
  omega
theorem shrV (a n : UInt64) (d : Int) (hn : n.toNat < 64) (hd : d = ((2 ^ n.toNat : Nat) : Int)) : V a / d = V (a >>> n) := by
  unfold V
  rw [UInt64.toNat_shiftRight, Nat.mod_eq_of_lt hn, Nat.shiftRight_eq_div_pow, hd]
  exact (Int.natCast_ediv _ _).symm
theorem shV (a n : UInt64) (d : Int) (hn : n.toNat < 64) (hd : d = ((2 ^ n.toNat : Nat) : Int)) : bits .xor .u64 (V a) (V a / d) = V (sh a n) := by
  rw [shrV a n d hn hd, xorV]; rfl
theorem byteV (c : UInt8) : IntKind.u64.wrap (c.toNat : Int) = V c.toUInt64 := by
  unfold V
  rw [IntKind.wrap_u64, UInt8.toNat_toUInt64]
  have := UInt8.toNat_lt c
  omega
theorem mul1 (a : UInt64) : IntKind.u64.wrap (V a * 1099511628211) = V (a * 0x100000001b3) := mulV a 0x100000001b3
theorem mul2 (a : UInt64) : IntKind.u64.wrap (V a * 13787848793156543929) = V (a * 0xbf58476d1ce4e5b9) := mulV a 0xbf58476d1ce4e5b9
theorem mul3 (a : UInt64) : IntKind.u64.wrap (V a * 10723151780598845931) = V (a * 0x94d049bb133111eb) := mulV a 0x94d049bb133111eb
theorem mul4 (a : UInt64) : IntKind.u64.wrap (11400714819323198485 * V a) = V (0x9e3779b97f4a7c15 * a) := mulV 0x9e3779b97f4a7c15 a
theorem add1 (a : UInt64) : IntKind.u64.wrap (V a + 1) = V (a + 1) := addV a 1
theorem sub1 (a : UInt64) : IntKind.u64.wrap (V a - 1) = V (a - 1) := subV a 1
theorem sub2 (a : UInt64) : IntKind.u64.wrap (2 - V a) = V (2 - a) := subV 2 a
theorem hstepV (h : UInt64) (c : UInt8) : IntKind.u64.wrap (bits .xor .u64 (V h) (IntKind.u64.wrap (c.toNat : Int)) * 1099511628211) = V (hstep h c) := by
  rw [byteV, xorV, mul1]; rfl
theorem finV (x : UInt64) : bits .xor .u64 (IntKind.u64.wrap (bits .xor .u64 (IntKind.u64.wrap (bits .xor .u64 (V x) (V x / 1073741824) * 13787848793156543929)) (IntKind.u64.wrap (bits .xor .u64 (V x) (V x / 1073741824) * 13787848793156543929) / 134217728) * 10723151780598845931))
    (IntKind.u64.wrap (bits .xor .u64 (IntKind.u64.wrap (bits .xor .u64 (V x) (V x / 1073741824) * 13787848793156543929)) (IntKind.u64.wrap (bits .xor .u64 (V x) (V x / 1073741824) * 13787848793156543929) / 134217728) * 10723151780598845931) / 2147483648) = V (fin x) := by
  have h1 := shV x 30 1073741824 (by decide) (by decide)
  have h2 := shV (sh x 30 * 0xbf58476d1ce4e5b9) 27 134217728 (by decide) (by decide)
  have h3 := shV (sh (sh x 30 * 0xbf58476d1ce4e5b9) 27 * 0x94d049bb133111eb) 31 2147483648 (by decide) (by decide)
  rw [h1, mul2, h2, mul3, h3]; rfl

theorem finCode (x : UInt64) (w : World) :
    Calls Try.prog 28 #[.int .u64 (V x)] w fun e w' => e = .returned (.int .u64 (V (fin x))) ∧ w = w' := by
  go_enter Try.func28, Try.ntmps28
  go_wp2
  go_ret
  exact ⟨ret1 (finV x), rfl⟩
theorem finRef (x : UInt64) (w : World) :
    Calls Try.prog 29 #[.int .u64 (V x)] w fun e w' => e = .returned (.int .u64 (V (fin x))) ∧ w = w' := by
  go_enter Try.func29, Try.ntmps29
  go_wp2
  go_ret
  exact ⟨ret1 (finV x), rfl⟩
theorem mixV (a b : UInt64) : IntKind.u64.wrap (V a + IntKind.u64.wrap (11400714819323198485 * IntKind.u64.wrap (V b + 1))) = V (a + 0x9e3779b97f4a7c15 * (b + 1)) := by
  rw [add1, mul4, addV]
theorem mixCode (a b : UInt64) (w : World) :
    Calls Try.prog 26 #[.int .u64 (V a), .int .u64 (V b)] w fun e w' => e = .returned (.int .u64 (V (mix a b))) ∧ w = w' := by
  have h := finCode (a + 0x9e3779b97f4a7c15 * (b + 1)) w
  rw [← mixV] at h
  have H := Lib.hid h
  clear h
  go_enter Try.func26, Try.ntmps26
  go_wp2_with (go_at_call 28; refine H.out.mono ?_; rintro e w' ⟨rfl, rfl⟩)
  go_ret
  exact ⟨rfl, rfl⟩
theorem mixRef (a b : UInt64) (w : World) :
    Calls Try.prog 27 #[.int .u64 (V a), .int .u64 (V b)] w fun e w' => e = .returned (.int .u64 (V (mix a b))) ∧ w = w' := by
  have h := finRef (a + 0x9e3779b97f4a7c15 * (b + 1)) w
  rw [← mixV] at h
  have H := Lib.hid h
  clear h
  go_enter Try.func27, Try.ntmps27
  go_wp2_with (go_at_call 29; refine H.out.mono ?_; rintro e w' ⟨rfl, rfl⟩)
  go_ret
  exact ⟨rfl, rfl⟩

/-! ### Hash -/
theorem len_data (s : ByteArray) : s.data.toList.length = s.size := by simp
theorem take_snoc (s : ByteArray) (k : Nat) (h : k < s.size) : s.data.toList.take (k + 1) = s.data.toList.take k ++ [s[k]] := by
  rw [List.take_succ_eq_append_getElem (by simpa using h)]; rfl
theorem take_all (s : ByteArray) : s.data.toList.take s.size = s.data.toList := by rw [← len_data, List.take_length]
theorem hashCode (s : ByteArray) (w : World) (hs : s.size ≤ 140737488351232) :
    Calls Try.prog 30 #[.string s] w fun e w' => e = .returned (.int .u64 (V (hashL s.data.toList))) ∧ w = w' := by
  have F := Lib.hid (take_all s)
  go_enter Try.func30, Try.ntmps30
  go_wp2
  go_loop [3, 7] (fun h i => ∃ k : Nat, k ≤ s.size ∧ i = .int .i64 k ∧ h = .int .u64 (V (hashL (s.data.toList.take k)))) (fun _ i => s.size - (intOf i).toNat)
  case atStart => exact ⟨0, Nat.zero_le _, rfl, rfl⟩
  case round =>
    obtain ⟨k, hk, rfl, rfl⟩ := hrel
    by_cases hlt : k < s.size
    · have N := Lib.hid ((hstepV (hashL (s.data.toList.take k)) s[k]).trans (by rw [take_snoc s k hlt, hashL_snoc]) : _ = V (hashL (s.data.toList.take (k + 1))))
      go_wp2
      go_round
      case rel => exact ⟨k + 1, by omega, by go_num, val1 N.out⟩
      case measure => simp [intOf]; omega
    · obtain rfl : k = s.size := by omega
      go_wp2
      go_ret
      exact ⟨ret1 (by rw [F.out]), rfl⟩
theorem hashRef (s : ByteArray) (w : World) (hs : s.size ≤ 140737488351232) :
    Calls Try.prog 31 #[.string s] w fun e w' => e = .returned (.int .u64 (V (hashL s.data.toList))) ∧ w = w' := by
  have F := Lib.hid (take_all s)
  go_enter Try.func31, Try.ntmps31
  go_wp2
  go_loop [3, 4] (fun h i => ∃ k : Nat, k ≤ s.size ∧ i = .int .i64 k ∧ h = .int .u64 (V (hashL (s.data.toList.take k)))) (fun _ i => s.size - (intOf i).toNat)
  case atStart => exact ⟨0, Nat.zero_le _, rfl, rfl⟩
  case round =>
    obtain ⟨k, hk, rfl, rfl⟩ := hrel
    by_cases hlt : k < s.size
    · have N := Lib.hid ((hstepV (hashL (s.data.toList.take k)) s[k]).trans (by rw [take_snoc s k hlt, hashL_snoc]) : _ = V (hashL (s.data.toList.take (k + 1))))
      go_wp2
      go_round
      case rel => exact ⟨k + 1, by omega, by go_num, val1 N.out⟩
      case measure => simp [intOf]; omega
    · obtain rfl : k = s.size := by omega
      go_wp2
      go_ret
      exact ⟨ret1 (by rw [F.out]), rfl⟩

end Go.Proofs.Ytahjgepjhihhjaa.HashW
