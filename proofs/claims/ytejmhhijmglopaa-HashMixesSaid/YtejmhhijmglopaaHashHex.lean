/-
  What the functions return that read and write hexadecimal forms, those of package hash and those of its reference.
-/
import Derived.Test.YtejmhhijmglopaaHashCrc
import Derived.Lib.Bytealg
import Derived.Laws.BytesArg
namespace Go.Proofs.Ytejmhhijmglopaa.HashW
open Go Go.RowKit Go.Proofs.Ytejmhhijmglopaa.HashM

/-! ### strings.IndexByte, at the sixteen digits -/
def tabL : List UInt8 := [48, 49, 50, 51, 52, 53, 54, 55, 56, 57, 97, 98, 99, 100, 101, 102]
def ix (c : UInt8) : Int := Lib.indexByte tabL c
theorem ix_all : ∀ n : Fin 256, ix (UInt8.ofNat n.val) = if isH (UInt8.ofNat n.val) then (hv (UInt8.ofNat n.val) : Int) else -1 := by decide +kernel
theorem ix_eq (c : UInt8) : ix c = if isH c then (hv c : Int) else -1 := by
  have := ix_all ⟨c.toNat, UInt8.toNat_lt c⟩
  simpa only [UInt8.ofNat_toNat] using this
theorem ix_yes {c : UInt8} (h : isH c = true) : ix c = (hv c : Int) := by rw [ix_eq, if_pos h]
theorem ix_no {c : UInt8} (h : ¬ isH c = true) : ix c = -1 := by rw [ix_eq, if_neg h]
theorem lites_any (s : ByteArray) (c : Int) (w : World) :
    Calls Try.prog 34 #[.string s, .int .u8 c] w fun e w' => e = .returned (.int .i64 (Lib.indexByte s.data.toList c.toNat.toUInt8)) ∧ w = w' := by
  go_enter Try.func34, Try.ntmps34
  go_wp2
  rw [run_callFunc_extern Try.func35 (by kernel_rfl) (by kernel_rfl) (by kernel_rfl) (e := Extern.BytealgIndexByte.indexByte) (by kernel_rfl), Lib.run_indexByteString]
  simp only [Result.andThen]
  rw [Oper.upon_value]
  go_wp2
  go_ret
  exact ⟨rfl, rfl⟩
theorem index_any (c : UInt8) (w : World) :
    Calls Try.prog 33 #[.string ⟨#[48, 49, 50, 51, 52, 53, 54, 55, 56, 57, 97, 98, 99, 100, 101, 102]⟩, .int .u8 c.toNat] w fun e w' => e = .returned (.int .i64 (ix c)) ∧ w = w' := by
  have h := lites_any ⟨#[48, 49, 50, 51, 52, 53, 54, 55, 56, 57, 97, 98, 99, 100, 101, 102]⟩ c.toNat w
  have e : Lib.indexByte (⟨#[48, 49, 50, 51, 52, 53, 54, 55, 56, 57, 97, 98, 99, 100, 101, 102]⟩ : ByteArray).data.toList ((c.toNat : Int)).toNat.toUInt8 = ix c := by
    rw [Int.toNat_natCast]
    show Lib.indexByte tabL (UInt8.ofNat c.toNat) = _
    rw [UInt8.ofNat_toNat]; rfl
  rw [e] at h
  have H := Lib.hid h
  clear h e
  go_enter Try.func33, Try.ntmps33
  go_wp2_with (go_at_call 34; refine H.out.mono ?_; rintro e w' ⟨rfl, rfl⟩)
  go_ret
  exact ⟨rfl, rfl⟩

/-! ### parse, read -/
/-- What parse and read return: the number, if all bytes are digits. -/
def W (l : List UInt8) : Int := ((vl l % 18446744073709551616 : Nat) : Int)
def pv (l : List UInt8) : Int := if okH l then W l else 0
theorem pv_ok {l : List UInt8} (h : okH l = true) : W l = pv l := by unfold pv; rw [if_pos h]
theorem pv_no {l : List UInt8} (h : okH l = false) : 0 = pv l := by unfold pv; rw [h]; rfl
theorem W_lo (l : List UInt8) : 0 ≤ W l := by unfold W; omega
theorem orW (l : List UInt8) (c : UInt8) (h : isH c = true) : bits .or .u64 (IntKind.u64.wrap (W l * 16)) (IntKind.u64.wrap (ix c)) = W (l ++ [c]) := by
  have hc := (hv_ok h).1
  rw [ix_yes h]
  unfold W
  rw [vl_snoc, IntKind.wrap_u64, IntKind.wrap_u64]
  generalize hv c = d at *
  generalize vl l = v at *
  have e1 : (((v % 18446744073709551616 : Nat) : Int) * 16) % 18446744073709551616 = ((2 ^ 4 * (v % 1152921504606846976) : Nat) : Int) := by omega
  have e2 : (d : Int) % 18446744073709551616 = ((d : Nat) : Int) := by omega
  rw [e1, e2, u64_or_nat _ _ (by omega) (by omega), ← Nat.two_pow_add_eq_or_of_lt (by omega)]
  omega
theorem mulW (l : List UInt8) (c : UInt8) (x : Int) (h : isH c = true) (hx : x = (hv c : Int)) : IntKind.u64.wrap (IntKind.u64.wrap (16 * W l) + x) = W (l ++ [c]) := by
  have hc := (hv_ok h).1
  subst hx
  unfold W
  rw [vl_snoc, IntKind.wrap_u64, IntKind.wrap_u64]
  generalize hv c = d at *
  generalize vl l = v at *
  omega
theorem mulW2 (l : List UInt8) (c : UInt8) (x : Int) (h : isH c = true) (hx : x + 10 = (hv c : Int)) : IntKind.u64.wrap (IntKind.u64.wrap (IntKind.u64.wrap (16 * W l) + x) + 10) = W (l ++ [c]) := by
  have hc := (hv_ok h).1
  unfold W
  rw [vl_snoc]
  simp only [IntKind.wrap_u64]
  generalize hv c = d at *
  generalize vl l = v at *
  omega
theorem okH_snoc {l : List UInt8} {c : UInt8} (h : okH l = true) (hc : isH c = true) : okH (l ++ [c]) = true := by
  rw [okH_append, h, okH_cons, hc]; rfl
theorem okH_stop (s : ByteArray) (k : Nat) (h : k < s.size) (hc : ¬ isH s[k] = true) : okH s.data.toList = false := by
  rw [← List.take_append_drop k s.data.toList, okH_append, List.drop_eq_getElem_cons (by simpa using h), okH_cons]
  have e : isH s.data.toList[k] = false := by
    cases g : isH s.data.toList[k] with
    | false => rfl
    | true => exact absurd g hc
  rw [e]
  cases okH (List.take k s.data.toList) <;> rfl
theorem ret2 {a c : Int} {b d : Bool} (h : a = c) (g : b = d) : Ending.returned (.tuple #[.int .u64 a, .bool b]) = Ending.returned (.tuple #[.int .u64 c, .bool d]) := by rw [h, g]
theorem W_nil : W [] = 0 := rfl
set_option maxHeartbeats 400000 in
theorem parse_any (s : ByteArray) (w : World) (hs : s.size ≤ 140737488351232) :
    Calls Try.prog 30 #[.string s] w fun e w' => e = .returned (.tuple #[.int .u64 (pv s.data.toList), .bool (okH s.data.toList)]) ∧ w = w' := by
  have F := Lib.hid (take_all s)
  go_enter Try.func30, Try.ntmps30
  go_wp2
  go_loop [4, 9] (fun x i => ∃ k : Nat, k ≤ s.size ∧ i = .int .i64 k ∧ x = .int .u64 (W (s.data.toList.take k)) ∧ okH (s.data.toList.take k) = true) (fun _ i => s.size - (intOf i).toNat)
  case atStart => exact ⟨0, Nat.zero_le _, rfl, rfl, rfl⟩
  case round =>
    obtain ⟨k, hk, rfl, rfl, hok⟩ := hrel
    have K := Lib.hid hok
    clear hok
    by_cases hlt : k < s.size
    · have T := Lib.hid (take_snoc s k hlt)
      by_cases hc : isH s[k] = true
      · have hi : 0 ≤ ix s[k] := by rw [ix_yes hc]; omega
        have N := Lib.hid (orW (s.data.toList.take k) s[k] hc)
        have C := Lib.hid hc
        clear hc
        go_wp2_with (go_at_call 33; refine (index_any _ _).mono ?_; rintro e w' ⟨rfl, rfl⟩)
        go_round
        case rel => exact ⟨k + 1, by omega, by go_num, by rw [T.out]; exact val1 N.out, by rw [T.out]; exact okH_snoc K.out C.out⟩
        case measure => simp [intOf]; omega
      · have hi : ix s[k] < 0 := by rw [ix_no hc]; omega
        have C := Lib.hid (okH_stop s k hlt hc)
        clear hc
        go_wp2_with (go_at_call 33; refine (index_any _ _).mono ?_; rintro e w' ⟨rfl, rfl⟩)
        go_ret2
        exact ⟨ret2 (pv_no C.out) C.out.symm, rfl⟩
    · obtain rfl : k = s.size := by omega
      rw [F.out] at K
      go_wp2
      go_ret2
      exact ⟨ret2 (by rw [F.out]; exact pv_ok K.out) K.out.symm, rfl⟩
theorem isH_digit {c : UInt8} (h0 : (48 : Int) ≤ c.toNat) (h1 : (c.toNat : Int) ≤ 57) : isH c = true ∧ (c.toNat : Int) - 48 = hv c := by
  have a : 48 ≤ c.toNat := by omega
  have b : c.toNat ≤ 57 := by omega
  unfold isH hv
  rw [if_pos b]
  simp [a, b]
  omega
theorem isH_letter {c : UInt8} (h0 : (97 : Int) ≤ c.toNat) (h1 : (c.toNat : Int) ≤ 102) : isH c = true ∧ (c.toNat : Int) - 97 + 10 = hv c := by
  have a : 97 ≤ c.toNat := by omega
  have b : c.toNat ≤ 102 := by omega
  unfold isH hv
  rw [if_neg (by omega)]
  simp [a, b]
  omega
theorem isH_split {c : UInt8} (h : isH c = true) : ((48 : Int) ≤ c.toNat ∧ (c.toNat : Int) ≤ 57) ∨ ((97 : Int) ≤ c.toNat ∧ (c.toNat : Int) ≤ 102) := by
  unfold isH at h
  simp at h
  omega
theorem isH_not {c : UInt8} (h : ¬ isH c = true) : (c.toNat : Int) < 48 ∨ ((57 : Int) < c.toNat ∧ (c.toNat : Int) < 97) ∨ (102 : Int) < c.toNat := by
  unfold isH at h
  simp at h
  omega
set_option maxHeartbeats 800000 in
theorem read_any (s : ByteArray) (w : World) (hs : s.size ≤ 140737488351232) :
    Calls Try.prog 31 #[.string s] w fun e w' => e = .returned (.tuple #[.int .u64 (pv s.data.toList), .bool (okH s.data.toList)]) ∧ w = w' := by
  have F := Lib.hid (take_all s)
  go_enter Try.func31, Try.ntmps31
  go_wp2
  go_loop [4, 5] (fun x i => ∃ k : Nat, k ≤ s.size ∧ i = .int .i64 k ∧ x = .int .u64 (W (s.data.toList.take k)) ∧ okH (s.data.toList.take k) = true) (fun _ i => s.size - (intOf i).toNat)
  case atStart => exact ⟨0, Nat.zero_le _, rfl, rfl, rfl⟩
  case round =>
    obtain ⟨k, hk, rfl, rfl, hok⟩ := hrel
    have K := Lib.hid hok
    clear hok
    by_cases hlt : k < s.size
    · have T := Lib.hid (take_snoc s k hlt)
      by_cases hc : isH s[k] = true
      · have C := Lib.hid hc
        rcases isH_split hc with ⟨h0, h1⟩ | ⟨h0, h1⟩
        · have N := Lib.hid (mulW (s.data.toList.take k) s[k] _ hc (isH_digit h0 h1).2)
          clear hc
          go_wp2
          go_round
          case rel => exact ⟨k + 1, by omega, by go_num, by rw [T.out]; exact val1 N.out, by rw [T.out]; exact okH_snoc K.out C.out⟩
          case measure => simp [intOf]; omega
        · have N := Lib.hid (mulW2 (s.data.toList.take k) s[k] _ hc (isH_letter h0 h1).2)
          clear hc
          go_wp2
          go_round
          case rel => exact ⟨k + 1, by omega, by go_num, by rw [T.out]; exact val1 N.out, by rw [T.out]; exact okH_snoc K.out C.out⟩
          case measure => simp [intOf]; omega
      · have C := Lib.hid (okH_stop s k hlt hc)
        rcases isH_not hc with h0 | ⟨h0, h1⟩ | h0
        all_goals
          clear hc
          go_wp2
          go_ret2
          exact ⟨ret2 (pv_no C.out) C.out.symm, rfl⟩
    · obtain rfl : k = s.size := by omega
      rw [F.out] at K
      go_wp2
      go_ret2
      exact ⟨ret2 (by rw [F.out]; exact pv_ok K.out) K.out.symm, rfl⟩
end Go.Proofs.Ytejmhhijmglopaa.HashW
