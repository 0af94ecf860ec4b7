/-
  Package rat's numbers of 128 bits: what size, divisor, reduced, times, plus, minus, less, quotient, remainder return.
-/
import Derived.Test.YtjighmmfaedgbaaDoorRatDiv64
import Derived.Test.YtjighmmfaedgbaaDoorRatRefD
import Derived.Shelf.Spec.BitsCarry
namespace Go.Proofs.YtjighmmfaedgbaaDoor.RatW
open Go Go.RowKit Go.Proofs.YtjighmmfaedgbaaDoor.RatM

/-- The halves of a number of 128 bits. -/
def hiW (N : Nat) : Nat := N / 18446744073709551616
def loW (N : Nat) : Nat := N % 18446744073709551616
theorem hl (N : Nat) : hiW N * 18446744073709551616 + loW N = N := by unfold hiW loW; omega
theorem loW_lt (N : Nat) : loW N < 18446744073709551616 := Nat.mod_lt _ (by omega)
abbrev wv (h l : Nat) : Value := .agg #[.int .u64 h, .int .u64 l]
/-- Two halves returned. -/
def tWide (w : World) (N : Nat) (e : Ending) (w' : World) : Prop := e = .returned (wv (hiW N) (loW N)) ∧ Below w.heap.size w w'
def tU64 (w : World) (n : Nat) (e : Ending) (w' : World) : Prop := e = .returned (.int .u64 n) ∧ Below w.heap.size w w'
theorem wv_mk {h l N : Nat} (h1 : h = hiW N) (h2 : l = loW N) : wv h l = wv (hiW N) (loW N) := by rw [h1, h2]
theorem hl_of {h l N : Nat} (hl : l < 18446744073709551616) (e : h * 18446744073709551616 + l = N) : h = hiW N ∧ l = loW N := by unfold hiW loW; omega

/-! ### size, divisor, reduced -/
theorem sizeCode (n : Int) (w : World) (n0 : -9223372036854775808 ≤ n) (n1 : n ≤ 9223372036854775807) :
    Calls Tryd.prog 35 #[.int .i64 n] w fun e w' => e = .returned (.int .u64 n.natAbs) ∧ w = w' := by
  by_cases h : n < 0
  · have e : IntKind.u64.wrap (-IntKind.u64.wrap n) = ((n.natAbs : Nat) : Int) := by simp only [IntKind.wrap_u64]; omega
    have E := Lib.hid e
    clear e
    go_enter Tryd.func35, Tryd.ntmps35
    go_wp2
    go_ret
    exact ⟨ret1 E.out, rfl⟩
  · have e : IntKind.u64.wrap n = ((n.natAbs : Nat) : Int) := by rw [IntKind.wrap_u64]; omega
    have E := Lib.hid e
    clear e
    go_enter Tryd.func35, Tryd.ntmps35
    go_wp2
    go_ret
    exact ⟨ret1 (by first | exact E.out | omega), rfl⟩
def tGcd (a b : Nat) (w : World) (e : Ending) (w' : World) : Prop := e = .returned (.int .u64 (a.gcd b : Nat)) ∧ ∃ m, w' = w.drewN m
set_option maxRecDepth 100000 in
set_option maxHeartbeats 1000000 in
theorem divisor_any (a b : Nat) (w : World) :
    Calls Tryd.prog 55 #[.int .u64 a, .int .u64 b] w (tGcd a b w) := by
  go_enter Tryd.func55, Tryd.ntmps55
  go_wp2
  go_loopw [0, 1] (fun u v wr => ∃ x y : Nat, u = .int .u64 x ∧ v = .int .u64 y ∧ x.gcd y = a.gcd b ∧ ∃ m, wr = w.drewN m) (fun _ v _ => (intOf v).toNat)
  case atStart => exact ⟨a, b, rfl, rfl, rfl, 0, rfl⟩
  case round =>
    obtain ⟨x, y, rfl, rfl, hg, m, rfl⟩ := hrel
    have HG := Lib.hid hg
    clear hg
    by_cases h0 : y = 0
    · subst h0
      go_wp2
      go_ret
      exact ⟨ret1 (by rw [← HG.out, Nat.gcd_zero_right]), m, rfl⟩
    · have y1 : ((y : Int) == 0) = false := by simp; omega
      have y2 : ((y : Int) != 0) = true := by simp; omega
      have y0 : (0 : Int) < (y : Int) := by omega
      have HX : Hid (y.gcd (x % y) = a.gcd b) := Lib.hid (by rw [← HG.out, Nat.gcd_comm x y, Nat.gcd_rec y x, Nat.gcd_comm])
      have e1 : (x : Int) % (y : Int) = ((x % y : Nat) : Int) := (Int.natCast_emod _ _).symm
      have hlt : x % y < y := Nat.mod_lt _ (by omega)
      clear h0
      go_wp2
      go_quiet (fail)
      go_wp2
      go_roundw
      case rel => exact ⟨y, x % y, rfl, rfl, HX.out, dr2 _ _ _⟩
      case measure => simp [intOf]; omega
def tRed (a b : Nat) (w : World) (e : Ending) (w' : World) : Prop := e = .returned (.tuple #[.int .u64 ((a / a.gcd b : Nat) : Int), .int .u64 ((b / a.gcd b : Nat) : Int)]) ∧ ∃ m, w' = w.drewN m
set_option maxRecDepth 100000 in
set_option maxHeartbeats 1000000 in
theorem reduced_any (a b : Nat) (w : World) (ha : a < 18446744073709551616) (hb : b < 18446744073709551616) (h : 0 < a ∨ 0 < b) :
    Calls Tryd.prog 34 #[.int .u64 a, .int .u64 b] w (tRed a b w) := by
  unfold tRed
  have hg : 0 < a.gcd b := by
    rcases h with h | h
    · exact Nat.gcd_pos_of_pos_left _ h
    · exact Nat.gcd_pos_of_pos_right _ h
  have D := divisor_any a b w
  unfold tGcd at D
  generalize a.gcd b = g at *
  have D := Lib.hid D
  have g0 : (0 : Int) < (g : Int) := by omega
  have g1 : ¬ (g : Int) = 0 := by omega
  have e1 : (a : Int) / (g : Int) = ((a / g : Nat) : Int) := (Int.natCast_ediv _ _).symm
  have e2 : (b : Int) / (g : Int) = ((b / g : Nat) : Int) := (Int.natCast_ediv _ _).symm
  have e3 : IntKind.u64.wrap ((a / g : Nat) : Int) = ((a / g : Nat) : Int) := wrapN (Nat.lt_of_le_of_lt (Nat.div_le_self _ _) ha)
  have e4 : IntKind.u64.wrap ((b / g : Nat) : Int) = ((b / g : Nat) : Int) := wrapN (Nat.lt_of_le_of_lt (Nat.div_le_self _ _) hb)
  clear ha hb hg h
  obtain ⟨p, hp⟩ : ∃ p, a / g = p := ⟨_, rfl⟩
  obtain ⟨q, hq⟩ : ∃ q, b / g = q := ⟨_, rfl⟩
  rw [hp] at e1 e3 ⊢
  rw [hq] at e2 e4 ⊢
  clear hp hq
  go_enter Tryd.func34, Tryd.ntmps34
  go_wp2_with (go_at_call 55; refine D.out.mono ?_; rintro e w' ⟨rfl, m, rfl⟩)
  go_quiet (fail)
  go_wp2
  go_ret2
  exact ⟨rfl, dr2 _ _ _⟩

/-! ### times, plus, minus, less -/
theorem add0 (x y : Nat) (w : World) : (callFunc 82 #[.int .u64 x, .int .u64 y, .int .u64 0]).run Tryd.prog w = .ok (.value (.tuple #[.int .u64 (((x + y) % 18446744073709551616 : Nat) : Int), .int .u64 (((x + y) / 18446744073709551616 : Nat) : Int)])) w := by
  have := run_callFunc_extern Tryd.func82 (by kernel_rfl) (by kernel_rfl) (by kernel_rfl) (e := add64Entry) (by kernel_rfl) #[.int .u64 x, .int .u64 y, .int .u64 0] w
  rw [run_add64 x y 0 (by omega) (by omega) (by omega) (by omega)] at this
  rw [this]
  simp only [Result.andThen]
  congr 5 <;> omega
theorem addC (x y c : Nat) (hc : c ≤ 1) (w : World) : (callFunc 82 #[.int .u64 x, .int .u64 y, .int .u64 c]).run Tryd.prog w = .ok (.value (.tuple #[.int .u64 (((x + y + c) % 18446744073709551616 : Nat) : Int), .int .u64 (((x + y + c) / 18446744073709551616 : Nat) : Int)])) w := by
  have := run_callFunc_extern Tryd.func82 (by kernel_rfl) (by kernel_rfl) (by kernel_rfl) (e := add64Entry) (by kernel_rfl) #[.int .u64 x, .int .u64 y, .int .u64 c] w
  rw [run_add64 x y c (by omega) (by omega) (by omega) (by omega)] at this
  rw [this]
  simp only [Result.andThen]
  congr 5 <;> omega
theorem subC (x y b : Nat) (hb : b ≤ 1) (w : World) : (callFunc 83 #[.int .u64 x, .int .u64 y, .int .u64 b]).run Tryd.prog w = .ok (.value (.tuple #[.int .u64 (((x + 18446744073709551616 - y - b) % 18446744073709551616 : Nat) : Int), .int .u64 ((if x < y + b then 1 else 0 : Nat) : Int)])) w := by
  have := run_callFunc_extern Tryd.func83 (by kernel_rfl) (by kernel_rfl) (by kernel_rfl) (e := sub64Entry) (by kernel_rfl) #[.int .u64 x, .int .u64 y, .int .u64 b] w
  rw [run_sub64 x y b hb] at this
  rw [this]
  rfl
theorem sub0 (x y : Nat) (w : World) : (callFunc 83 #[.int .u64 x, .int .u64 y, .int .u64 0]).run Tryd.prog w = .ok (.value (.tuple #[.int .u64 (((x + 18446744073709551616 - y - 0) % 18446744073709551616 : Nat) : Int), .int .u64 ((if x < y + 0 then 1 else 0 : Nat) : Int)])) w := subC x y 0 (by omega) w
set_option maxRecDepth 100000 in
set_option maxHeartbeats 1000000 in
theorem timesCode (a b : Nat) (w : World) (ha : a < 18446744073709551616) (hb : b < 18446744073709551616) :
    Calls Tryd.prog 61 #[.int .u64 a, .int .u64 b] w (tWide w (a * b)) := by
  have M := Lib.hid (fun w => Tryd.bits_Mul64 a b ha hb w)
  clear ha hb
  go_enter Tryd.func61, Tryd.ntmps61
  go_wp2_with (go_at_call 80; refine (M.out _).mono ?_; rintro e w' ⟨rfl, rfl⟩)
  refine bodyPost_ret (v := wv (hiW (a * b)) (loW (a * b))) (by simp [results, Tryd.results61, go_sem, hiW, loW]) rfl ?_
  exact ⟨rfl, (Below.refl _ _).alloc (Nat.le_refl _) _⟩
theorem plus_halves {N M : Nat} (h : N + M < 340282366920938463463374607431768211456) :
    (hiW N + hiW M + (loW N + loW M) / 18446744073709551616) % 18446744073709551616 = hiW (N + M) ∧ (loW N + loW M) % 18446744073709551616 = loW (N + M) ∧ (loW N + loW M) / 18446744073709551616 ≤ 1 := by
  unfold hiW loW; omega
theorem minus_halves {N M : Nat} (h : M ≤ N) (h1 : N < 340282366920938463463374607431768211456) :
    (hiW N + 18446744073709551616 - hiW M - (if loW N < loW M + 0 then 1 else 0)) % 18446744073709551616 = hiW (N - M) ∧ (loW N + 18446744073709551616 - loW M - 0) % 18446744073709551616 = loW (N - M) ∧ (if loW N < loW M + 0 then 1 else 0) ≤ 1 := by
  unfold hiW loW
  split <;> omega
set_option maxRecDepth 100000 in
set_option maxHeartbeats 1000000 in
theorem plusCode (N M : Nat) (w : World) (h : N + M < 340282366920938463463374607431768211456) :
    Calls Tryd.prog 66 #[wv (hiW N) (loW N), wv (hiW M) (loW M)] w (tWide w (N + M)) := by
  obtain ⟨h1, h2, h3⟩ := plus_halves h
  obtain ⟨c, hc⟩ : ∃ c, (loW N + loW M) / 18446744073709551616 = c := ⟨_, rfl⟩
  rw [hc] at h1 h3
  have A0 := fun w => add0 (loW N) (loW M) w
  rw [h2, hc] at A0
  have A1 := fun w => addC (hiW N) (hiW M) c h3 w
  rw [h1] at A1
  clear h h1 h2 h3 hc
  go_enter Tryd.func66, Tryd.ntmps66
  go_wp2
  refine bodyPost_ret (v := wv (hiW (N + M)) (loW (N + M))) (by simp [results, Tryd.results66, go_sem]) rfl ?_
  exact ⟨rfl, (((Below.refl _ _).alloc (Nat.le_refl _) _).alloc (by simp) _).alloc (by simp; omega) _⟩
set_option maxRecDepth 100000 in
set_option maxHeartbeats 1000000 in
theorem minusCode (N M : Nat) (w : World) (h : M ≤ N) (hN : N < 340282366920938463463374607431768211456) :
    Calls Tryd.prog 68 #[wv (hiW N) (loW N), wv (hiW M) (loW M)] w (tWide w (N - M)) := by
  obtain ⟨h1, h2, h3⟩ := minus_halves h hN
  have A0 := fun w => sub0 (loW N) (loW M) w
  generalize (if loW N < loW M + 0 then 1 else 0) = c at *
  have A1 := fun w => subC (hiW N) (hiW M) c h3 w
  rw [h2] at A0
  rw [h1] at A1
  generalize (if hiW N < hiW M + c then 1 else 0) = c' at A1
  clear h h1 h2 h3 hN
  go_enter Tryd.func68, Tryd.ntmps68
  go_wp2
  refine bodyPost_ret (v := wv (hiW (N - M)) (loW (N - M))) (by simp [results, Tryd.results68, go_sem]) rfl ?_
  exact ⟨rfl, (((Below.refl _ _).alloc (Nat.le_refl _) _).alloc (by simp) _).alloc (by simp; omega) _⟩
theorem less_halves (N M : Nat) : N < M ↔ hiW N < hiW M ∨ hiW N = hiW M ∧ loW N < loW M := by unfold hiW loW; omega
set_option maxRecDepth 100000 in
set_option maxHeartbeats 1000000 in
theorem lessCode (N M : Nat) (w : World) :
    Calls Tryd.prog 67 #[wv (hiW N) (loW N), wv (hiW M) (loW M)] w (tBool w (decide (N < M))) := by
  have L := Lib.hid (less_halves N M)
  generalize hiW N = a at *
  generalize hiW M = b at *
  generalize loW N = c at *
  generalize loW M = d at *
  have B : Hid (Below w.heap.size w ((w.alloc (.cells #[.int .u64 a, .int .u64 c] 48)).alloc (.cells #[.int .u64 b, .int .u64 d] 48))) := Lib.hid (((Below.refl _ _).alloc (Nat.le_refl _) _).alloc (by simp) _)
  rcases Nat.lt_trichotomy a b with h | h | h
  · have hN : decide (N < M) = true := decide_eq_true (L.out.2 (.inl h))
    rw [hN]
    clear hN
    go_enter Tryd.func67, Tryd.ntmps67
    go_wp2
    go_ret
    exact ⟨rfl, B.out⟩
  · subst h
    by_cases g : c < d
    · have hN : decide (N < M) = true := decide_eq_true (L.out.2 (.inr ⟨rfl, g⟩))
      rw [hN]
      clear hN
      go_enter Tryd.func67, Tryd.ntmps67
      go_wp2
      go_ret
      exact ⟨rfl, B.out⟩
    · have hN : decide (N < M) = false := decide_eq_false (fun e => by rcases L.out.1 e with e | e <;> omega)
      rw [hN]
      clear hN
      go_enter Tryd.func67, Tryd.ntmps67
      go_wp2
      go_ret
      exact ⟨rfl, B.out⟩
  · have hN : decide (N < M) = false := decide_eq_false (fun e => by rcases L.out.1 e with e | e <;> omega)
    have h1 : decide (a < b) = false := decide_eq_false (by omega)
    have h2 : ((a : Int) == (b : Int)) = false := by simp; omega
    rw [hN]
    clear hN
    go_enter Tryd.func67, Tryd.ntmps67
    go_wp2
    go_ret
    exact ⟨rfl, B.out⟩
end Go.Proofs.YtjighmmfaedgbaaDoor.RatW
