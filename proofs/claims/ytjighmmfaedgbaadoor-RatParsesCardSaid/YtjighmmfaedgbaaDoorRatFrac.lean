/-
  Package rat's fractions: what quotient, remainder, exact, negated, inverted and fitted return.
-/
import Derived.Test.YtjighmmfaedgbaaDoorRatWide
import Derived.Lib.QuietBelow
import Derived.Deep.RegionHeld3
namespace Go.Proofs.YtjighmmfaedgbaaDoor.RatW
open Go Go.Sort Go.RowKit Go.Proofs.YtjighmmfaedgbaaDoor.RatM

theorem div64_any (hi lo y : Nat) (w : World) (hy : hi < y) (hlo : lo < 18446744073709551616) (hy1 : y < 18446744073709551616) :
    Calls Tryd.prog 79 #[.int .u64 hi, .int .u64 lo, .int .u64 y] w (tDiv64 (hi * 18446744073709551616 + lo) y w) := by
  by_cases h : hi = 0
  · subst h
    have := divLow lo y w hy hlo
    simpa using this
  · exact divHigh hi lo y w (by omega) hy hlo hy1
theorem mod_halves (N n : Nat) : (hiW N % n * 18446744073709551616 + loW N) % n = N % n := by
  have e := hl N
  rw [Nat.add_mod, Nat.mod_mul_mod, ← Nat.add_mod, e]
theorem div_halves {N n : Nat} (h : 0 < n) : hiW N / n * 18446744073709551616 + (hiW N % n * 18446744073709551616 + loW N) / n = N / n := by
  have e := hl N
  have e2 := Nat.div_add_mod (hiW N) n
  have : N = n * (hiW N / n * 18446744073709551616) + (hiW N % n * 18446744073709551616 + loW N) := by
    rw [← Nat.mul_assoc]
    omega
  conv => rhs; rw [this]
  rw [Nat.mul_add_div h]
theorem quo_lt {N n : Nat} (h : 0 < n) : (hiW N % n * 18446744073709551616 + loW N) / n < 18446744073709551616 := by
  have := loW_lt N
  have h2 : hiW N % n < n := Nat.mod_lt _ h
  rw [Nat.div_lt_iff_lt_mul h]
  omega
set_option maxRecDepth 100000 in
set_option maxHeartbeats 1000000 in
theorem rem64 (N n : Nat) (w : World) (h : 0 < n) (hn : n < 18446744073709551616) :
    Calls Tryd.prog 78 #[.int .u64 (hiW N), .int .u64 (loW N), .int .u64 n] w fun e w' => e = .returned (.int .u64 (N % n : Nat)) ∧ ∃ m, w' = w.drewN m := by
  have D := fun w => div64_any (hiW N % n) (loW N) n w (Nat.mod_lt _ h) (loW_lt N) hn
  unfold tDiv64 at D
  rw [mod_halves] at D
  have n0 : ¬ (n : Int) = 0 := by omega
  have n1 : (0 : Int) < (n : Int) := by omega
  have e1 : ((hiW N : Nat) : Int) % (n : Int) = ((hiW N % n : Nat) : Int) := (Int.natCast_emod _ _).symm
  generalize hiW N % n = r at *
  generalize hiW N = a at *
  generalize N % n = q at *
  have D := Lib.hid D
  clear h hn
  go_enter Tryd.func78, Tryd.ntmps78
  go_wp2_with (go_at_call 79; refine (D.out _).mono ?_; rintro e w' ⟨rfl, m, rfl⟩)
  go_ret
  exact ⟨rfl, m, rfl⟩
set_option maxRecDepth 100000 in
set_option maxHeartbeats 1000000 in
theorem remCode (N n : Nat) (w : World) (h : 0 < n) (hn : n < 18446744073709551616) :
    Calls Tryd.prog 59 #[wv (hiW N) (loW N), .int .u64 n] w (tU64 w (N % n)) := by
  have D := Lib.hid (fun w => rem64 N n w h hn)
  clear h hn
  go_enter Tryd.func59, Tryd.ntmps59
  go_wp2_with (go_at_call 78; refine (D.out _).mono ?_; rintro e w' ⟨rfl, m, rfl⟩)
  go_ret
  exact ⟨rfl, below_drewN ((Below.refl _ _).alloc (Nat.le_refl _) _) m⟩
theorem quiet_draw {P : Program} {f : FuncId} {args : Array Value} {w : World} {n : Nat} {v : Value}
    (h : Calls P f args (w.drewN n) fun e w' => e = .returned v ∧ ∃ m, w' = (w.drewN n).drewN m) : Calls P f args (w.drewN n) fun e w'' => e = .returned v ∧ ∃ m, w'' = w.drewN m :=
  h.mono fun _ _ ⟨he, m, hm⟩ => ⟨he, n + m, by rw [hm, World.drewN_drewN]⟩
set_option maxRecDepth 100000 in
set_option maxHeartbeats 1000000 in
theorem quoCode (N n : Nat) (w : World) (h : 0 < n) (hn : n < 18446744073709551616) (hN : hiW N < 18446744073709551616) :
    Calls Tryd.prog 60 #[wv (hiW N) (loW N), .int .u64 n] w (tWide w (N / n)) := by
  have D := fun w => div64_any (hiW N % n) (loW N) n w (Nat.mod_lt _ h) (loW_lt N) hn
  unfold tDiv64 at D
  obtain ⟨g1, g2⟩ := hl_of (quo_lt (N := N) h) (div_halves (N := N) h)
  have n0 : ¬ (n : Int) = 0 := by omega
  have n1 : (0 : Int) < (n : Int) := by omega
  have e1 : ((hiW N : Nat) : Int) % (n : Int) = ((hiW N % n : Nat) : Int) := (Int.natCast_emod _ _).symm
  have e2 : ((hiW N : Nat) : Int) / (n : Int) = ((hiW N / n : Nat) : Int) := (Int.natCast_ediv _ _).symm
  have e3 : IntKind.u64.wrap ((hiW N / n : Nat) : Int) = ((hiW N / n : Nat) : Int) := wrapN (Nat.lt_of_le_of_lt (Nat.div_le_self _ _) hN)
  unfold tWide
  rw [← g1, ← g2]
  generalize (hiW N % n * 18446744073709551616 + loW N) / n = q at *
  generalize (hiW N % n * 18446744073709551616 + loW N) % n = q' at *
  generalize hiW N % n = r at *
  generalize hiW N / n = d at *
  generalize hiW N = a at *
  generalize loW N = b at *
  have D := Lib.hid D
  clear h hn g1 g2 hN
  go_enter Tryd.func60, Tryd.ntmps60
  go_wp2
  go_quiet ((go_at_call 79; exact quiet_draw (D.out _)))
  go_wp2
  refine bodyPost_ret (v := wv d q) (by simp [results, Tryd.results60, go_sem]) rfl ?_
  exact ⟨rfl, ((below_drewN (((Below.refl _ _).alloc (Nat.le_refl _) _).alloc (by simp) _) _).setCell (by simp) _).setCell (by simp) _⟩
/-! ### exact, negated, inverted -/
abbrev fv (s : Bool) (n d : Nat) : Value := .agg #[.bool s, .int .u64 n, .int .u64 d]
def tFrac (w : World) (s : Bool) (n d : Nat) (e : Ending) (w' : World) : Prop := e = .returned (fv s n d) ∧ Below w.heap.size w w'
set_option maxRecDepth 100000 in
set_option maxHeartbeats 1000000 in
theorem negCode (s : Bool) (n d : Nat) (w : World) : Calls Tryd.prog 44 #[fv s n d] w (tFrac w (!s) n d) := by
  go_enter Tryd.func44, Tryd.ntmps44
  go_wp2
  refine bodyPost_ret (v := fv (!s) n d) (by simp [results, Tryd.results44, go_sem]) rfl ?_
  exact ⟨rfl, ((Below.refl _ _).alloc (Nat.le_refl _) _).alloc (by simp) _⟩
set_option maxRecDepth 100000 in
set_option maxHeartbeats 1000000 in
theorem invCode (s : Bool) (n d : Nat) (w : World) : Calls Tryd.prog 46 #[fv s n d] w (tFrac w s d n) := by
  go_enter Tryd.func46, Tryd.ntmps46
  go_wp2
  refine bodyPost_ret (v := fv s d n) (by simp [results, Tryd.results46, go_sem]) rfl ?_
  exact ⟨rfl, ((Below.refl _ _).alloc (Nat.le_refl _) _).alloc (by simp) _⟩
set_option maxRecDepth 100000 in
set_option maxHeartbeats 4000000 in
theorem exactCode (a b : Int) (w : World) (a0 : -9223372036854775808 ≤ a) (a1 : a ≤ 9223372036854775807) (b0 : -9223372036854775808 ≤ b) (b1 : b ≤ 9223372036854775807) :
    Calls Tryd.prog 40 #[rv a b] w (tFrac w (decide (a < 0)) a.natAbs b.natAbs) := by
  have SA := Lib.hid (fun w => sizeCode a w a0 a1)
  have SB := Lib.hid (fun w => sizeCode b w b0 b1)
  generalize a.natAbs = p at *
  generalize b.natAbs = q at *
  go_enter Tryd.func40, Tryd.ntmps40
  go_wp2
  have T := Lib.hid ((Two.new w (.int .i64 a) (.int .i64 b) 23).alloc (.cells #[.bool false, .int .u64 0, .int .u64 0] 54))
  have T2 := Lib.hid ((Two.new w (.int .i64 a) (.int .i64 b) 23).alloc (.cells #[.bool (decide (a < 0)), .int .u64 p, .int .u64 q] 54))
  go_region_held3 (fun w' => w'.cell? ⟨w.heap.size, 0, none⟩ = some (.int .i64 a) ∧ w'.cell? ⟨w.heap.size, 1, none⟩ = some (.int .i64 b)) (first | assumption | exact ⟨T.out.drew.c0, T.out.drew.c1⟩ | exact ⟨T2.out.drew.c0, T2.out.drew.c1⟩ | fail)
    (first | (go_at_call 35; ((with_reducible refine (SA.out _).mono ?_); rintro e w' ⟨rfl, rfl⟩)) | (go_at_call 35; ((with_reducible refine (SB.out _).mono ?_); rintro e w' ⟨rfl, rfl⟩)))
  all_goals
    go_wp2
    refine bodyPost_ret (v := fv (decide (a < 0)) p q) (by simp [results, Tryd.results40, go_sem]) rfl ?_
    exact ⟨rfl, (((Below.refl _ _).alloc (Nat.le_refl _) _).alloc (by simp) _).drew⟩
/-! ### fitted -/
theorem lim_i64 (neg : Bool) : lim neg ≤ 9223372036854775808 := by cases neg <;> decide
theorem fit_ok {neg : Bool} {T B : Nat} (h1 : hiW T = 0) (h2 : loW T ≤ lim neg) (h3 : hiW B = 0) (h4 : loW B ≤ lim false) : (sg neg (loW T), ((loW B : Nat) : Int), (0 : Int)) = fit neg T B := by
  have e1 := hl T
  have e2 := hl B
  rw [h1] at e1
  rw [h3] at e2
  have e1 : loW T = T := by omega
  have e2 : loW B = B := by omega
  rw [e1] at h2 ⊢
  rw [e2] at h4 ⊢
  exact fit_yes h2 h4
theorem fit_bad {neg : Bool} {T B : Nat} (h : 0 < hiW T ∨ lim neg < loW T ∨ 0 < hiW B ∨ lim false < loW B) : ((0 : Int), (0 : Int), (3 : Int)) = fit neg T B := by
  apply fit_no
  intro ⟨a, b⟩
  have l1 := lim_i64 neg
  have l2 := lim_i64 false
  have e1 := hl T
  have e2 := hl B
  have := loW_lt T
  have := loW_lt B
  rcases h with h | h | h | h
  · have : 18446744073709551616 ≤ hiW T * 18446744073709551616 := Nat.le_mul_of_pos_left _ h
    omega
  · omega
  · have : 18446744073709551616 ≤ hiW B * 18446744073709551616 := Nat.le_mul_of_pos_left _ h
    omega
  · omega
set_option maxRecDepth 100000 in
set_option maxHeartbeats 4000000 in
theorem fittedP (T B : Nat) (w : World) : Calls Tryd.prog 36 #[.bool false, wv (hiW T) (loW T), wv (hiW B) (loW B)] w (tRes w (fit false T B)) := by
  have OK := Lib.hid (fun h1 h2 h3 h4 => fit_ok (neg := false) (T := T) (B := B) h1 h2 h3 h4)
  have BAD := Lib.hid (fun h => fit_bad (neg := false) (T := T) (B := B) h)
  generalize hiW T = a at *
  generalize loW T = c at *
  generalize hiW B = b at *
  generalize loW B = d at *
  generalize fit false T B = R at *
  have hcase : (a = 0 ∧ (c : Int) ≤ 9223372036854775807 ∧ b = 0 ∧ (d : Int) ≤ 9223372036854775807) ∨ 0 < a ∨ (a = 0 ∧ 9223372036854775807 < (c : Int)) ∨ (a = 0 ∧ (c : Int) ≤ 9223372036854775807 ∧ 0 < b) ∨ (a = 0 ∧ (c : Int) ≤ 9223372036854775807 ∧ b = 0 ∧ 9223372036854775807 < (d : Int)) := by omega
  rcases hcase with ⟨h1, h2, h3, h4⟩ | h1 | ⟨h1, h2⟩ | ⟨h1, h2, h3⟩ | ⟨h1, h2, h3, h4⟩
  · have hc : Hid (((c : Int), (d : Int), (0 : Int)) = R) := Lib.hid (OK.out h1 (by unfold lim; simp; omega) h3 (by unfold lim; simp; omega))
    subst h1 h3
    have e1 : IntKind.i64.wrap (c : Int) = (c : Int) := by rw [IntKind.wrap_i64]; omega
    have e2 : IntKind.i64.wrap (d : Int) = (d : Int) := by rw [IntKind.wrap_i64]; omega
    have d2 : decide (9223372036854775807 < (c : Int)) = false := decide_eq_false (by omega)
    have d4 : decide (9223372036854775807 < (d : Int)) = false := decide_eq_false (by omega)
    go_enter Tryd.func36, Tryd.ntmps36
    go_wp2
    refine bodyPost_ret (v := .tuple #[.agg #[.int .i64 (c : Int), .int .i64 (d : Int)], .int .i64 0]) (by simp [results, Tryd.results36, go_sem]) rfl ?_
    exact ⟨by rw [resV_mk hc.out], (((Below.refl _ _).alloc (Nat.le_refl _) _).alloc (by simp) _).alloc (by simp; omega) _⟩
  · have hc := Lib.hid (BAD.out (.inl h1))
    have h1' : (0 : Int) < (a : Int) := by omega
    go_enter Tryd.func36, Tryd.ntmps36
    go_wp2
    refine bodyPost_ret (v := .tuple #[.agg #[.int .i64 0, .int .i64 0], .int .i64 3]) (by simp [results, Tryd.results36, go_sem]) rfl ?_
    exact ⟨by rw [resV_mk hc.out], (((Below.refl _ _).alloc (Nat.le_refl _) _).alloc (by simp) _).alloc (by simp; omega) _⟩
  · have hc := Lib.hid (BAD.out (.inr (.inl (by unfold lim; simp; omega))))
    subst h1
    go_enter Tryd.func36, Tryd.ntmps36
    go_wp2
    refine bodyPost_ret (v := .tuple #[.agg #[.int .i64 0, .int .i64 0], .int .i64 3]) (by simp [results, Tryd.results36, go_sem]) rfl ?_
    exact ⟨by rw [resV_mk hc.out], (((Below.refl _ _).alloc (Nat.le_refl _) _).alloc (by simp) _).alloc (by simp; omega) _⟩
  · have hc := Lib.hid (BAD.out (.inr (.inr (.inl h3))))
    subst h1
    have h3' : (0 : Int) < (b : Int) := by omega
    have d2 : decide (9223372036854775807 < (c : Int)) = false := decide_eq_false (by omega)
    go_enter Tryd.func36, Tryd.ntmps36
    go_wp2
    refine bodyPost_ret (v := .tuple #[.agg #[.int .i64 0, .int .i64 0], .int .i64 3]) (by simp [results, Tryd.results36, go_sem]) rfl ?_
    exact ⟨by rw [resV_mk hc.out], (((Below.refl _ _).alloc (Nat.le_refl _) _).alloc (by simp) _).alloc (by simp; omega) _⟩
  · have hc := Lib.hid (BAD.out (.inr (.inr (.inr (by unfold lim; simp; omega)))))
    subst h1 h3
    have d2 : decide (9223372036854775807 < (c : Int)) = false := decide_eq_false (by omega)
    go_enter Tryd.func36, Tryd.ntmps36
    go_wp2
    refine bodyPost_ret (v := .tuple #[.agg #[.int .i64 0, .int .i64 0], .int .i64 3]) (by simp [results, Tryd.results36, go_sem]) rfl ?_
    exact ⟨by rw [resV_mk hc.out], (((Below.refl _ _).alloc (Nat.le_refl _) _).alloc (by simp) _).alloc (by simp; omega) _⟩
set_option maxRecDepth 100000 in
set_option maxHeartbeats 4000000 in
theorem fittedN (T B : Nat) (w : World) : Calls Tryd.prog 36 #[.bool true, wv (hiW T) (loW T), wv (hiW B) (loW B)] w (tRes w (fit true T B)) := by
  have OK := Lib.hid (fun h1 h2 h3 h4 => fit_ok (neg := true) (T := T) (B := B) h1 h2 h3 h4)
  have BAD := Lib.hid (fun h => fit_bad (neg := true) (T := T) (B := B) h)
  generalize hiW T = a at *
  generalize loW T = c at *
  generalize hiW B = b at *
  generalize loW B = d at *
  generalize fit true T B = R at *
  have hcase : (a = 0 ∧ (c : Int) ≤ 9223372036854775808 ∧ b = 0 ∧ (d : Int) ≤ 9223372036854775807) ∨ 0 < a ∨ (a = 0 ∧ 9223372036854775808 < (c : Int)) ∨ (a = 0 ∧ (c : Int) ≤ 9223372036854775808 ∧ 0 < b) ∨ (a = 0 ∧ (c : Int) ≤ 9223372036854775808 ∧ b = 0 ∧ 9223372036854775807 < (d : Int)) := by omega
  rcases hcase with ⟨h1, h2, h3, h4⟩ | h1 | ⟨h1, h2⟩ | ⟨h1, h2, h3⟩ | ⟨h1, h2, h3, h4⟩
  · have hc : Hid ((-(c : Int), (d : Int), (0 : Int)) = R) := Lib.hid (OK.out h1 (by unfold lim; simp; omega) h3 (by unfold lim; simp; omega))
    subst h1 h3
    have e1 : IntKind.i64.wrap (IntKind.u64.wrap (-(c : Int))) = -(c : Int) := by simp only [IntKind.wrap_u64, IntKind.wrap_i64]; omega
    have e2 : IntKind.i64.wrap (d : Int) = (d : Int) := by rw [IntKind.wrap_i64]; omega
    have d2 : decide (9223372036854775808 < (c : Int)) = false := decide_eq_false (by omega)
    have d4 : decide (9223372036854775807 < (d : Int)) = false := decide_eq_false (by omega)
    go_enter Tryd.func36, Tryd.ntmps36
    go_wp2
    refine bodyPost_ret (v := .tuple #[.agg #[.int .i64 (-(c : Int)), .int .i64 (d : Int)], .int .i64 0]) (by simp [results, Tryd.results36, go_sem]) rfl ?_
    exact ⟨by rw [resV_mk hc.out], (((Below.refl _ _).alloc (Nat.le_refl _) _).alloc (by simp) _).alloc (by simp; omega) _⟩
  · have hc := Lib.hid (BAD.out (.inl h1))
    have h1' : (0 : Int) < (a : Int) := by omega
    go_enter Tryd.func36, Tryd.ntmps36
    go_wp2
    refine bodyPost_ret (v := .tuple #[.agg #[.int .i64 0, .int .i64 0], .int .i64 3]) (by simp [results, Tryd.results36, go_sem]) rfl ?_
    exact ⟨by rw [resV_mk hc.out], (((Below.refl _ _).alloc (Nat.le_refl _) _).alloc (by simp) _).alloc (by simp; omega) _⟩
  · have hc := Lib.hid (BAD.out (.inr (.inl (by unfold lim; simp; omega))))
    subst h1
    go_enter Tryd.func36, Tryd.ntmps36
    go_wp2
    refine bodyPost_ret (v := .tuple #[.agg #[.int .i64 0, .int .i64 0], .int .i64 3]) (by simp [results, Tryd.results36, go_sem]) rfl ?_
    exact ⟨by rw [resV_mk hc.out], (((Below.refl _ _).alloc (Nat.le_refl _) _).alloc (by simp) _).alloc (by simp; omega) _⟩
  · have hc := Lib.hid (BAD.out (.inr (.inr (.inl h3))))
    subst h1
    have h3' : (0 : Int) < (b : Int) := by omega
    have d2 : decide (9223372036854775808 < (c : Int)) = false := decide_eq_false (by omega)
    go_enter Tryd.func36, Tryd.ntmps36
    go_wp2
    refine bodyPost_ret (v := .tuple #[.agg #[.int .i64 0, .int .i64 0], .int .i64 3]) (by simp [results, Tryd.results36, go_sem]) rfl ?_
    exact ⟨by rw [resV_mk hc.out], (((Below.refl _ _).alloc (Nat.le_refl _) _).alloc (by simp) _).alloc (by simp; omega) _⟩
  · have hc := Lib.hid (BAD.out (.inr (.inr (.inr (by unfold lim; simp; omega)))))
    subst h1 h3
    have d2 : decide (9223372036854775808 < (c : Int)) = false := decide_eq_false (by omega)
    go_enter Tryd.func36, Tryd.ntmps36
    go_wp2
    refine bodyPost_ret (v := .tuple #[.agg #[.int .i64 0, .int .i64 0], .int .i64 3]) (by simp [results, Tryd.results36, go_sem]) rfl ?_
    exact ⟨by rw [resV_mk hc.out], (((Below.refl _ _).alloc (Nat.le_refl _) _).alloc (by simp) _).alloc (by simp; omega) _⟩
theorem fittedCode (neg : Bool) (T B : Nat) (w : World) : Calls Tryd.prog 36 #[.bool neg, wv (hiW T) (loW T), wv (hiW B) (loW B)] w (tRes w (fit neg T B)) := by
  cases neg
  · exact fittedP T B w
  · exact fittedN T B w
end Go.Proofs.YtjighmmfaedgbaaDoor.RatW
