/-
  What the functions with loops return: powers, greatest common divisors and least common multiples, in package num and in its reference.
-/
import Derived.Test.YtdibcmcjnhhbgaaDoorNumWalks
import Derived.LoopTactic
import Derived.Deep.QuietTactic
import Derived.BigQuiet
namespace Go.Proofs.YtdibcmcjnhhbgaaDoor.NumW
open Go Go.RowKit Go.Proofs.YtdibcmcjnhhbgaaDoor.NumM

theorem quiet_same {P : Program} {f : FuncId} {args : Array Value} {w : World} {n : Nat} {v : Value}
    (h : Calls P f args (w.drewN n) fun e w' => e = .returned v ∧ w.drewN n = w') : Calls P f args (w.drewN n) fun e w'' => e = .returned v ∧ ∃ m, w'' = w.drewN m :=
  h.mono fun _ _ ⟨he, hm⟩ => ⟨he, n, hm.symm⟩

theorem lim1 {x : Int} (h : okI x = true) : (lim x).1 = x := by rw [lim_ok h]
theorem lim2 {x : Int} (h : okI x = true) : (lim x).2 = 0 := by rw [lim_ok h]
theorem lim3 {x : Int} (h : okI x = false) : (lim x).2 = 3 := by rw [lim_no h]

set_option maxHeartbeats 400000 in
theorem powCode_any (a n : Int) (w : World) (a0 : -9223372036854775808 ≤ a) (a1 : a ≤ 9223372036854775807) (n0 : -9223372036854775808 ≤ n) (n1 : n ≤ 9223372036854775807) :
    Calls Tryd.prog 19 #[.int .i64 a, .int .i64 n] w fun e w' => e = .returned (.tuple #[.int .i64 (powS a n).1, .int .i64 (powS a n).2]) ∧ w = w' := by
  by_cases hn : n < 0
  · rw [powS, if_pos hn]
    go_enter Tryd.func19, Tryd.ntmps19
    go_wp2
    go_ret2
    exact ⟨rfl, rfl⟩
  rw [powS, if_neg hn]
  have hn0 : 0 ≤ n := by omega
  clear hn
  by_cases hs : (a.natAbs : Int) ≤ 1
  · rw [pow_small (a := a) (by omega) n.toNat]
    by_cases hm : n ≤ 2 - n % 2
    · obtain ⟨M, hM, hM1, hM2⟩ : ∃ M : Nat, min n.toNat (2 - n.toNat % 2) = M ∧ (M : Int) ≤ n ∧ n ≤ (M : Int) := ⟨_, rfl, by omega, by omega⟩
      rw [hM]
      clear hM
      go_enter Tryd.func19, Tryd.ntmps19
      go_wp2_with (go_at_call 29; refine (size_any _ _ (by omega) (by omega)).mono ?_; rintro e w' ⟨rfl, rfl⟩)
      go_loop [6, 20] (fun p i => ∃ k : Nat, (k : Int) ≤ n ∧ i = .int .i64 k ∧ okI (a ^ k) = true ∧ p = .int .i64 (a ^ k)) (fun _ i => (n - intOf i).toNat)
      case atStart => exact ⟨0, by omega, rfl, okI_one a, by rw [Int.pow_zero]⟩
      case round =>
        obtain ⟨k, hk, rfl, hok, rfl⟩ := hrel
        have hb := okI_iff.1 hok
        have hb0 := hb.1
        have hb1 := hb.2
        clear hb
        by_cases hlt : (k : Int) < n
        · by_cases g : okI (a ^ k * a) = true
          · have l1 := lim1 g
            have l2 := lim2 g
            have G := Lib.hid g
            have HOK := Lib.hid hok
            clear g hok
            go_wp2_with (go_at_call 14; refine (mulCode_any _ _ _ (by omega) (by omega) (by omega) (by omega)).mono ?_; rintro e w' ⟨rfl, rfl⟩)
            go_round
            case rel => exact ⟨k + 1, by omega, by go_num, by rw [Int.pow_succ]; exact G.out, by rw [Int.pow_succ]⟩
            case measure => simp [intOf]; omega
          · have g' : okI (a ^ k * a) = false := by simpa using g
            have l3 := lim3 g'
            have G := Lib.hid g'
            have HOK := Lib.hid hok
            clear g g' hok
            go_wp2_with (go_at_call 14; refine (mulCode_any _ _ _ (by omega) (by omega) (by omega) (by omega)).mono ?_; rintro e w' ⟨rfl, rfl⟩)
            go_ret2
            exact ⟨ret2 (pow_fails (k := k) (by rw [Int.pow_succ]; exact G.out) (by omega)), rfl⟩
        · have HOK := Lib.hid hok
          clear hok
          go_wp2
          go_ret2
          exact ⟨ret2 (by rw [show M = k by omega, lim_ok HOK.out]), rfl⟩
    · obtain ⟨M, hM, hM1, hM2⟩ : ∃ M : Nat, min n.toNat (2 - n.toNat % 2) = M ∧ (M : Int) ≤ 2 - n % 2 ∧ 2 - n % 2 ≤ (M : Int) := ⟨_, rfl, by omega, by omega⟩
      rw [hM]
      clear hM
      go_enter Tryd.func19, Tryd.ntmps19
      go_wp2_with (go_at_call 29; refine (size_any _ _ (by omega) (by omega)).mono ?_; rintro e w' ⟨rfl, rfl⟩)
      go_loop [6, 20] (fun p i => ∃ k : Nat, (k : Int) ≤ 2 - n % 2 ∧ i = .int .i64 k ∧ okI (a ^ k) = true ∧ p = .int .i64 (a ^ k)) (fun _ i => (2 - n % 2 - intOf i).toNat)
      case atStart => exact ⟨0, by omega, rfl, okI_one a, by rw [Int.pow_zero]⟩
      case round =>
        obtain ⟨k, hk, rfl, hok, rfl⟩ := hrel
        have hb := okI_iff.1 hok
        have hb0 := hb.1
        have hb1 := hb.2
        clear hb
        by_cases hlt : (k : Int) < 2 - n % 2
        · by_cases g : okI (a ^ k * a) = true
          · have l1 := lim1 g
            have l2 := lim2 g
            have G := Lib.hid g
            have HOK := Lib.hid hok
            clear g hok
            go_wp2_with (go_at_call 14; refine (mulCode_any _ _ _ (by omega) (by omega) (by omega) (by omega)).mono ?_; rintro e w' ⟨rfl, rfl⟩)
            go_round
            case rel => exact ⟨k + 1, by omega, by go_num, by rw [Int.pow_succ]; exact G.out, by rw [Int.pow_succ]⟩
            case measure => simp [intOf]; omega
          · have g' : okI (a ^ k * a) = false := by simpa using g
            have l3 := lim3 g'
            have G := Lib.hid g'
            have HOK := Lib.hid hok
            clear g g' hok
            go_wp2_with (go_at_call 14; refine (mulCode_any _ _ _ (by omega) (by omega) (by omega) (by omega)).mono ?_; rintro e w' ⟨rfl, rfl⟩)
            go_ret2
            exact ⟨ret2 (pow_fails (k := k) (by rw [Int.pow_succ]; exact G.out) (by omega)), rfl⟩
        · have HOK := Lib.hid hok
          clear hok
          go_wp2
          go_ret2
          exact ⟨ret2 (by rw [show M = k by omega, lim_ok HOK.out]), rfl⟩
  · obtain ⟨M, hM, hM1, hM2⟩ : ∃ M : Nat, n.toNat = M ∧ (M : Int) ≤ n ∧ n ≤ (M : Int) := ⟨_, rfl, by omega, by omega⟩
    rw [hM]
    clear hM
    go_enter Tryd.func19, Tryd.ntmps19
    go_wp2_with (go_at_call 29; refine (size_any _ _ (by omega) (by omega)).mono ?_; rintro e w' ⟨rfl, rfl⟩)
    go_loop [6, 20] (fun p i => ∃ k : Nat, (k : Int) ≤ n ∧ i = .int .i64 k ∧ okI (a ^ k) = true ∧ p = .int .i64 (a ^ k)) (fun _ i => (n - intOf i).toNat)
    case atStart => exact ⟨0, by omega, rfl, okI_one a, by rw [Int.pow_zero]⟩
    case round =>
      obtain ⟨k, hk, rfl, hok, rfl⟩ := hrel
      have hb := okI_iff.1 hok
      have hb0 := hb.1
      have hb1 := hb.2
      clear hb
      by_cases hlt : (k : Int) < n
      · by_cases g : okI (a ^ k * a) = true
        · have l1 := lim1 g
          have l2 := lim2 g
          have G := Lib.hid g
          have HOK := Lib.hid hok
          clear g hok
          go_wp2_with (go_at_call 14; refine (mulCode_any _ _ _ (by omega) (by omega) (by omega) (by omega)).mono ?_; rintro e w' ⟨rfl, rfl⟩)
          go_round
          case rel => exact ⟨k + 1, by omega, by go_num, by rw [Int.pow_succ]; exact G.out, by rw [Int.pow_succ]⟩
          case measure => simp [intOf]; omega
        · have g' : okI (a ^ k * a) = false := by simpa using g
          have l3 := lim3 g'
          have G := Lib.hid g'
          have HOK := Lib.hid hok
          clear g g' hok
          go_wp2_with (go_at_call 14; refine (mulCode_any _ _ _ (by omega) (by omega) (by omega) (by omega)).mono ?_; rintro e w' ⟨rfl, rfl⟩)
          go_ret2
          exact ⟨ret2 (pow_fails (k := k) (by rw [Int.pow_succ]; exact G.out) (by omega)), rfl⟩
      · have HOK := Lib.hid hok
        clear hok
        go_wp2
        go_ret2
        exact ⟨ret2 (by rw [show M = k by omega, lim_ok HOK.out]), rfl⟩
set_option maxHeartbeats 400000 in
theorem gcdCode_any (a b : Int) (w : World) (a0 : -9223372036854775808 ≤ a) (a1 : a ≤ 9223372036854775807) (b0 : -9223372036854775808 ≤ b) (b1 : b ≤ 9223372036854775807) :
    Calls Tryd.prog 23 #[.int .i64 a, .int .i64 b] w fun e w' => e = .returned (.int .i64 (gcdS a b)) ∧ ∃ m, w' = w.drewN m := by
  go_enter Tryd.func23, Tryd.ntmps23
  go_wp2_with (go_at_call 29; refine (size_any _ _ (by omega) (by omega)).mono ?_; rintro e w' ⟨rfl, rfl⟩)
  go_loopw [5, 6] (fun x y wr => ∃ p q n : Nat, (p : Int) ≤ 9223372036854775808 ∧ (q : Int) ≤ 9223372036854775808 ∧ Nat.gcd p q = Int.gcd a b ∧ x = .int .u64 p ∧ y = .int .u64 q ∧ wr = w.drewN n) (fun _ y _ => (intOf y).toNat)
  case atStart => exact ⟨a.natAbs, b.natAbs, 0, by omega, by omega, rfl, rfl, rfl, rfl⟩
  case round =>
    obtain ⟨p, q, n, hp, hq, hg, rfl, rfl, rfl⟩ := hrel
    have G := Lib.hid hg
    clear hg
    by_cases hz : q = 0
    · subst hz
      by_cases hl : (p : Int) ≤ 9223372036854775807
      all_goals
        go_wp2
        go_ret
        exact ⟨ret1 (by first | exact gcd_endLe G.out hl | exact gcd_endGt G.out hl), _, rfl⟩
    · have hz1 : 1 ≤ (q : Int) := by omega
      have hz2 : ((q : Int) == 0) = false := by simpa using hz
      have hlt : p % q < q := Nat.mod_lt _ (by omega)
      go_wp2
      go_quiet (fail)
      go_wp2
      go_roundw
      case rel => exact ⟨q, p % q, n + nq, hq, by omega, by rw [← G.out]; exact gcd_step p q, rfl, by first | rfl | simp, by first | rfl | rw [World.drewN_drewN]⟩
      case measure => simp [intOf]; omega
set_option maxHeartbeats 400000 in
theorem gcdRef_any (a b : Int) (w : World) (a0 : -9223372036854775808 ≤ a) (a1 : a ≤ 9223372036854775807) (b0 : -9223372036854775808 ≤ b) (b1 : b ≤ 9223372036854775807) :
    Calls Tryd.prog 24 #[.int .i64 a, .int .i64 b] w fun e w' => e = .returned (.int .i64 (gcdS a b)) ∧ w = w' := by
  go_enter Tryd.func24, Tryd.ntmps24
  go_wp2_with (go_at_call 30; refine (below_any _ _ (by omega) (by omega)).mono ?_; rintro e w' ⟨rfl, rfl⟩)
  go_loop [5, 6] (fun x y => ∃ p q : Nat, (p : Int) ≤ 9223372036854775808 ∧ (q : Int) ≤ 9223372036854775808 ∧ Nat.gcd p q = Int.gcd a b ∧ x = .int .i64 (-(p : Int)) ∧ y = .int .i64 (-(q : Int))) (fun _ y => (-intOf y).toNat)
  case atStart => exact ⟨a.natAbs, b.natAbs, by omega, by omega, rfl, rfl, rfl⟩
  case round =>
    obtain ⟨p, q, hp, hq, hg, rfl, rfl⟩ := hrel
    have G := Lib.hid hg
    clear hg
    by_cases hz : q = 0
    · subst hz
      by_cases hl : (p : Int) ≤ 9223372036854775807
      · have hB : (-(p : Int) == -9223372036854775808) = false := by simp; omega
        go_wp2
        go_ret
        exact ⟨ret1 (gcd_endLe G.out hl), rfl⟩
      · have hB : (-(p : Int) == -9223372036854775808) = true := by simp; omega
        go_wp2
        go_ret
        exact ⟨ret1 (gcd_endGt G.out (by omega)), rfl⟩
    · have hz1 : 1 ≤ (q : Int) := by omega
      have hz2 : (-(q : Int) == 0) = false := by simpa using hz
      have hlt : p % q < q := Nat.mod_lt _ (by omega)
      go_wp2
      go_round
      case rel => exact ⟨q, p % q, hq, by omega, by rw [← G.out]; exact gcd_step p q, rfl, by simp⟩
      case measure => simp [intOf]; omega
set_option maxHeartbeats 400000 in
theorem powRef_any (a n : Int) (w : World) (a0 : -9223372036854775808 ≤ a) (a1 : a ≤ 9223372036854775807) (n0 : -9223372036854775808 ≤ n) (n1 : n ≤ 9223372036854775807) :
    Calls Tryd.prog 20 #[.int .i64 a, .int .i64 n] w fun e w' => e = .returned (.tuple #[.int .i64 (powS a n).1, .int .i64 (powS a n).2]) ∧ w = w' := by
  by_cases hn : n < 0
  · rw [powS, if_pos hn]
    go_enter Tryd.func20, Tryd.ntmps20
    go_wp2
    go_ret2
    exact ⟨rfl, rfl⟩
  rw [powS, if_neg hn]
  have hn0 : 0 ≤ n := by omega
  clear hn
  by_cases k0 : n = 0
  · subst k0
    go_enter Tryd.func20, Tryd.ntmps20
    go_wp2
    go_ret2
    exact ⟨ret2 (by rw [Int.toNat_zero, Int.pow_zero]; rfl), rfl⟩
  have k0' : (n == 0) = false := by simpa using k0
  by_cases h1 : a = 1
  · subst h1
    go_enter Tryd.func20, Tryd.ntmps20
    go_wp2
    go_ret2
    exact ⟨ret2 (by rw [Int.one_pow]; rfl), rfl⟩
  have h1' : (a == 1) = false := by simpa using h1
  by_cases h2 : a = -1
  · subst h2
    by_cases hp : n % 2 = 0
    · have hp' : (n % 2 == 0) = true := by simpa using hp
      have E := Lib.hid (pow_even hn0 hp)
      clear hp
      go_enter Tryd.func20, Tryd.ntmps20
      go_wp2
      go_ret2
      exact ⟨ret2 (by rw [E.out]; rfl), rfl⟩
    · have hp' : (n % 2 == 0) = false := by simpa using hp
      have E := Lib.hid (pow_odd hn0 hp)
      clear hp
      go_enter Tryd.func20, Tryd.ntmps20
      go_wp2
      go_ret2
      exact ⟨ret2 (by rw [E.out]; rfl), rfl⟩
  have h2' : (a == -1) = false := by simpa using h2
  by_cases h3 : a = 0
  · subst h3
    go_enter Tryd.func20, Tryd.ntmps20
    go_wp2
    go_ret2
    exact ⟨ret2 (by rw [Int.zero_pow (by omega)]; rfl), rfl⟩
  have h3' : (a == 0) = false := by simpa using h3
  obtain ⟨M, hM, hM1, hM2⟩ : ∃ M : Nat, n.toNat = M ∧ (M : Int) ≤ n ∧ n ≤ (M : Int) := ⟨_, rfl, by omega, by omega⟩
  rw [hM]
  clear hM
  go_enter Tryd.func20, Tryd.ntmps20
  go_wp2
  go_loop [6, 7] (fun p i => ∃ k : Nat, (k : Int) ≤ n ∧ i = .int .i64 k ∧ okI (a ^ k) = true ∧ p = .int .i64 (a ^ k)) (fun _ i => (n - intOf i).toNat)
  case atStart => exact ⟨0, by omega, rfl, okI_one a, by rw [Int.pow_zero]⟩
  case round =>
    obtain ⟨k, hk, rfl, hok, rfl⟩ := hrel
    have hb := okI_iff.1 hok
    have hb0 := hb.1
    have hb1 := hb.2
    clear hb
    by_cases hlt : (k : Int) < n
    · by_cases g : okI (a ^ k * a) = true
      · have l1 := lim1 g
        have l2 := lim2 g
        have G := Lib.hid g
        have HOK := Lib.hid hok
        clear g hok
        go_wp2_with (go_at_call 15; refine (mulRef_any _ _ _ (by omega) (by omega) (by omega) (by omega)).mono ?_; rintro e w' ⟨rfl, rfl⟩)
        go_round
        case rel => exact ⟨k + 1, by omega, by go_num, by rw [Int.pow_succ]; exact G.out, by rw [Int.pow_succ]⟩
        case measure => simp [intOf]; omega
      · have g' : okI (a ^ k * a) = false := by simpa using g
        have l3 := lim3 g'
        have G := Lib.hid g'
        have HOK := Lib.hid hok
        clear g g' hok
        go_wp2_with (go_at_call 15; refine (mulRef_any _ _ _ (by omega) (by omega) (by omega) (by omega)).mono ?_; rintro e w' ⟨rfl, rfl⟩)
        go_ret2
        exact ⟨ret2 (pow_fails (k := k) (by rw [Int.pow_succ]; exact G.out) (by omega)), rfl⟩
    · have HOK := Lib.hid hok
      clear hok
      go_wp2
      go_ret2
      exact ⟨ret2 (by rw [show M = k by omega, lim_ok HOK.out]), rfl⟩
theorem lcmRef_any (a b : Int) (w : World) (a0 : -9223372036854775808 ≤ a) (a1 : a ≤ 9223372036854775807) (b0 : -9223372036854775808 ≤ b) (b1 : b ≤ 9223372036854775807) :
    Calls Tryd.prog 22 #[.int .i64 a, .int .i64 b] w fun e w' => e = .returned (.tuple #[.int .i64 (lcmS a b).1, .int .i64 (lcmS a b).2]) ∧ ∃ m, w' = w.drewN m := by
  by_cases hz : a = 0 ∨ b = 0
  · rw [lcmS, if_pos hz]
    rcases hz with rfl | hb
    · go_enter Tryd.func22, Tryd.ntmps22
      go_wp2
      go_ret2
      exact ⟨rfl, 0, rfl⟩
    · subst hb
      by_cases ha : a = 0
      all_goals
        go_enter Tryd.func22, Tryd.ntmps22
        go_wp2
        go_ret2
        exact ⟨rfl, 0, rfl⟩
  have ha : a ≠ 0 := fun h => hz (.inl h)
  have hb : b ≠ 0 := fun h => hz (.inr h)
  have ha' : (a == 0) = false := by simpa using ha
  have hb' : (b == 0) = false := by simpa using hb
  by_cases hm : a = -9223372036854775808 ∨ b = -9223372036854775808
  · rw [lcmS, if_neg hz, if_pos hm]
    clear hz
    rcases hm with rfl | hb
    · go_enter Tryd.func22, Tryd.ntmps22
      go_wp2
      go_ret2
      exact ⟨rfl, 0, rfl⟩
    · subst hb
      by_cases ha : a = -9223372036854775808
      all_goals
        go_enter Tryd.func22, Tryd.ntmps22
        go_wp2
        go_ret2
        exact ⟨rfl, 0, rfl⟩
  have ma : a ≠ -9223372036854775808 := fun h => hm (.inl h)
  have mb : b ≠ -9223372036854775808 := fun h => hm (.inr h)
  have ma' : (a == -9223372036854775808) = false := by simpa using ma
  have mb' : (b == -9223372036854775808) = false := by simpa using mb
  rw [lcmS, if_neg hz, if_neg hm]
  clear hz hm
  have gp := gcdS_pos (b := b) ha (by omega) a1
  have gp1 := gp.1
  have gp2 := gp.2
  have gp0 : ¬ gcdS a b = 0 := by omega
  have hq := quo_le (b := b) (a := a) (by omega) a1
  obtain ⟨q, hqe⟩ : ∃ q : Nat, a.natAbs / Int.gcd a b = q := ⟨_, rfl⟩
  have e1 : (-(a.natAbs : Int)).tdiv (gcdS a b) = -(q : Int) := by rw [quoN ha (by omega) a1, hqe]
  rw [hqe] at hq
  have e2 : IntKind.i64.wrap (-(q : Int)) = -(q : Int) := IntWalk.i64_in _ (by omega)
  rw [hqe]
  clear hqe gp
  rw [show (q : Int) * (b.natAbs : Int) = -(q : Int) * -(b.natAbs : Int) by rw [Int.neg_mul_neg]]
  go_enter Tryd.func22, Tryd.ntmps22
  go_wp2
  go_quiet (first | (go_at_call 30; exact quiet_same (below_any _ _ (by omega) (by omega))) | (go_at_call 24; exact quiet_same (gcdRef_any _ _ _ (by omega) (by omega) (by omega) (by omega))) | (go_at_call 15; exact quiet_same (mulRef_any _ _ _ (by omega) (by omega) (by omega) (by omega))))
  go_wp2
  go_ret2
  exact ⟨rfl, _, rfl⟩
theorem lcmCode_any (a b : Int) (w : World) (a0 : -9223372036854775808 ≤ a) (a1 : a ≤ 9223372036854775807) (b0 : -9223372036854775808 ≤ b) (b1 : b ≤ 9223372036854775807) :
    Calls Tryd.prog 21 #[.int .i64 a, .int .i64 b] w fun e w' => e = .returned (.tuple #[.int .i64 (lcmS a b).1, .int .i64 (lcmS a b).2]) ∧ ∃ m, w' = w.drewN m := by
  by_cases hz : a = 0 ∨ b = 0
  · rw [lcmS, if_pos hz]
    rcases hz with rfl | hb
    · go_enter Tryd.func21, Tryd.ntmps21
      go_wp2
      go_ret2
      exact ⟨rfl, 0, rfl⟩
    · subst hb
      by_cases ha : a = 0
      all_goals
        go_enter Tryd.func21, Tryd.ntmps21
        go_wp2
        go_ret2
        exact ⟨rfl, 0, rfl⟩
  have ha : a ≠ 0 := fun h => hz (.inl h)
  have hb : b ≠ 0 := fun h => hz (.inr h)
  have ha' : (a == 0) = false := by simpa using ha
  have hb' : (b == 0) = false := by simpa using hb
  by_cases hm : a = -9223372036854775808 ∨ b = -9223372036854775808
  · rw [lcmS, if_neg hz, if_pos hm]
    clear hz
    rcases hm with rfl | hb
    · go_enter Tryd.func21, Tryd.ntmps21
      go_wp2
      go_ret2
      exact ⟨rfl, 0, rfl⟩
    · subst hb
      by_cases ha : a = -9223372036854775808
      all_goals
        go_enter Tryd.func21, Tryd.ntmps21
        go_wp2
        go_ret2
        exact ⟨rfl, 0, rfl⟩
  have ma : a ≠ -9223372036854775808 := fun h => hm (.inl h)
  have mb : b ≠ -9223372036854775808 := fun h => hm (.inr h)
  have ma' : (a == -9223372036854775808) = false := by simpa using ma
  have mb' : (b == -9223372036854775808) = false := by simpa using mb
  rw [lcmS, if_neg hz, if_neg hm]
  clear hz hm
  have gp := gcdS_pos (b := b) ha (by omega) a1
  have gp1 := gp.1
  have gp2 := gp.2
  have gp0 : ¬ gcdS a b = 0 := by omega
  have hq := quo_le (b := b) (a := a) (by omega) a1
  obtain ⟨q, hqe⟩ : ∃ q : Nat, a.natAbs / Int.gcd a b = q := ⟨_, rfl⟩
  have e1 : (a.natAbs : Int).tdiv (gcdS a b) = (q : Int) := by rw [quoP ha (by omega) a1, hqe]
  rw [hqe] at hq
  have e2 : IntKind.i64.wrap (q : Int) = (q : Int) := IntWalk.i64_in _ (by omega)
  have e3 : IntKind.i64.wrap (a.natAbs : Int) = (a.natAbs : Int) := IntWalk.i64_in _ (by omega)
  have e4 : IntKind.i64.wrap (b.natAbs : Int) = (b.natAbs : Int) := IntWalk.i64_in _ (by omega)
  rw [hqe]
  clear hqe gp
  go_enter Tryd.func21, Tryd.ntmps21
  go_wp2
  go_quiet (first | (go_at_call 29; exact quiet_same (size_any _ _ (by omega) (by omega))) | (go_at_call 23; exact Calls.quiet_of (gcdCode_any _ _ _ (by omega) (by omega) (by omega) (by omega))) | (go_at_call 14; exact quiet_same (mulCode_any _ _ _ (by omega) (by omega) (by omega) (by omega))))
  go_wp2
  go_ret2
  exact ⟨rfl, _, rfl⟩
end Go.Proofs.YtdibcmcjnhhbgaaDoor.NumW
