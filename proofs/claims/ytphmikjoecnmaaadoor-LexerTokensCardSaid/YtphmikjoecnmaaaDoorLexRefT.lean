/-
  What the reference's functions of places return: starts, line, behind, blank, longest.
-/
import Derived.Test.YtphmikjoecnmaaaDoorLexRefS
namespace Go.Proofs.YtphmikjoecnmaaaDoor.LexW
open Go Go.RowKit Go.Proofs.YtphmikjoecnmaaaDoor.NumM Go.Proofs.YtphmikjoecnmaaaDoor.LexM

theorem retn {a b : Nat} (h : a = b) : Ending.returned (.int .i64 (a : Int)) = .returned (.int .i64 (b : Int)) := by rw [h]
theorem starts_any (s t : ByteArray) (k : Nat) (w : World) (hs : s.size ≤ 16384) (hk : k ≤ s.size) (ht : t.size ≤ 100) :
    Calls Tryd.prog 43 #[.string s, .int .i64 k, .string t] w fun e w' => e = .returned (.bool (preB (dr s k) t.data.toList)) ∧ w = w' := by
  by_cases h : t.size ≤ s.size - k
  · have hk2 : k + t.size ≤ s.size := by omega
    have ed : (s.extract k (k + t.size)).data.toList = (dr s k).take t.size := by rw [ext_data, show k + t.size - k = t.size by omega]; rfl
    have EE : Hid (((s.extract k (k + t.size)).toList == t.toList) = preB (dr s k) t.data.toList) := Lib.hid (by
      rw [Lib.toList_data, Lib.toList_data, ed, Bool.eq_iff_iff, preB, len_data, decide_eq_true_eq, beq_iff_eq])
    have h2 : (t.size : Int) ≤ (s.size : Int) - (k : Int) := by omega
    clear ed h
    go_enter Tryd.func43, Tryd.ntmps43
    go_wp2
    go_ret
    exact ⟨retb EE.out, rfl⟩
  · have EE : Hid (false = preB (dr s k) t.data.toList) := Lib.hid (by
      rw [eq_comm, preB, decide_eq_false_iff_not, len_data]
      intro x
      have := congrArg List.length x
      rw [List.length_take, dr_len, len_data] at this
      omega)
    have h2 : (s.size : Int) - (k : Int) < (t.size : Int) := by omega
    clear h
    go_enter Tryd.func43, Tryd.ntmps43
    go_wp2
    go_ret
    exact ⟨retb EE.out, rfl⟩
/-- The line of a place. -/
def lnN (s : ByteArray) (k : Nat) : Nat := 1 + nl (s.data.toList.take k)
theorem lnN_zero (s : ByteArray) : lnN s 0 = 1 := rfl
theorem lnN_next (s : ByteArray) (k : Nat) (h : k < s.size) : lnN s (k + 1) = lnN s k + if s[k].toNat = 10 then 1 else 0 := by
  have e : nl [s[k]] = if s[k].toNat = 10 then 1 else 0 := by rw [nl_cons]; simp [nl]
  unfold lnN
  rw [take_snoc s k h, nl_append, e, Nat.add_assoc]
theorem lnN_le (s : ByteArray) (k : Nat) : lnN s k ≤ k + 1 := by
  unfold lnN nl
  have := List.countP_le_length (p := fun c : UInt8 => decide (c.toNat = 10)) (l := s.data.toList.take k)
  rw [List.length_take] at this
  omega
theorem line_any (s : ByteArray) (k : Nat) (w : World) (hs : s.size ≤ 16384) (hk : k ≤ s.size) :
    Calls Tryd.prog 27 #[.string s, .int .i64 k] w fun e w' => e = .returned (.int .i64 (lnN s k : Int)) ∧ w = w' := by
  have HL := Lib.hid (lnN_le s)
  obtain ⟨N, hN⟩ : ∃ N : Nat, lnN s k = N := ⟨_, rfl⟩
  rw [hN]
  have HN := Lib.hid hN
  clear hN
  go_enter Tryd.func27, Tryd.ntmps27
  go_wp2
  go_loop [5, 6] (fun n i => ∃ j m : Nat, j ≤ k ∧ i = .int .i64 j ∧ n = .int .i64 m ∧ m ≤ j + 1 ∧ Hid (lnN s j = m)) (fun _ i => k - (intOf i).toNat)
  case atStart => exact ⟨0, 1, Nat.zero_le _, rfl, rfl, by omega, Lib.hid rfl⟩
  case round =>
    obtain ⟨j, m, hj, rfl, rfl, hm, LN⟩ := hrel
    by_cases hlt : j < k
    · have hjs : j < s.size := by omega
      have hnx := lnN_next s j hjs
      by_cases b : s[j].toNat = 10
      · rw [if_pos b, LN.out] at hnx
        have b1 : ((s[j].toNat : Int) == 10) = true := by simp; omega
        have NX := Lib.hid hnx
        clear hnx b
        go_wp2
        go_round
        case rel => exact ⟨j + 1, m + 1, by omega, by go_num, by go_num, by omega, NX⟩
        case measure => simp [intOf]; omega
      · rw [if_neg b, LN.out] at hnx
        have b1 : ((s[j].toNat : Int) == 10) = false := by simp; omega
        have NX := Lib.hid hnx
        clear hnx b
        go_wp2
        go_round
        case rel => exact ⟨j + 1, m, by omega, by go_num, rfl, by omega, NX⟩
        case measure => simp [intOf]; omega
    · have EE : Hid (m = N) := Lib.hid (by rw [← LN.out, show j = k by omega]; exact HN.out)
      go_wp2
      go_ret
      exact ⟨retn EE.out, rfl⟩
theorem wordS_cons {c : UInt8} (r : List UInt8) (h : wrd c = true) : wordS (c :: r) = c :: wordS r := by unfold wordS; rw [List.takeWhile_cons, h]; rfl
theorem wordS_stop {c : UInt8} (r : List UInt8) (h : wrd c = false) : wordS (c :: r) = [] := by unfold wordS; rw [List.takeWhile_cons, h]; rfl
theorem behind_any (s : ByteArray) (k : Nat) (w : World) (hs : s.size ≤ 16384) (hk : k ≤ s.size) :
    Calls Tryd.prog 44 #[.string s, .int .i64 k] w fun e w' => e = .returned (.int .i64 ((k + (wordS (dr s k)).length : Nat) : Int)) ∧ w = w' := by
  obtain ⟨N, hN⟩ : ∃ N : Nat, k + (wordS (dr s k)).length = N := ⟨_, rfl⟩
  rw [hN]
  have HN := Lib.hid hN
  clear hN
  go_enter Tryd.func44, Tryd.ntmps44
  go_wp2
  go_loop [1] (fun i => ∃ j : Nat, j ≤ s.size ∧ i = .int .i64 j ∧ Hid (j + (wordS (dr s j)).length = N)) (fun i => s.size - (intOf i).toNat)
  case atStart => exact ⟨k, hk, rfl, HN⟩
  case round =>
    obtain ⟨j, hj, rfl, LN⟩ := hrel
    by_cases hlt : j < s.size
    · have hdc := dr_cons s j hlt
      have IC : ∀ W, Calls Tryd.prog 30 #[.int .u8 (s[j].toNat : Int)] W fun e w' => e = .returned (.bool (wrd s[j])) ∧ W = w' := fun W => inner_any s[j] W
      cases hw : wrd s[j]
      · rw [hw] at IC
        have EE : Hid (j = N) := Lib.hid (by have := LN.out; rw [hdc, wordS_stop _ hw] at this; exact this)
        have IC := Lib.hid IC
        clear hdc hw
        go_wp2_with (go_at_call 30; ((with_reducible refine (IC.out _).mono ?_); rintro e w' ⟨rfl, rfl⟩))
        go_ret
        exact ⟨retn EE.out, rfl⟩
      · rw [hw] at IC
        have EE : Hid (j + 1 + (wordS (dr s (j + 1))).length = N) := Lib.hid (by have := LN.out; rw [hdc, wordS_cons _ hw, List.length_cons] at this; omega)
        have IC := Lib.hid IC
        clear hdc hw
        go_wp2_with (go_at_call 30; ((with_reducible refine (IC.out _).mono ?_); rintro e w' ⟨rfl, rfl⟩))
        go_round
        case rel => exact ⟨j + 1, by omega, by go_num, EE⟩
        case measure => simp [intOf]; omega
    · have EE : Hid (j = N) := Lib.hid (by have := LN.out; rw [dr_end s j (by omega)] at this; exact this)
      go_wp2
      go_ret
      exact ⟨retn EE.out, rfl⟩
/-- A place behind blanks and comments. -/
def tBlank (s : ByteArray) (k : Nat) (w : World) (e : Ending) (w' : World) : Prop :=
  ∃ q : Nat, e = .returned (.int .i64 (q : Int)) ∧ k ≤ q ∧ q ≤ s.size ∧ (∀ acc, lex (dr s k) (lnN s k) acc = lex (dr s q) (lnN s q) acc) ∧
    (∀ h : q < s.size, s[q].toNat ≠ 10 ∧ ¬ (s[q].toNat = 32 ∨ s[q].toNat = 9) ∧ cmt (dr s q) = false) ∧ w = w'
theorem cmt_pre (l : List UInt8) : preB l [47, 47] = cmt l := rfl
set_option maxRecDepth 100000 in
set_option maxHeartbeats 1000000 in
theorem blank_any (s : ByteArray) (k : Nat) (w : World) (hs : s.size ≤ 16384) (hk : k ≤ s.size) :
    Calls Tryd.prog 25 #[.string s, .int .i64 k] w (tBlank s k w) := by
  go_enter Tryd.func25, Tryd.ntmps25
  go_wp2
  go_loop [1] (fun i => ∃ q : Nat, k ≤ q ∧ q ≤ s.size ∧ i = .int .i64 q ∧ Hid (∀ acc, lex (dr s k) (lnN s k) acc = lex (dr s q) (lnN s q) acc)) (fun i => s.size - (intOf i).toNat)
  case atStart => exact ⟨k, Nat.le_refl _, hk, rfl, Lib.hid fun _ => rfl⟩
  case round =>
    obtain ⟨q, hkq, hq, rfl, LX⟩ := hrel
    by_cases hlt : q < s.size
    · have hdc := dr_cons s q hlt
      have hln := lnN_next s q hlt
      by_cases b10 : s[q].toNat = 10
      · have L2 : Hid (∀ acc, lex (dr s k) (lnN s k) acc = lex (dr s (q + 1)) (lnN s (q + 1)) acc) := Lib.hid fun acc => by
          rw [LX.out acc, hdc, lex_nl _ _ _ b10, hln, if_pos b10, Int.natCast_add]; rfl
        have c32 : ((s[q].toNat : Int) == 32) = false := by simp; omega
        have c9 : ((s[q].toNat : Int) == 9) = false := by simp; omega
        have c10 : ((s[q].toNat : Int) == 10) = true := by simp; omega
        clear hdc hln b10
        go_wp2
        go_round
        case rel => exact ⟨q + 1, by omega, by omega, by go_num, L2⟩
        case measure => simp [intOf]; omega
      rw [if_neg b10] at hln
      by_cases b32 : s[q].toNat = 32 ∨ s[q].toNat = 9
      · have L2 : Hid (∀ acc, lex (dr s k) (lnN s k) acc = lex (dr s (q + 1)) (lnN s (q + 1)) acc) := Lib.hid fun acc => by
          rw [LX.out acc, hdc, lex_blank _ _ _ b32, hln]; rfl
        clear hdc hln b10
        rcases b32 with b | b
        · have c32 : ((s[q].toNat : Int) == 32) = true := by simp; omega
          clear b
          go_wp2
          go_round
          case rel => exact ⟨q + 1, by omega, by omega, by go_num, L2⟩
          case measure => simp [intOf]; omega
        · have c32 : ((s[q].toNat : Int) == 32) = false := by simp; omega
          have c9 : ((s[q].toNat : Int) == 9) = true := by simp; omega
          clear b
          go_wp2
          go_round
          case rel => exact ⟨q + 1, by omega, by omega, by go_num, L2⟩
          case measure => simp [intOf]; omega
      · have c32 : ((s[q].toNat : Int) == 32) = false := by simp; omega
        have c9 : ((s[q].toNat : Int) == 9) = false := by simp; omega
        have c10 : ((s[q].toNat : Int) == 10) = false := by simp; omega
        have SC : ∀ W, Calls Tryd.prog 43 #[.string s, .int .i64 q, .string ⟨#[47, 47]⟩] W fun e w' => e = .returned (.bool (cmt (dr s q))) ∧ W = w' := fun W => starts_any s ⟨#[47, 47]⟩ q W hs hq (by decide)
        cases hc : cmt (dr s q)
        · have FIN : Hid (∀ h : q < s.size, s[q].toNat ≠ 10 ∧ ¬ (s[q].toNat = 32 ∨ s[q].toNat = 9) ∧ cmt (dr s q) = false) := Lib.hid fun _ => ⟨b10, b32, hc⟩
          rw [hc] at SC
          have SC := Lib.hid SC
          clear hdc hln b10 b32 hc
          go_wp2_with (go_at_call 43; ((with_reducible refine (SC.out _).mono ?_); rintro e w' ⟨rfl, rfl⟩))
          go_ret
          exact ⟨q, rfl, hkq, hq, LX.out, FIN.out, rfl⟩
        · have L2 : Hid (∀ acc, lex (dr s k) (lnN s k) acc = lex (skipC (dr s q)) (lnN s q) acc) := Lib.hid fun acc => by
            rw [hdc] at hc
            rw [LX.out acc, hdc, lex_cmt _ _ _ hc]
          have B10 := Lib.hid b10
          rw [hc] at SC
          have SC := Lib.hid SC
          clear hdc hln b10 b32 hc
          go_wp2_with (go_at_call 43; ((with_reducible refine (SC.out _).mono ?_); rintro e w' ⟨rfl, rfl⟩))
          go_loop [1] (fun i => ∃ p : Nat, q ≤ p ∧ p ≤ s.size ∧ i = .int .i64 p ∧ Hid (∀ acc, lex (dr s k) (lnN s k) acc = lex (skipC (dr s p)) (lnN s p) acc)) (fun i => s.size - (intOf i).toNat)
          case atStart => exact ⟨q, Nat.le_refl _, hq, rfl, L2⟩
          case round =>
            obtain ⟨p, hqp, hp, rfl, LP⟩ := hrel
            by_cases hpl : p < s.size
            · have hdc := dr_cons s p hpl
              have hln := lnN_next s p hpl
              by_cases d10 : s[p].toNat = 10
              · have hqp2 : q < p := by
                  rcases Nat.lt_or_ge q p with g | g
                  · exact g
                  · exact absurd (by have : p = q := by omega
                                     subst this; exact d10) B10.out
                have L3 : Hid (∀ acc, lex (dr s k) (lnN s k) acc = lex (dr s p) (lnN s p) acc) := Lib.hid fun acc => by
                  rw [LP.out acc, hdc, skipC_stop _ d10]
                have e10 : ((s[p].toNat : Int) != 10) = false := by simp; omega
                have e10' : ((s[p].toNat : Int) == 10) = true := by simp; omega
                clear hdc hln d10
                go_wp2
                go_round
                case rel => exact ⟨p, by omega, hp, rfl, L3⟩
                case measure => simp [intOf]; omega
              · have L3 : Hid (∀ acc, lex (dr s k) (lnN s k) acc = lex (skipC (dr s (p + 1))) (lnN s (p + 1)) acc) := Lib.hid fun acc => by
                  rw [LP.out acc, hdc, skipC_cons _ d10, hln, if_neg d10]; rfl
                have e10 : ((s[p].toNat : Int) != 10) = true := by simp; omega
                have e10' : ((s[p].toNat : Int) == 10) = false := by simp; omega
                clear hdc hln d10
                go_wp2
                go_round
                case rel => exact ⟨p + 1, by omega, by omega, by go_num, L3⟩
                case measure => simp [intOf]; omega
            · have L3 : Hid (∀ acc, lex (dr s k) (lnN s k) acc = lex (dr s p) (lnN s p) acc) := Lib.hid fun acc => by
                rw [LP.out acc, dr_end s p (by omega), skipC_nil]
              go_wp2
              go_round
              case rel => exact ⟨p, by omega, hp, rfl, L3⟩
              case measure => simp [intOf]; omega
    · go_wp2
      go_ret
      exact ⟨q, rfl, hkq, hq, LX.out, fun h => absurd h hlt, rfl⟩
end Go.Proofs.YtphmikjoecnmaaaDoor.LexW
