/-
  ExprtextLayout returns true for every string, and the argument reads afterwards as it read before.
  Conditions: the package-level variables that the row lists hold what the program's own initialisers lay (the card ties them).
  What the reference's functions of places return: starts, line, behind, blank, longest.
  What the reference's longest and read return.
  What the reference's Tokens returns, for every string of at most 16384 bytes.
  What the reference's Join and Same return.
  Take, from the first token on.
  Plain facts for ExprtextLayout, and the reference's Tokens for every string.
  ExprtextLayout.
-/
import Derived.Test.YtlnomiiphlbamaaGreatDoorLexRefS
import Derived.Test.YtlnomiiphlbamaaGreatDoorLexRefP
import Derived.Test.YtlnomiiphlbamaaGreatDoorLexTok
import Derived.Test.YtlnomiiphlbamaaGreatDoorLexRefW
import Derived.Test.YtlnomiiphlbamaaGreatDoorLexJoin
import Derived.Test.YtlnomiiphlbamaaGreatDoorEtParseE
import Derived.Test.YtlnomiiphlbamaaGreatDoorEtCan
import Derived.Test.YtlnomiiphlbamaaGreatDoorEtRec3
import Derived.Test.YtlnomiiphlbamaaGreatDoorEtLaid
namespace Go.Proofs.YtlnomiiphlbamaaGreatDoor.LexW
open Go Go.RowKit Go.Proofs.YtlnomiiphlbamaaGreatDoor.NumM Go.Proofs.YtlnomiiphlbamaaGreatDoor.LexM

theorem retn {a b : Nat} (h : a = b) : Ending.returned (.int .i64 (a : Int)) = .returned (.int .i64 (b : Int)) := by rw [h]
theorem starts_any (s t : ByteArray) (k : Nat) (w : World) (hs : s.size ≤ 16384) (hk : k ≤ s.size) (ht : t.size ≤ 100) :
    Calls Tryz.prog 51 #[.string s, .int .i64 k, .string t] w fun e w' => e = .returned (.bool (preB (dr s k) t.data.toList)) ∧ w = w' := by
  by_cases h : t.size ≤ s.size - k
  · have hk2 : k + t.size ≤ s.size := by omega
    have ed : (s.extract k (k + t.size)).data.toList = (dr s k).take t.size := by rw [ext_data, show k + t.size - k = t.size by omega]; rfl
    have EE : Hid (((s.extract k (k + t.size)).toList == t.toList) = preB (dr s k) t.data.toList) := Lib.hid (by
      rw [Lib.toList_data, Lib.toList_data, ed, Bool.eq_iff_iff, preB, len_data, decide_eq_true_eq, beq_iff_eq])
    have h2 : (t.size : Int) ≤ (s.size : Int) - (k : Int) := by omega
    clear ed h
    go_enter Tryz.func51, Tryz.ntmps51
    go_wp2
    go_ret
    exact ⟨retb EE.out, rfl⟩
  · have EE : Hid (false = preB (dr s k) t.data.toList) := Lib.hid (by
      rw [eq_comm, preB, decide_eq_false_iff_not, len_data]
      intro x
      have := congrArg List.length x
      rw [List.length_take, dr_len, len_data] at this
      omega)
    have h2 : (s.size : Int) - (k : Int) < (t.size : Int) := by omega
    clear h
    go_enter Tryz.func51, Tryz.ntmps51
    go_wp2
    go_ret
    exact ⟨retb EE.out, rfl⟩
/-- The line of a place. -/
def lnN (s : ByteArray) (k : Nat) : Nat := 1 + nl (s.data.toList.take k)
theorem lnN_zero (s : ByteArray) : lnN s 0 = 1 := rfl
theorem lnN_next (s : ByteArray) (k : Nat) (h : k < s.size) : lnN s (k + 1) = lnN s k + if s[k].toNat = 10 then 1 else 0 := by
  have e : nl [s[k]] = if s[k].toNat = 10 then 1 else 0 := by rw [nl_cons]; simp [nl]
  unfold lnN
  rw [take_snoc s k h, nl_append, e, Nat.add_assoc]
theorem lnN_le (s : ByteArray) (k : Nat) : lnN s k ≤ k + 1 := by
  unfold lnN nl
  have := List.countP_le_length (p := fun c : UInt8 => decide (c.toNat = 10)) (l := s.data.toList.take k)
  rw [List.length_take] at this
  omega
theorem line_any (s : ByteArray) (k : Nat) (w : World) (hs : s.size ≤ 16384) (hk : k ≤ s.size) :
    Calls Tryz.prog 29 #[.string s, .int .i64 k] w fun e w' => e = .returned (.int .i64 (lnN s k : Int)) ∧ w = w' := by
  have HL := Lib.hid (lnN_le s)
  obtain ⟨N, hN⟩ : ∃ N : Nat, lnN s k = N := ⟨_, rfl⟩
  rw [hN]
  have HN := Lib.hid hN
  clear hN
  go_enter Tryz.func29, Tryz.ntmps29
  go_wp2
  go_loop [5, 6] (fun n i => ∃ j m : Nat, j ≤ k ∧ i = .int .i64 j ∧ n = .int .i64 m ∧ m ≤ j + 1 ∧ Hid (lnN s j = m)) (fun _ i => k - (intOf i).toNat)
  case atStart => exact ⟨0, 1, Nat.zero_le _, rfl, rfl, by omega, Lib.hid rfl⟩
  case round =>
    obtain ⟨j, m, hj, rfl, rfl, hm, LN⟩ := hrel
    by_cases hlt : j < k
    · have hjs : j < s.size := by omega
      have hnx := lnN_next s j hjs
      by_cases b : s[j].toNat = 10
      · rw [if_pos b, LN.out] at hnx
        have b1 : ((s[j].toNat : Int) == 10) = true := by simp; omega
        have NX := Lib.hid hnx
        clear hnx b
        go_wp2
        go_round
        case rel => exact ⟨j + 1, m + 1, by omega, by go_num, by go_num, by omega, NX⟩
        case measure => simp [intOf]; omega
      · rw [if_neg b, LN.out] at hnx
        have b1 : ((s[j].toNat : Int) == 10) = false := by simp; omega
        have NX := Lib.hid hnx
        clear hnx b
        go_wp2
        go_round
        case rel => exact ⟨j + 1, m, by omega, by go_num, rfl, by omega, NX⟩
        case measure => simp [intOf]; omega
    · have EE : Hid (m = N) := Lib.hid (by rw [← LN.out, show j = k by omega]; exact HN.out)
      go_wp2
      go_ret
      exact ⟨retn EE.out, rfl⟩
theorem wordS_cons {c : UInt8} (r : List UInt8) (h : wrd c = true) : wordS (c :: r) = c :: wordS r := by unfold wordS; rw [List.takeWhile_cons, h]; rfl
theorem wordS_stop {c : UInt8} (r : List UInt8) (h : wrd c = false) : wordS (c :: r) = [] := by unfold wordS; rw [List.takeWhile_cons, h]; rfl
theorem behind_any (s : ByteArray) (k : Nat) (w : World) (hs : s.size ≤ 16384) (hk : k ≤ s.size) :
    Calls Tryz.prog 53 #[.string s, .int .i64 k] w fun e w' => e = .returned (.int .i64 ((k + (wordS (dr s k)).length : Nat) : Int)) ∧ w = w' := by
  obtain ⟨N, hN⟩ : ∃ N : Nat, k + (wordS (dr s k)).length = N := ⟨_, rfl⟩
  rw [hN]
  have HN := Lib.hid hN
  clear hN
  go_enter Tryz.func53, Tryz.ntmps53
  go_wp2
  go_loop [1] (fun i => ∃ j : Nat, j ≤ s.size ∧ i = .int .i64 j ∧ Hid (j + (wordS (dr s j)).length = N)) (fun i => s.size - (intOf i).toNat)
  case atStart => exact ⟨k, hk, rfl, HN⟩
  case round =>
    obtain ⟨j, hj, rfl, LN⟩ := hrel
    by_cases hlt : j < s.size
    · have hdc := dr_cons s j hlt
      have IC : ∀ W, Calls Tryz.prog 91 #[.int .u8 (s[j].toNat : Int)] W fun e w' => e = .returned (.bool (wrd s[j])) ∧ W = w' := fun W => inner_any s[j] W
      cases hw : wrd s[j]
      · rw [hw] at IC
        have EE : Hid (j = N) := Lib.hid (by have := LN.out; rw [hdc, wordS_stop _ hw] at this; exact this)
        have IC := Lib.hid IC
        clear hdc hw
        go_wp2_with (go_at_call 91; ((with_reducible refine (IC.out _).mono ?_); rintro e w' ⟨rfl, rfl⟩))
        go_ret
        exact ⟨retn EE.out, rfl⟩
      · rw [hw] at IC
        have EE : Hid (j + 1 + (wordS (dr s (j + 1))).length = N) := Lib.hid (by have := LN.out; rw [hdc, wordS_cons _ hw, List.length_cons] at this; omega)
        have IC := Lib.hid IC
        clear hdc hw
        go_wp2_with (go_at_call 91; ((with_reducible refine (IC.out _).mono ?_); rintro e w' ⟨rfl, rfl⟩))
        go_round
        case rel => exact ⟨j + 1, by omega, by go_num, EE⟩
        case measure => simp [intOf]; omega
    · have EE : Hid (j = N) := Lib.hid (by have := LN.out; rw [dr_end s j (by omega)] at this; exact this)
      go_wp2
      go_ret
      exact ⟨retn EE.out, rfl⟩
/-- A place behind blanks and comments. -/
def tBlank (s : ByteArray) (k : Nat) (w : World) (e : Ending) (w' : World) : Prop :=
  ∃ q : Nat, e = .returned (.int .i64 (q : Int)) ∧ k ≤ q ∧ q ≤ s.size ∧ (∀ acc, lex (dr s k) (lnN s k) acc = lex (dr s q) (lnN s q) acc) ∧
    (∀ h : q < s.size, s[q].toNat ≠ 10 ∧ ¬ (s[q].toNat = 32 ∨ s[q].toNat = 9) ∧ cmt (dr s q) = false) ∧ w = w'
theorem cmt_pre (l : List UInt8) : preB l [47, 47] = cmt l := rfl
set_option maxRecDepth 100000 in
set_option maxHeartbeats 1000000 in
theorem blank_any (s : ByteArray) (k : Nat) (w : World) (hs : s.size ≤ 16384) (hk : k ≤ s.size) :
    Calls Tryz.prog 27 #[.string s, .int .i64 k] w (tBlank s k w) := by
  go_enter Tryz.func27, Tryz.ntmps27
  go_wp2
  go_loop [1] (fun i => ∃ q : Nat, k ≤ q ∧ q ≤ s.size ∧ i = .int .i64 q ∧ Hid (∀ acc, lex (dr s k) (lnN s k) acc = lex (dr s q) (lnN s q) acc)) (fun i => s.size - (intOf i).toNat)
  case atStart => exact ⟨k, Nat.le_refl _, hk, rfl, Lib.hid fun _ => rfl⟩
  case round =>
    obtain ⟨q, hkq, hq, rfl, LX⟩ := hrel
    by_cases hlt : q < s.size
    · have hdc := dr_cons s q hlt
      have hln := lnN_next s q hlt
      by_cases b10 : s[q].toNat = 10
      · have L2 : Hid (∀ acc, lex (dr s k) (lnN s k) acc = lex (dr s (q + 1)) (lnN s (q + 1)) acc) := Lib.hid fun acc => by
          rw [LX.out acc, hdc, lex_nl _ _ _ b10, hln, if_pos b10, Int.natCast_add]; rfl
        have c32 : ((s[q].toNat : Int) == 32) = false := by simp; omega
        have c9 : ((s[q].toNat : Int) == 9) = false := by simp; omega
        have c10 : ((s[q].toNat : Int) == 10) = true := by simp; omega
        clear hdc hln b10
        go_wp2
        go_round
        case rel => exact ⟨q + 1, by omega, by omega, by go_num, L2⟩
        case measure => simp [intOf]; omega
      rw [if_neg b10] at hln
      by_cases b32 : s[q].toNat = 32 ∨ s[q].toNat = 9
      · have L2 : Hid (∀ acc, lex (dr s k) (lnN s k) acc = lex (dr s (q + 1)) (lnN s (q + 1)) acc) := Lib.hid fun acc => by
          rw [LX.out acc, hdc, lex_blank _ _ _ b32, hln]; rfl
        clear hdc hln b10
        rcases b32 with b | b
        · have c32 : ((s[q].toNat : Int) == 32) = true := by simp; omega
          clear b
          go_wp2
          go_round
          case rel => exact ⟨q + 1, by omega, by omega, by go_num, L2⟩
          case measure => simp [intOf]; omega
        · have c32 : ((s[q].toNat : Int) == 32) = false := by simp; omega
          have c9 : ((s[q].toNat : Int) == 9) = true := by simp; omega
          clear b
          go_wp2
          go_round
          case rel => exact ⟨q + 1, by omega, by omega, by go_num, L2⟩
          case measure => simp [intOf]; omega
      · have c32 : ((s[q].toNat : Int) == 32) = false := by simp; omega
        have c9 : ((s[q].toNat : Int) == 9) = false := by simp; omega
        have c10 : ((s[q].toNat : Int) == 10) = false := by simp; omega
        have SC : ∀ W, Calls Tryz.prog 51 #[.string s, .int .i64 q, .string ⟨#[47, 47]⟩] W fun e w' => e = .returned (.bool (cmt (dr s q))) ∧ W = w' := fun W => starts_any s ⟨#[47, 47]⟩ q W hs hq (by decide)
        cases hc : cmt (dr s q)
        · have FIN : Hid (∀ h : q < s.size, s[q].toNat ≠ 10 ∧ ¬ (s[q].toNat = 32 ∨ s[q].toNat = 9) ∧ cmt (dr s q) = false) := Lib.hid fun _ => ⟨b10, b32, hc⟩
          rw [hc] at SC
          have SC := Lib.hid SC
          clear hdc hln b10 b32 hc
          go_wp2_with (go_at_call 51; ((with_reducible refine (SC.out _).mono ?_); rintro e w' ⟨rfl, rfl⟩))
          go_ret
          exact ⟨q, rfl, hkq, hq, LX.out, FIN.out, rfl⟩
        · have L2 : Hid (∀ acc, lex (dr s k) (lnN s k) acc = lex (skipC (dr s q)) (lnN s q) acc) := Lib.hid fun acc => by
            rw [hdc] at hc
            rw [LX.out acc, hdc, lex_cmt _ _ _ hc]
          have B10 := Lib.hid b10
          rw [hc] at SC
          have SC := Lib.hid SC
          clear hdc hln b10 b32 hc
          go_wp2_with (go_at_call 51; ((with_reducible refine (SC.out _).mono ?_); rintro e w' ⟨rfl, rfl⟩))
          go_loop [1] (fun i => ∃ p : Nat, q ≤ p ∧ p ≤ s.size ∧ i = .int .i64 p ∧ Hid (∀ acc, lex (dr s k) (lnN s k) acc = lex (skipC (dr s p)) (lnN s p) acc)) (fun i => s.size - (intOf i).toNat)
          case atStart => exact ⟨q, Nat.le_refl _, hq, rfl, L2⟩
          case round =>
            obtain ⟨p, hqp, hp, rfl, LP⟩ := hrel
            by_cases hpl : p < s.size
            · have hdc := dr_cons s p hpl
              have hln := lnN_next s p hpl
              by_cases d10 : s[p].toNat = 10
              · have hqp2 : q < p := by
                  rcases Nat.lt_or_ge q p with g | g
                  · exact g
                  · exact absurd (by have : p = q := by omega
                                     subst this; exact d10) B10.out
                have L3 : Hid (∀ acc, lex (dr s k) (lnN s k) acc = lex (dr s p) (lnN s p) acc) := Lib.hid fun acc => by
                  rw [LP.out acc, hdc, skipC_stop _ d10]
                have e10 : ((s[p].toNat : Int) != 10) = false := by simp; omega
                have e10' : ((s[p].toNat : Int) == 10) = true := by simp; omega
                clear hdc hln d10
                go_wp2
                go_round
                case rel => exact ⟨p, by omega, hp, rfl, L3⟩
                case measure => simp [intOf]; omega
              · have L3 : Hid (∀ acc, lex (dr s k) (lnN s k) acc = lex (skipC (dr s (p + 1))) (lnN s (p + 1)) acc) := Lib.hid fun acc => by
                  rw [LP.out acc, hdc, skipC_cons _ d10, hln, if_neg d10]; rfl
                have e10 : ((s[p].toNat : Int) != 10) = true := by simp; omega
                have e10' : ((s[p].toNat : Int) == 10) = false := by simp; omega
                clear hdc hln d10
                go_wp2
                go_round
                case rel => exact ⟨p + 1, by omega, by omega, by go_num, L3⟩
                case measure => simp [intOf]; omega
            · have L3 : Hid (∀ acc, lex (dr s k) (lnN s k) acc = lex (dr s p) (lnN s p) acc) := Lib.hid fun acc => by
                rw [LP.out acc, dr_end s p (by omega), skipC_nil]
              go_wp2
              go_round
              case rel => exact ⟨p, by omega, hp, rfl, L3⟩
              case measure => simp [intOf]; omega
    · go_wp2
      go_ret
      exact ⟨q, rfl, hkq, hq, LX.out, fun h => absurd h hlt, rfl⟩
end Go.Proofs.YtlnomiiphlbamaaGreatDoor.LexW
namespace Go.Proofs.YtlnomiiphlbamaaGreatDoor.LexW
open Go Go.RowKit Go.Proofs.YtlnomiiphlbamaaGreatDoor.NumM Go.Proofs.YtlnomiiphlbamaaGreatDoor.LexM

theorem better_yes {l b m : List UInt8} (h : preB l m = true) (h2 : b.length < m.length) : better l b m = m := by unfold better; rw [h, decide_eq_true h2]; rfl
theorem better_no {l b m : List UInt8} (h : preB l m = true) (h2 : ¬ b.length < m.length) : better l b m = b := by unfold better; rw [h, decide_eq_false h2]; rfl
theorem better_not {l b m : List UInt8} (h : preB l m = false) : better l b m = b := by unfold better; rw [h]; rfl
def tLong (s : ByteArray) (k : Nat) (w : World) (e : Ending) (w' : World) : Prop := e = .returned (.string (bs (bestK mks (dr s k) mks.length))) ∧ Below w.heap.size w w'
theorem tLong_mk {s : ByteArray} {k : Nat} {w w' : World} {B : ByteArray} (h : B.data.toList = bestK mks (dr s k) mks.length) (hb : Below w.heap.size w w') : tLong s k w (.returned (.string B)) w' := ⟨by rw [← h], hb⟩
set_option maxRecDepth 100000 in
set_option maxHeartbeats 1000000 in
theorem longest_any (s : ByteArray) (k : Nat) (w : World) (hs : s.size ≤ 16384) (hk : k ≤ s.size) :
    Calls Tryz.prog 57 #[.string s, .int .i64 k] w (tLong s k w) := by
  go_enter Tryz.func57, Tryz.ntmps57
  go_wp2_with (go_at_call 97; ((with_reducible refine (marks_any _).mono ?_); rintro e w1 ⟨g, rfl, hr, hb⟩; have HR := Lib.hid hr; have HB := Lib.hid hb; clear hr hb))
  go_loop [6, 7] (fun b i => ∃ (j : Nat) (B : ByteArray), j ≤ 36 ∧ i = .int .i64 j ∧ b = .string B ∧ B.size ≤ 100 ∧ Hid (B.data.toList = bestK mks (dr s k) j)) (fun _ i => 36 - (intOf i).toNat)
  case atStart => exact ⟨0, ⟨#[]⟩, Nat.zero_le _, rfl, rfl, by decide, Lib.hid rfl⟩
  case round =>
    obtain ⟨j, B, hj, rfl, rfl, hB, BK⟩ := hrel
    by_cases hlt : j < 36
    · obtain ⟨m, hm⟩ : ∃ m, mks[j]? = some m := ⟨_, List.getElem?_eq_getElem (show j < mks.length from hlt)⟩
      have hck := HR.out.cell (show j < mks.length from hlt)
      unfold tabF at hck
      rw [atL_of hm] at hck
      have hml : m.length ≤ 2 := (mk_facts m (List.mem_of_getElem? hm)).2.1
      have hnx := bestK_next (l := dr s k) hm
      rw [← BK.out] at hnx
      have hBl := len_data B
      obtain ⟨y, hy⟩ : ∃ y, bs m = y := ⟨_, rfl⟩
      have hyd : y.data.toList = m := by rw [← hy]
      have hyl : y.size = m.length := by rw [← len_data, hyd]
      rw [hy] at hck
      have SC : ∀ W, Calls Tryz.prog 51 #[.string s, .int .i64 k, .string y] W fun e w' => e = .returned (.bool (preB (dr s k) m)) ∧ W = w' := fun W => by
        have q := starts_any s y k W hs hk (by omega)
        rw [hyd] at q
        exact q
      clear hy
      cases hp : preB (dr s k) m
      · have NX : Hid (B.data.toList = bestK mks (dr s k) (j + 1)) := Lib.hid (by rw [hnx, better_not hp])
        rw [hp] at SC
        have SC := Lib.hid SC
        clear hm hnx hp hyd hyl hml hBl
        go_wp2_with (go_at_call 51; ((with_reducible refine (SC.out _).mono ?_); rintro e w' ⟨rfl, rfl⟩))
        go_round
        case rel => exact ⟨j + 1, B, by omega, by go_num, rfl, hB, NX⟩
        case measure => simp [intOf]; omega
      · by_cases hl : B.size < y.size
        · have NX : Hid (y.data.toList = bestK mks (dr s k) (j + 1)) := Lib.hid (by rw [hnx, better_yes hp (by omega), hyd])
          have hy100 : y.size ≤ 100 := by omega
          rw [hp] at SC
          have SC := Lib.hid SC
          clear hm hnx hp hyd hyl hml hBl
          go_wp2_with (go_at_call 51; ((with_reducible refine (SC.out _).mono ?_); rintro e w' ⟨rfl, rfl⟩))
          go_round
          case rel => exact ⟨j + 1, y, by omega, by go_num, rfl, hy100, NX⟩
          case measure => simp [intOf]; omega
        · have NX : Hid (B.data.toList = bestK mks (dr s k) (j + 1)) := Lib.hid (by rw [hnx, better_no hp (by omega)])
          rw [hp] at SC
          have SC := Lib.hid SC
          clear hm hnx hp hyd hyl hml hBl
          go_wp2_with (go_at_call 51; ((with_reducible refine (SC.out _).mono ?_); rintro e w' ⟨rfl, rfl⟩))
          go_round
          case rel => exact ⟨j + 1, B, by omega, by go_num, rfl, hB, NX⟩
          case measure => simp [intOf]; omega
    · have EE : Hid (B.data.toList = bestK mks (dr s k) mks.length) := Lib.hid (by rw [show mks.length = j from by show 36 = j; omega]; exact BK.out)
      go_wp2
      go_ret
      exact tLong_mk EE.out HB.out
theorem first_other {c : UInt8} (r : List UInt8) (h1 : sml c = false) (h2 : dgt c = false) : firstS (c :: r) = markT (c :: r) := by
  cases hw : wrd c
  · exact first_mark (wordS_stop r hw)
  · rw [first_word (wordS_cons r hw), h1, h2]
    rw [markT, not_mk (c := c) (by cases r <;> simp) (.inl hw), not_mk (c := c) (by simp) (.inl hw)]
    rfl
theorem ext_word (s : ByteArray) (k : Nat) : (s.extract k (k + (wordS (dr s k)).length)).data.toList = wordS (dr s k) := by
  rw [ext_data, show k + (wordS (dr s k)).length - k = (wordS (dr s k)).length by omega]
  exact (word_pre _).symm
theorem ext_wlen (s : ByteArray) (k : Nat) (hk : k ≤ s.size) : k + (wordS (dr s k)).length ≤ s.size := by
  have := (List.takeWhile_prefix wrd (l := dr s k)).length_le
  rw [dr_len] at this
  have e : (wordS (dr s k)).length = ((dr s k).takeWhile wrd).length := rfl
  omega
set_option maxRecDepth 100000 in
set_option maxHeartbeats 1000000 in
theorem read_small (s : ByteArray) (k : Nat) (w : World) (hs : s.size ≤ 16384) (hk : k < s.size) (h1 : sml s[k] = true) :
    Calls Tryz.prog 28 #[.string s, .int .i64 k] w (tTok w (firstS (dr s k))) := by
  have hF : firstS (dr s k) = nameT (wordS (dr s k)) := by
    rw [dr_cons s k hk, first_word (wordS_cons _ (wrd_sml h1)), if_pos h1, wordS_cons _ (wrd_sml h1)]
  have eS : smI (s[k].toNat : Int) = true := by rw [sm_byte, h1]
  have BH := fun W => behind_any s k W (by omega) (by omega)
  have hX := ext_word s k
  have hl := ext_wlen s k (by omega)
  obtain ⟨n, hn⟩ : ∃ n, k + (wordS (dr s k)).length = n := ⟨_, rfl⟩
  rw [hn] at BH hX hl
  have hkn : k ≤ n := by omega
  have BH := Lib.hid BH
  obtain ⟨x, hx⟩ : ∃ x, s.extract k n = x := ⟨_, rfl⟩
  rw [hx] at hX
  rw [hF, ← hX]
  clear hn hF h1
  have hxl := len_data x
  have hb0 : Hid (Below w.heap.size w (w.alloc (.cells #[.int .i64 0, .int .i64 0, .string ⟨#[]⟩, .int .i64 0] 41))) := Lib.hid ((Below.refl _ _).alloc (Nat.le_refl _) _)
  clear hX
  by_cases h : 16 < x.size
  · have E : Hid (nameT x.data.toList = (⟨0, 0, (⟨#[]⟩ : ByteArray).data.toList, 0⟩, 2)) := Lib.hid (by rw [nameT, if_pos (by omega)]; rfl)
    clear hxl
    go_enter Tryz.func28, Tryz.ntmps28
    go_wp2_with (first | (go_at_call 52; refine (smallR_any _ _).mono ?_; rintro e w' ⟨rfl, rfl⟩) | (go_at_call 53; ((with_reducible refine (BH.out _).mono ?_); rintro e w' ⟨rfl, rfl⟩)))
    refine bodyPost_ret (v := .tuple #[tv 0 0 ⟨#[]⟩ 0, .int .i64 2]) (by simp [results, Tryz.results28, go_sem]) rfl ?_
    exact tTok_mk E.out hb0.out
  · have KC := fun W => kwR_any x W
    cases hkw : isKw x.data.toList
    · have E : Hid (nameT x.data.toList = (⟨1, 0, x.data.toList, 0⟩, 0)) := Lib.hid (by rw [nameT, if_neg (by omega), hkw]; rfl)
      rw [hkw] at KC
      have KC := Lib.hid KC
      clear hxl hkw
      go_enter Tryz.func28, Tryz.ntmps28
      go_wp2_with (first | (go_at_call 52; refine (smallR_any _ _).mono ?_; rintro e w' ⟨rfl, rfl⟩) | (go_at_call 53; ((with_reducible refine (BH.out _).mono ?_); rintro e w' ⟨rfl, rfl⟩)) | (go_at_call 54; ((with_reducible refine (KC.out _).mono ?_); rintro e w1 ⟨rfl, hb⟩; have F := Lib.hid ((Four.new w _ _ _ _ _).stay hb); have HB := Lib.hid (Below.then_ hb0.out hb); clear hb; have f0 := F.out.f0; have f1 := F.out.f1; have f2 := F.out.f2; have f3 := F.out.f3; have c0 := F.out.c0; have c1 := F.out.c1; have c2 := F.out.c2; have c3 := F.out.c3)))
      have FF := F.out.put (.int .i64 1) (.int .i64 0) (.string x) (.int .i64 0)
      have d0 := FF.c0; have d1 := FF.c1; have d2 := FF.c2; have d3 := FF.c3
      refine bodyPost_ret (v := .tuple #[tv 1 0 x 0, .int .i64 0]) (by simp [results, Tryz.results28, go_sem, d0, d1, d2, d3]) rfl ?_
      exact tTok_mk E.out (below_put HB.out (Nat.le_refl _) _ _ _ _)
    · have E : Hid (nameT x.data.toList = (⟨2, 0, x.data.toList, 0⟩, 0)) := Lib.hid (by rw [nameT, if_neg (by omega), hkw]; rfl)
      rw [hkw] at KC
      have KC := Lib.hid KC
      clear hxl hkw
      go_enter Tryz.func28, Tryz.ntmps28
      go_wp2_with (first | (go_at_call 52; refine (smallR_any _ _).mono ?_; rintro e w' ⟨rfl, rfl⟩) | (go_at_call 53; ((with_reducible refine (BH.out _).mono ?_); rintro e w' ⟨rfl, rfl⟩)) | (go_at_call 54; ((with_reducible refine (KC.out _).mono ?_); rintro e w1 ⟨rfl, hb⟩; have F := Lib.hid ((Four.new w _ _ _ _ _).stay hb); have HB := Lib.hid (Below.then_ hb0.out hb); clear hb; have f0 := F.out.f0; have f1 := F.out.f1; have f2 := F.out.f2; have f3 := F.out.f3; have c0 := F.out.c0; have c1 := F.out.c1; have c2 := F.out.c2; have c3 := F.out.c3)))
      have FF := F.out.put (.int .i64 2) (.int .i64 0) (.string x) (.int .i64 0)
      have d0 := FF.c0; have d1 := FF.c1; have d2 := FF.c2; have d3 := FF.c3
      refine bodyPost_ret (v := .tuple #[tv 2 0 x 0, .int .i64 0]) (by simp [results, Tryz.results28, go_sem, d0, d1, d2, d3]) rfl ?_
      exact tTok_mk E.out (below_put HB.out (Nat.le_refl _) _ _ _ _)
set_option maxRecDepth 100000 in
set_option maxHeartbeats 1000000 in
theorem read_digit (s : ByteArray) (k : Nat) (w : World) (hs : s.size ≤ 16384) (hk : k < s.size) (h1 : sml s[k] = false) (h2 : dgt s[k] = true) :
    Calls Tryz.prog 28 #[.string s, .int .i64 k] w (tTok w (firstS (dr s k))) := by
  have hF : firstS (dr s k) = numT (wordS (dr s k)) := by
    rw [dr_cons s k hk, first_word (wordS_cons _ (wrd_dgt h2)), h1, if_neg (by decide), if_pos h2, wordS_cons _ (wrd_dgt h2)]
  have eS : smI (s[k].toNat : Int) = false := by rw [sm_byte, h1]
  have eD : dgI (s[k].toNat : Int) = true := by rw [dg_byte, h2]
  have BH := fun W => behind_any s k W (by omega) (by omega)
  have hX := ext_word s k
  have hl := ext_wlen s k (by omega)
  have hW : wordS (dr s k) = s[k] :: wordS (dr s (k + 1)) := by rw [dr_cons s k hk, wordS_cons _ (wrd_dgt h2)]
  have hbd := parse_bd hW h2
  have hpe := parseS_err (wordS (dr s k))
  obtain ⟨n, hn⟩ : ∃ n, k + (wordS (dr s k)).length = n := ⟨_, rfl⟩
  rw [hn] at BH hX hl
  have hkn : k ≤ n := by omega
  have BH := Lib.hid BH
  obtain ⟨x, hx⟩ : ∃ x, s.extract k n = x := ⟨_, rfl⟩
  rw [hx] at hX
  rw [hF, ← hX]
  rw [← hX] at hbd hpe
  have hxl := len_data x
  have hxs : x.size ≤ 16384 := by
    rw [← hxl, hX]
    omega
  have PC := fun W => RefP.parseRef_any x W hxs
  unfold RefP.parsedR at PC
  clear hn hF h1 h2 hX hW hxl
  have hb0 : Hid (Below w.heap.size w (w.alloc (.cells #[.int .i64 0, .int .i64 0, .string ⟨#[]⟩, .int .i64 0] 41))) := Lib.hid ((Below.refl _ _).alloc (Nat.le_refl _) _)
  rcases hp : parseS x.data.toList with ⟨m, er⟩
  rw [hp] at PC hbd hpe
  simp only at PC hbd hpe
  obtain ⟨hm0, hm1⟩ := hbd
  have PC := Lib.hid PC
  rcases hpe with he | he | he
  · subst he
    by_cases hm : 2147483647 < m
    · have E : Hid (numT x.data.toList = (⟨0, 0, (⟨#[]⟩ : ByteArray).data.toList, 0⟩, 3)) := Lib.hid (by rw [numT, hp, if_pos rfl, if_pos hm]; rfl)
      clear hp
      go_enter Tryz.func28, Tryz.ntmps28
      go_wp2_with (first | (go_at_call 52; refine (smallR_any _ _).mono ?_; rintro e w' ⟨rfl, rfl⟩) | (go_at_call 55; refine (digitR_any _ _).mono ?_; rintro e w' ⟨rfl, rfl⟩) | (go_at_call 53; ((with_reducible refine (BH.out _).mono ?_); rintro e w' ⟨rfl, rfl⟩)) | (go_at_call 56; ((with_reducible refine (PC.out _).mono ?_); rintro e w' ⟨rfl, rfl⟩)))
      refine bodyPost_ret (v := .tuple #[tv 0 0 ⟨#[]⟩ 0, .int .i64 3]) (by simp [results, Tryz.results28, go_sem]) rfl ?_
      exact tTok_mk E.out hb0.out
    · have E : Hid (numT x.data.toList = (⟨3, m, x.data.toList, 0⟩, 0)) := Lib.hid (by rw [numT, hp, if_pos rfl, if_neg hm])
      clear hp
      go_enter Tryz.func28, Tryz.ntmps28
      go_wp2_with (first | (go_at_call 52; refine (smallR_any _ _).mono ?_; rintro e w' ⟨rfl, rfl⟩) | (go_at_call 55; refine (digitR_any _ _).mono ?_; rintro e w' ⟨rfl, rfl⟩) | (go_at_call 53; ((with_reducible refine (BH.out _).mono ?_); rintro e w' ⟨rfl, rfl⟩)) | (go_at_call 56; ((with_reducible refine (PC.out _).mono ?_); rintro e w' ⟨rfl, rfl⟩)))
      refine bodyPost_ret (v := .tuple #[tv 3 m x 0, .int .i64 0]) (by simp [results, Tryz.results28, go_sem]) rfl ?_
      exact tTok_mk E.out ((Below.refl _ _).alloc (Nat.le_refl _) _)
  · subst he
    have E : Hid (numT x.data.toList = (⟨0, 0, (⟨#[]⟩ : ByteArray).data.toList, 0⟩, 3)) := Lib.hid (by rw [numT, hp, if_neg (by simp)]; rfl)
    clear hp
    go_enter Tryz.func28, Tryz.ntmps28
    go_wp2_with (first | (go_at_call 52; refine (smallR_any _ _).mono ?_; rintro e w' ⟨rfl, rfl⟩) | (go_at_call 55; refine (digitR_any _ _).mono ?_; rintro e w' ⟨rfl, rfl⟩) | (go_at_call 53; ((with_reducible refine (BH.out _).mono ?_); rintro e w' ⟨rfl, rfl⟩)) | (go_at_call 56; ((with_reducible refine (PC.out _).mono ?_); rintro e w' ⟨rfl, rfl⟩)))
    refine bodyPost_ret (v := .tuple #[tv 0 0 ⟨#[]⟩ 0, .int .i64 3]) (by simp [results, Tryz.results28, go_sem]) rfl ?_
    exact tTok_mk E.out hb0.out
  · subst he
    have E : Hid (numT x.data.toList = (⟨0, 0, (⟨#[]⟩ : ByteArray).data.toList, 0⟩, 5)) := Lib.hid (by rw [numT, hp, if_neg (by simp)]; rfl)
    clear hp
    go_enter Tryz.func28, Tryz.ntmps28
    go_wp2_with (first | (go_at_call 52; refine (smallR_any _ _).mono ?_; rintro e w' ⟨rfl, rfl⟩) | (go_at_call 55; refine (digitR_any _ _).mono ?_; rintro e w' ⟨rfl, rfl⟩) | (go_at_call 53; ((with_reducible refine (BH.out _).mono ?_); rintro e w' ⟨rfl, rfl⟩)) | (go_at_call 56; ((with_reducible refine (PC.out _).mono ?_); rintro e w' ⟨rfl, rfl⟩)))
    refine bodyPost_ret (v := .tuple #[tv 0 0 ⟨#[]⟩ 0, .int .i64 5]) (by simp [results, Tryz.results28, go_sem]) rfl ?_
    exact tTok_mk E.out hb0.out
set_option maxRecDepth 100000 in
set_option maxHeartbeats 1000000 in
theorem read_mark (s : ByteArray) (k : Nat) (w : World) (hs : s.size ≤ 16384) (hk : k < s.size) (h1 : sml s[k] = false) (h2 : dgt s[k] = false) :
    Calls Tryz.prog 28 #[.string s, .int .i64 k] w (tTok w (firstS (dr s k))) := by
  have hF : firstS (dr s k) = if bestK mks (dr s k) mks.length = [] then (zTk, 5) else (⟨4, 0, bestK mks (dr s k) mks.length, 0⟩, 0) := by
    rw [← best_mark, dr_cons s k hk]; exact first_other _ h1 h2
  have eS : smI (s[k].toNat : Int) = false := by rw [sm_byte, h1]
  have eD : dgI (s[k].toNat : Int) = false := by rw [dg_byte, h2]
  have LC := fun W => longest_any s k W (by omega) (by omega)
  unfold tLong at LC
  obtain ⟨b, hb⟩ : ∃ b, bestK mks (dr s k) mks.length = b := ⟨_, rfl⟩
  rw [hb] at hF LC
  rw [hF]
  clear hb hF h1 h2
  obtain ⟨x, hx⟩ : ∃ x, bs b = x := ⟨_, rfl⟩
  have hxd : x.data.toList = b := by rw [← hx]
  rw [hx] at LC
  have LC := Lib.hid LC
  have hb0 : Hid (Below w.heap.size w (w.alloc (.cells #[.int .i64 0, .int .i64 0, .string ⟨#[]⟩, .int .i64 0] 41))) := Lib.hid ((Below.refl _ _).alloc (Nat.le_refl _) _)
  clear hx
  by_cases h : b = []
  · rw [if_pos h]
    have hxe : x.toList = [] := by rw [Lib.toList_data, hxd, h]
    clear hxd h
    go_enter Tryz.func28, Tryz.ntmps28
    go_wp2_with (first | (go_at_call 52; refine (smallR_any _ _).mono ?_; rintro e w' ⟨rfl, rfl⟩) | (go_at_call 55; refine (digitR_any _ _).mono ?_; rintro e w' ⟨rfl, rfl⟩) | (go_at_call 57; ((with_reducible refine (LC.out _).mono ?_); rintro e w1 ⟨rfl, hb⟩; have F := Lib.hid ((Four.new w _ _ _ _ _).stay hb); have HB := Lib.hid (Below.then_ hb0.out hb); clear hb; have f0 := F.out.f0; have f1 := F.out.f1; have f2 := F.out.f2; have f3 := F.out.f3; have c0 := F.out.c0; have c1 := F.out.c1; have c2 := F.out.c2; have c3 := F.out.c3)))
    have FF := F.out.put (.int .i64 0) (.int .i64 0) (.string ⟨#[]⟩) (.int .i64 0)
    have d0 := FF.c0; have d1 := FF.c1; have d2 := FF.c2; have d3 := FF.c3
    refine bodyPost_ret (v := .tuple #[tv 0 0 ⟨#[]⟩ 0, .int .i64 5]) (by simp [results, Tryz.results28, go_sem, d0, d1, d2, d3]) rfl ?_
    exact tTok_mk rfl (below_put HB.out (Nat.le_refl _) _ _ _ _)
  · rw [if_neg h]
    have hxe : x.toList.isEmpty = false := by rw [Lib.toList_data, hxd]; simpa using h
    have HXD := Lib.hid hxd
    clear hxd h
    go_enter Tryz.func28, Tryz.ntmps28
    go_wp2_with (first | (go_at_call 52; refine (smallR_any _ _).mono ?_; rintro e w' ⟨rfl, rfl⟩) | (go_at_call 55; refine (digitR_any _ _).mono ?_; rintro e w' ⟨rfl, rfl⟩) | (go_at_call 57; ((with_reducible refine (LC.out _).mono ?_); rintro e w1 ⟨rfl, hb⟩; have F := Lib.hid ((Four.new w _ _ _ _ _).stay hb); have HB := Lib.hid (Below.then_ hb0.out hb); clear hb; have f0 := F.out.f0; have f1 := F.out.f1; have f2 := F.out.f2; have f3 := F.out.f3; have c0 := F.out.c0; have c1 := F.out.c1; have c2 := F.out.c2; have c3 := F.out.c3)))
    have FF := F.out.put (.int .i64 4) (.int .i64 0) (.string x) (.int .i64 0)
    have d0 := FF.c0; have d1 := FF.c1; have d2 := FF.c2; have d3 := FF.c3
    refine bodyPost_ret (v := .tuple #[tv 4 0 x 0, .int .i64 0]) (by simp [results, Tryz.results28, go_sem, d0, d1, d2, d3]) rfl ?_
    exact tTok_mk (by rw [HXD.out]) (below_put HB.out (Nat.le_refl _) _ _ _ _)
/-- The reference's read, for every string of at most 16384 bytes. -/
theorem read_any (s : ByteArray) (k : Nat) (w : World) (hs : s.size ≤ 16384) (hk : k < s.size) :
    Calls Tryz.prog 28 #[.string s, .int .i64 k] w (tTok w (firstS (dr s k))) := by
  cases h1 : sml s[k]
  · cases h2 : dgt s[k]
    · exact read_mark s k w hs hk h1 h2
    · exact read_digit s k w hs hk h1 h2
  · exact read_small s k w hs hk h1
end Go.Proofs.YtlnomiiphlbamaaGreatDoor.LexW
namespace Go.Proofs.YtlnomiiphlbamaaGreatDoor.LexW
open Go Go.RowKit Go.Proofs.YtlnomiiphlbamaaGreatDoor.NumM Go.Proofs.YtlnomiiphlbamaaGreatDoor.LexM

/-- The list so far, and all below. -/
structure Su (w wr : World) (v : Value) (acc : List Tk) : Prop where
  own : wr.ownsRow w.heap.size 41 4 v acc.length (tkCells acc)
  bw : Below w.heap.size w wr
section
variable {w wr wr' : World} {v : Value} {acc : List Tk}
theorem Su.later (h : Su w wr v acc) (hb : Below wr.heap.size wr wr') : Su w wr' v acc := ⟨ownsRow_later h.own hb, h.bw.trans (hb.mono h.bw.size)⟩
theorem Su.alloc (h : Su w wr v acc) (o : Obj) : Su w (wr.alloc o) v acc := h.later ((Below.refl _ _).alloc (Nat.le_refl _) _)
theorem Su.grown {v' : Value} {acc' : List Tk} (h : Su w wr v acc) (hg : wr.grownBy wr' v.ownBlock) (ho : wr'.ownsRow w.heap.size 41 4 v' acc'.length (tkCells acc')) : Su w wr' v' acc' :=
  ⟨ho, h.bw.grown hg h.bw.size (own_block h.own)⟩
end
/-- What a call of read gives, in letters. -/
theorem read_part (f : FuncId) (args : Array Value) (r : Tk × Int) (hC : ∀ W, Calls Tryz.prog f args W (tTok W r)) :
    ∃ (k n er : Int) (x : ByteArray), r.1.kind = k ∧ r.1.n = n ∧ r.1.text = x.data.toList ∧ r.2 = er ∧ Hid (∀ W, Calls Tryz.prog f args W fun e w' => e = .returned (.tuple #[tv k n x 0, .int .i64 er]) ∧ Below W.heap.size W w') :=
  ⟨_, _, _, bs r.1.text, rfl, rfl, rfl, rfl, Lib.hid hC⟩
/-- What a round needs of the place at which it begins. -/
def atTok (s : ByteArray) (q : Nat) : Prop := ∀ h : q < s.size, s[q].toNat ≠ 10 ∧ ¬ (s[q].toNat = 32 ∨ s[q].toNat = 9) ∧ cmt (dr s q) = false
theorem lnN_tok {s : ByteArray} {q : Nat} {t : Tk} (hg : LexM.Good (dr s q) t) : lnN s (q + t.text.length) = lnN s q := by
  have e : s.data.toList.take (q + t.text.length) = s.data.toList.take q ++ (dr s q).take t.text.length := List.take_add
  unfold lnN
  rw [e, nl_append, ← hg.pre, nl_none (fun c hc => (hg.byte c hc).1)]
  rfl
set_option maxRecDepth 100000 in
set_option maxHeartbeats 8000000 in
theorem tokensRef (s : ByteArray) (w : World) (h : s.size ≤ 16384) : Calls Tryz.prog 13 #[.string s] w (tLex w (lex s.data.toList 1 [])) := by
  obtain ⟨i0, hi, hz0, hz1, hz2⟩ := info_parts infoTok
  have HI := Lib.hid hi; have HZ0 := Lib.hid hz0; have HZ1 := Lib.hid hz1; have HZ2 := Lib.hid hz2
  clear hi hz0 hz1 hz2
  have B0 : Hid (Calls Tryz.prog 27 #[.string s, .int .i64 0] w (tBlank s 0 w)) := Lib.hid (blank_any s 0 w (by omega) (by omega))
  go_enter Tryz.func13, Tryz.ntmps13
  go_wp2_with (go_at_call 27; ((with_reducible refine B0.out.mono ?_); rintro e w' ⟨q0, rfl, _, hq0, hlx, hat, rfl⟩; have LX0 := Lib.hid hlx; have AT0 : Hid (atTok s q0) := Lib.hid hat; clear hlx hat))
  go_loopw [5, 6] (fun v i wr => ∃ (q : Nat) (acc : List Tk), i = .int .i64 q ∧ q ≤ s.size ∧ acc.length ≤ q ∧ Hid (Su w wr v acc) ∧ Hid (lex (dr s q) (lnN s q) acc = lex s.data.toList 1 []) ∧ Hid (atTok s q)) (fun _ i _ => s.size - (intOf i).toNat)
  case atStart => exact ⟨q0, [], rfl, hq0, Nat.zero_le _, Lib.hid ⟨own_nil _ _, Below.refl _ _⟩, Lib.hid (LX0.out []).symm, AT0⟩
  case round =>
    obtain ⟨q, acc, rfl, hq, hac, SU, LX, AT⟩ := hrel
    by_cases hlt : q < s.size
    · obtain ⟨a1, a2, a3⟩ := AT.out hlt
      have LX1 := LX.out
      have DC := Lib.hid (dr_cons s q hlt)
      rw [DC.out] at LX1 a3
      obtain ⟨k, m, er, y, hk, hm, hy, he, CC⟩ := read_part 28 #[.string s, .int .i64 q] (firstS (dr s q)) (fun Y => read_any s q Y h hlt)
      have LC := fun Y => line_any s q Y (by omega) hq
      by_cases h0 : er = 0
      · subst h0
        have hg := first_good he
        have hys : (firstS (dr s q)).1.text.length = y.size := by rw [hy, len_data]
        have hy1 : 1 ≤ y.size := by rw [← hys]; exact List.length_pos_iff.2 hg.ne
        have hyl : q + y.size ≤ s.size := by have := good_len hg; rw [hys, dr_len] at this; omega
        have hlt2 := lnN_tok hg
        have LX2 : Hid (lex (dr s (q + y.size)) (lnN s (q + y.size)) (acc ++ [(firstS (dr s q)).1.at (lnN s q)]) = lex s.data.toList 1 []) := Lib.hid (by
          have he2 := he
          rw [DC.out] at he2
          rw [lex_tok _ _ _ a1 a2 a3 he2, ← DC.out, dr_dr, hys] at LX1
          rw [← hys, hlt2, hys]
          exact LX1)
        have hbl := fun Y => blank_any s (q + y.size) Y (by omega) hyl
        obtain ⟨ln, hln⟩ : ∃ ln : Nat, lnN s q = ln := ⟨_, rfl⟩
        rw [hln] at LC LX2
        have LC := Lib.hid LC
        have TC : Hid (tkCells (acc ++ [(firstS (dr s q)).1.at ln]) = tkCells acc ++ [.int .i64 k, .int .i64 m, .string y, .int .i64 ln]) := Lib.hid (by rw [tkCells_snoc]; show tkCells acc ++ [.int .i64 (firstS (dr s q)).1.kind, .int .i64 (firstS (dr s q)).1.n, .string (bs (firstS (dr s q)).1.text), .int .i64 ln] = _; rw [hk, hm, hy])
        obtain ⟨A2, hA2⟩ : ∃ A2, acc ++ [(firstS (dr s q)).1.at ln] = A2 := ⟨_, rfl⟩
        have hA2l : A2.length = acc.length + 1 := by rw [← hA2]; simp
        rw [hA2] at LX2 TC
        have HA2 := Lib.hid hA2l
        have BL : Hid (∀ Y, Calls Tryz.prog 27 #[.string s, .int .i64 ((q : Int) + (y.size : Int))] Y (tBlank s (q + y.size) Y)) := Lib.hid fun Y => by rw [← Int.natCast_add]; exact hbl Y
        clear hA2 hA2l hk hm hy he hg hys LX1 a1 a2 a3 hlt2 hln hbl
        go_wp2_with (first
          | (go_at_call 28; ((with_reducible refine (CC.out _).mono ?_); rintro e w1 ⟨rfl, hb⟩; have S3 := Lib.hid (SU.out.later hb); clear hb))
          | (go_at_call 29; ((with_reducible refine (LC.out _).mono ?_); rintro e w' ⟨rfl, rfl⟩))
          | (go_at_call 27; ((with_reducible refine (BL.out _).mono ?_); rintro e w' ⟨q2, rfl, hq2, hq3, hlx, hat, rfl⟩; have LX3 := Lib.hid hlx; have AT3 : Hid (atTok s q2) := Lib.hid hat; clear hlx hat))
          | (at_builtin; go_must (refine wpList_append_own _ rfl (.tmp 37) (.tmp 39) 34 rfl w.heap.size 41 i0 (.agg #[.int .i64 0, .int .i64 0, .string ⟨#[]⟩, .int .i64 0]) 4 40 Tryz.underlying34 HI.out HZ0.out HZ1.out HZ2.out rfl (by decide) _ acc.length _ rfl ((S3.out.alloc _).alloc _).own ⟨w1.heap.size + 1, 0, none⟩ 1 1 [.int .i64 k, .int .i64 m, .string y, .int .i64 ln] rfl rfl (cell_four_at (by simp) _ _ _ _ _) (one_tok _ _ _ _) (by unfold maxLen; omega) (by omega) (by have := S3.out.bw.size; simp; omega) ?_; intro v3 w3 hown3 hgrow3 _; have S4 : Hid (Su w w3 v3 A2) := Lib.hid (((S3.out.alloc _).alloc _).grown hgrow3 (by rw [HA2.out, TC.out]; exact hown3)); have hB3 : w3.heap[w1.heap.size]? = some (.cells #[.int .i64 k, .int .i64 m, .string y, .int .i64 ln] 41) := (hgrow3.block _ (by simp; omega) (own_new S3.out.own)).trans ((Below.heap_alloc _ _ _ (by simp)).trans (heap_alloc_new _ _)); have c2 : w3.cell? ⟨w1.heap.size, 2, none⟩ = some (.string y) := cell_of_row _ _ 2 _ 41 (0, 0) hB3; clear hown3 hgrow3 hB3)))
        go_roundw
        case rel => exact ⟨q2, A2, rfl, hq3, by rw [HA2.out]; omega, S4, Lib.hid ((LX3.out A2).symm.trans LX2.out), AT3⟩
        case measure => simp [intOf]; omega
      · have he0 : (er == 0) = false := by simpa using h0
        have EE : Hid (lex s.data.toList 1 [] = ([], (lnN s q : Int), er)) := Lib.hid (by
          rw [DC.out] at he
          rw [lex_err _ _ _ a1 a2 a3 (by rw [he]; exact h0), he] at LX1
          exact LX1.symm)
        obtain ⟨ln, hln⟩ : ∃ ln : Nat, lnN s q = ln := ⟨_, rfl⟩
        rw [hln] at LC EE
        have LC := Lib.hid LC
        clear hk hm hy he LX1 a1 a2 a3 hln h0
        go_wp2_with (first
          | (go_at_call 28; ((with_reducible refine (CC.out _).mono ?_); rintro e w1 ⟨rfl, hb⟩; have S3 := Lib.hid (SU.out.later hb); clear hb))
          | (go_at_call 29; ((with_reducible refine (LC.out _).mono ?_); rintro e w' ⟨rfl, rfl⟩)))
        go_ret3
        exact tLex_err EE.out (S3.out.alloc _).bw
    · have EE : Hid (lex s.data.toList 1 [] = (acc, 0, 0)) := Lib.hid (by rw [← LX.out, dr_end s _ (by omega), lex_nil])
      go_wp2
      go_ret3
      exact tLex_ok EE.out SU.out.own SU.out.bw
end Go.Proofs.YtlnomiiphlbamaaGreatDoor.LexW
namespace Go.Proofs.YtlnomiiphlbamaaGreatDoor.LexW
open Go Go.RowKit Go.Proofs.YtlnomiiphlbamaaGreatDoor.NumM Go.Proofs.YtlnomiiphlbamaaGreatDoor.LexM

theorem joinT_snoc (l : List Tk) (t : Tk) : joinT (l ++ [t]) = if l = [] then t.text else joinT l ++ 32 :: t.text := by
  induction l with
  | nil => rfl
  | cons u r ih =>
    rw [if_neg (by simp)]
    cases r with
    | nil => rfl
    | cons u2 r =>
      rw [if_neg (by simp)] at ih
      have e1 : joinT ((u :: u2 :: r) ++ [t]) = u.text ++ 32 :: joinT ((u2 :: r) ++ [t]) := rfl
      have e2 : joinT (u :: u2 :: r) = u.text ++ 32 :: joinT (u2 :: r) := rfl
      rw [e1, e2, ih]; simp
theorem joinT_take {l : List Tk} {k : Nat} {t : Tk} (h : l[k]? = some t) : joinT (l.take (k + 1)) = if k = 0 then t.text else joinT (l.take k) ++ 32 :: t.text := by
  obtain ⟨hk, he⟩ := List.getElem?_eq_some_iff.1 h
  rw [List.take_succ_eq_append_getElem hk, he, joinT_snoc]
  by_cases h0 : k = 0
  · subst h0; simp
  · rw [if_neg h0, if_neg]
    intro e
    have := congrArg List.length e
    rw [List.length_take, List.length_nil] at this
    omega
set_option maxRecDepth 100000 in
set_option maxHeartbeats 8000000 in
theorem joinRef_any (l : List Tk) (v : Value) (w : World) (h : ToksAt w v l) (hn : l.length ≤ 16384) (hM : ∀ t ∈ l, t.text.length ≤ 16384) (hI : ∀ t ∈ l, -9223372036854775808 ≤ t.n ∧ t.n ≤ 9223372036854775807) :
    Calls Tryz.prog 14 #[v] w (tStr w (joinS l)) := by
  obtain ⟨p, cap, rfl, hcap, hx⟩ := h
  have HX := Lib.hid hx
  have HMx := Lib.hid hM
  have HIx := Lib.hid hI
  clear hx hM hI
  obtain ⟨n, hnn⟩ : ∃ n, l.length = n := ⟨_, rfl⟩
  rw [hnn] at hcap hn ⊢
  have HN := Lib.hid hnn
  clear hnn
  go_enter Tryz.func14, Tryz.ntmps14
  go_wp2
  go_loopw [4, 5] (fun s i wr => ∃ (k : Nat) (B : ByteArray), k ≤ n ∧ i = .int .i64 k ∧ s = .string B ∧ B.size ≤ k * 16385 ∧ Hid (B.data.toList = joinT (l.take k)) ∧ Hid (Below w.heap.size w wr) ∧ Hid ((l.take k).all validS = true)) (fun _ i _ => n - (intOf i).toNat)
  case atStart => exact ⟨0, ⟨#[]⟩, Nat.zero_le _, rfl, rfl, Nat.le_refl _, Lib.hid rfl, Lib.hid (Below.refl _ _), Lib.hid rfl⟩
  case round =>
    obtain ⟨k, B, hk, rfl, rfl, hB, BT, BW, VA⟩ := hrel
    by_cases hlt : k < n
    · obtain ⟨b, off, rfl, hbs, hcell⟩ := HX.out (by rw [HN.out]; omega)
      obtain ⟨t, htk⟩ : ∃ t, l[k]? = some t := ⟨_, List.getElem?_eq_getElem (by rw [HN.out]; exact hlt)⟩
      obtain ⟨q0, q1, q2, q3⟩ := hcell k t htk
      have ca0 : wr.cell? ⟨b, off + k * 4, none⟩ = some (.int .i64 t.kind) := by rw [BW.out.cell hbs]; exact q0
      have ca1 : wr.cell? ⟨b, off + k * 4 + 1, none⟩ = some (.int .i64 t.n) := by rw [BW.out.cell hbs]; exact q1
      have ca2 : wr.cell? ⟨b, off + k * 4 + 2, none⟩ = some (.string (bs t.text)) := by rw [BW.out.cell hbs]; exact q2
      have ca3 : wr.cell? ⟨b, off + k * 4 + 3, none⟩ = some (.int .i64 t.line) := by rw [BW.out.cell hbs]; exact q3
      have hlen : t.text.length ≤ 16384 := HMx.out t (List.mem_of_getElem? htk)
      have hti := HIx.out t (List.mem_of_getElem? htk)
      have VC : ∀ W, Calls Tryz.prog 30 #[tv t.kind t.n (bs t.text) t.line] W fun e w' => e = .returned (.bool (validS t)) ∧ Below W.heap.size W w' := fun W => by
        have q := validRef_any t.kind t.n t.line (bs t.text) W hti.1 hti.2 (by rw [← len_data]; exact hlen)
        have e : validR ⟨t.kind, t.n, (bs t.text).data.toList, t.line⟩ = validS t := validR_eq t
        rw [e] at q
        exact q
      have HTK := Lib.hid htk
      have hbw : b < wr.heap.size := Nat.lt_of_lt_of_le hbs BW.out.size
      clear hcell q0 q1 q2 q3 htk hti
      cases hv : validS t
      · have EE := Lib.hid (not_all HTK.out hv)
        rw [hv] at VC
        have VC := Lib.hid VC
        clear hv
        obtain ⟨kd, nn, y, ln, e0, e1, e2, e3⟩ : ∃ kd nn y ln, t.kind = kd ∧ t.n = nn ∧ bs t.text = y ∧ t.line = ln := ⟨_, _, _, _, rfl, rfl, rfl, rfl⟩
        rw [e0] at ca0 VC
        rw [e1] at ca1 VC
        rw [e2] at ca2 VC
        rw [e3] at ca3 VC
        clear e0 e1 e2 e3
        go_wp2_with (go_at_call 30; ((with_reducible refine (VC.out _).mono ?_); rintro e w1 ⟨rfl, hb⟩; have BW1 := Lib.hid (BW.out.trans (hb.mono BW.out.size)); clear hb))
        go_ret2
        exact tStr_mk EE.out BW1.out
      · have VA2 := Lib.hid (take_all VA.out HTK.out hv)
        have JT := joinT_take HTK.out
        rw [hv] at VC
        have VC := Lib.hid VC
        clear hv
        obtain ⟨kd, nn, y, ln, e0, e1, e2, e3⟩ : ∃ kd nn y ln, t.kind = kd ∧ t.n = nn ∧ bs t.text = y ∧ t.line = ln := ⟨_, _, _, _, rfl, rfl, rfl, rfl⟩
        have hyd : t.text = y.data.toList := by rw [← e2]
        have hys : y.size ≤ 16384 := by rw [← len_data, ← hyd]; exact hlen
        rw [e0] at ca0 VC
        rw [e1] at ca1 VC
        rw [e2] at ca2 VC
        rw [e3] at ca3 VC
        rw [hyd, ← BT.out] at JT
        clear e0 e1 e2 e3 hyd hlen
        have hBb : B.size ≤ 300000000 := by omega
        have t1 : ¬ 9223372036854775807 < B.size + (⟨#[32]⟩ : ByteArray).size := by show ¬ 9223372036854775807 < B.size + 1; omega
        have t2 : ¬ 9223372036854775807 < B.size + 1 := by omega
        have t3 : ¬ 9223372036854775807 < (B ++ (⟨#[32]⟩ : ByteArray)).size + y.size := by rw [ByteArray.size_append]; show ¬ 9223372036854775807 < B.size + 1 + y.size; omega
        have t4 : ¬ 9223372036854775807 < B.size + 1 + y.size := by omega
        have t5 : ¬ 9223372036854775807 < B.size + (⟨#[32]⟩ : ByteArray).size + y.size := by show ¬ 9223372036854775807 < B.size + 1 + y.size; omega
        have t6 : ¬ 9223372036854775807 < B.size + y.size := by omega
        by_cases hk0 : k = 0
        · have JT2 : Hid ((B ++ y).data.toList = joinT (l.take (k + 1))) := Lib.hid (by
            rw [JT, if_pos hk0]
            have : B.data.toList = [] := by rw [BT.out, hk0]; rfl
            simp [this])
          have hsz : (B ++ y).size ≤ (k + 1) * 16385 := by rw [ByteArray.size_append]; omega
          have c0 : decide (0 < k) = false := by simp; omega
          have c0' : ¬ (0 : Int) < (k : Int) := by omega
          clear JT hk0
          go_wp2_with (go_at_call 30; ((with_reducible refine (VC.out _).mono ?_); rintro e w1 ⟨rfl, hb⟩; have BW1 := Lib.hid (BW.out.trans (hb.mono BW.out.size)); have ca2' := (hb.cell (p := ⟨b, off + k * 4 + 2, none⟩) hbw).trans ca2; clear hb ca0 ca1 ca2 ca3))
          go_roundw
          case rel => exact ⟨k + 1, _, by omega, by go_num, rfl, hsz, JT2, BW1, VA2⟩
          case measure => simp [intOf]; omega
        · have JT2 : Hid ((B ++ (⟨#[32]⟩ : ByteArray) ++ y).data.toList = joinT (l.take (k + 1))) := Lib.hid (by
            rw [JT, if_neg hk0]
            simp)
          have hsz : (B ++ (⟨#[32]⟩ : ByteArray) ++ y).size ≤ (k + 1) * 16385 := by rw [ByteArray.size_append, ByteArray.size_append]; show B.size + 1 + y.size ≤ _; omega
          have c0 : decide (0 < k) = true := by simp; omega
          have c0' : (0 : Int) < (k : Int) := by omega
          clear JT hk0
          go_wp2_with (go_at_call 30; ((with_reducible refine (VC.out _).mono ?_); rintro e w1 ⟨rfl, hb⟩; have BW1 := Lib.hid (BW.out.trans (hb.mono BW.out.size)); have ca2' := (hb.cell (p := ⟨b, off + k * 4 + 2, none⟩) hbw).trans ca2; clear hb ca0 ca1 ca2 ca3))
          go_roundw
          case rel => exact ⟨k + 1, _, by omega, by go_num, rfl, hsz, JT2, BW1, VA2⟩
          case measure => simp [intOf]; omega
    · obtain rfl : n = k := by omega
      have EJ : Hid (joinS l = (B.data.toList, 0)) := Lib.hid (by
        have h1 := VA.out
        have h2 := BT.out
        rw [List.take_of_length_le (by rw [HN.out]; exact Nat.le_refl _)] at h1 h2
        unfold joinS; rw [h1, h2]; rfl)
      go_wp2
      go_ret2
      exact tStr_mk EJ.out BW.out
theorem tkEq_refl (k n : Int) (x : ByteArray) (l : Int) : tkEq k n x l k n x l = true := tkEq_iff.2 ⟨rfl, rfl, rfl, rfl⟩
end Go.Proofs.YtlnomiiphlbamaaGreatDoor.LexW
namespace Go.Proofs.YtlnomiiphlbamaaGreatDoor.EtW
open Go Go.RowKit Go.Proofs.YtlnomiiphlbamaaGreatDoor.NumM Go.Proofs.YtlnomiiphlbamaaGreatDoor.LexW Go.Proofs.YtlnomiiphlbamaaGreatDoor.LexM Go.Proofs.YtlnomiiphlbamaaGreatDoor.ExM Go.Proofs.YtlnomiiphlbamaaGreatDoor.ExW Go.Proofs.YtlnomiiphlbamaaGreatDoor.EtM

set_option maxRecDepth 100000 in
set_option maxHeartbeats 4000000 in
theorem take_bad {L : List Tk} {sl : Value} {w : World} (hc : Cx L sl w) {er : Int} {k : Nat} (hr : res .ch L = .bad er k) : Calls Tryz.prog 15 #[sl, .int .i64 0] w (tTri (zEx, ((L.length - k : Nat) : Int), er) w) := by
  have RS := Lib.hid hr
  clear hr
  have hmf : ∀ (fn : Fn) (first cap : Array Value) (w : World), (Instr.makeFunc fn first cap).run Tryz.prog w = .ok (.func fn first cap) w := fun _ _ _ _ => rfl
  have hb3 : Below w.heap.size w (((w.alloc (.cells #[.int .i64 0, .int .i64 0, .string ⟨#[]⟩, .slice none 0 0] 24)).alloc (.cells #[.int .i64 0] 3)).alloc (.cells #[.int .i64 0] 28)) := (((Below.refl _ _).alloc (Nat.le_refl _) _).alloc (by simp) _).alloc (by simp; omega) _
  have h3 : O3 w.heap.size w (((w.alloc (.cells #[.int .i64 0, .int .i64 0, .string ⟨#[]⟩, .slice none 0 0] 24)).alloc (.cells #[.int .i64 0] 3)).alloc (.cells #[.int .i64 0] 28)) (.int .i64 0) (.int .i64 0) (.string ⟨#[]⟩) (.slice none 0 0) (.int .i64 0) (.int .i64 0) := by
    have a := ((Four.new w (.int .i64 0) (.int .i64 0) (.string ⟨#[]⟩) (.slice none 0 0) 24).alloc (.cells #[.int .i64 0] 3)).alloc (.cells #[.int .i64 0] 28)
    have b := (One.new (w.alloc (.cells #[.int .i64 0, .int .i64 0, .string ⟨#[]⟩, .slice none 0 0] 24)) (.int .i64 0) 3).later ((Below.refl _ _).alloc (Nat.le_refl _) (.cells #[.int .i64 0] 28))
    have c := One.new ((w.alloc (.cells #[.int .i64 0, .int .i64 0, .string ⟨#[]⟩, .slice none 0 0] 24)).alloc (.cells #[.int .i64 0] 3)) (.int .i64 0) 28
    rw [World.size_alloc] at b
    rw [World.size_alloc, World.size_alloc] at c
    exact ⟨hb3, a, b, c⟩
  obtain ⟨p, cap, hsl, hcap, hx⟩ := hc.tok
  have hl16 : L.length ≤ 16384 := hc.len
  subst hsl
  clear hcap hx
  have z3 : (((w.alloc (.cells #[.int .i64 0, .int .i64 0, .string ⟨#[]⟩, .slice none 0 0] 24)).alloc (.cells #[.int .i64 0] 3)).alloc (.cells #[.int .i64 0] 28)).heap.size = w.heap.size + 3 := by simp only [World.size_alloc]
  have HCX0 : Hid (Cx L (.slice p L.length cap) (((w.alloc (.cells #[.int .i64 0, .int .i64 0, .string ⟨#[]⟩, .slice none 0 0] 24)).alloc (.cells #[.int .i64 0] 3)).alloc (.cells #[.int .i64 0] 28))) := Lib.hid ⟨hc.tab.later hb3, hc.tok.later hb3, hc.val, hc.len, hc.tlen⟩
  have HT := Lib.hid hc.tab
  have H3 := Lib.hid h3
  have Z3 := Lib.hid z3
  have hn0 : ¬ (L.length : Int) < 0 := by omega
  clear h3 hb3 hc z3
  go_enter_defers Tryz.func15, Tryz.ntmps15
  go_upto_region 1 with (fail)
  obtain ⟨W3, hW3⟩ : ∃ W3, (((w.alloc (.cells #[.int .i64 0, .int .i64 0, .string ⟨#[]⟩, .slice none 0 0] 24)).alloc (.cells #[.int .i64 0] 3)).alloc (.cells #[.int .i64 0] 28)) = W3 := ⟨_, rfl⟩
  rw [hW3] at H3 HCX0 Z3 ⊢
  clear hW3
  have h3 := H3.out
  have e0 := h3.f.c0
  have e1 := h3.f.c1
  have e2 := h3.f.c2
  have e3 := h3.f.c3
  have f0 := h3.f.f0
  have f1 := h3.f.f1
  have f2 := h3.f.f2
  have f3 := h3.f.f3
  have l0 := h3.l.c0
  have l1 := h3.l.f0
  have r0 := h3.r.c0
  have r1 := h3.r.f0
  clear h3
  have PAC := Lib.hid (parserAt_any HCX0.out)
  have z3a : w.heap.size + 3 ≤ W3.heap.size := Nat.le_of_eq Z3.out.symm
  have z3b : W3.heap.size ≤ w.heap.size + 3 := Nat.le_of_eq Z3.out
  go_wp2_with (first
    | (go_at_call 23; ((with_reducible refine PAC.out.mono ?_); rintro e w7 ⟨rfl, hI⟩; have h7' := H3.out.later hI.bel; have l7 := hI.bel.size; clear e0 e1 e2 e3 f0 f1 f2 f3 l0 l1 r0 r1; have e0 := h7'.f.c0; have e1 := h7'.f.c1; have e2 := h7'.f.c2; have e3 := h7'.f.c3; have f0 := h7'.f.f0; have f1 := h7'.f.f1; have f2 := h7'.f.f2; have f3 := h7'.f.f3; have l0 := h7'.l.c0; have l1 := h7'.l.f0; have r0 := h7'.r.c0; have r1 := h7'.r.f0; have H7 := Lib.hid h7'; have CC := Lib.hid (choice_res HCX0.out hI); have HI7 := Lib.hid hI; rw [RS.out] at CC; clear h7' hI))
    | (go_at_call 24; ((with_reducible refine CC.out.mono ?_); rintro e w8 ⟨rfl, hT⟩; have hbb := HI7.out.bel.trans (below_tn hT (by omega)); have h8 := H7.out.turn hT (by omega); have H8 := Lib.hid h8; clear hT hbb h8)))
  refine leaves_cons (f := 31) (args := #[.pointer (some ⟨w.heap.size, 0, none⟩), .pointer (some ⟨w.heap.size + 1, 0, none⟩), .pointer (some ⟨w.heap.size + 2, 0, none⟩)]) (by simp) (by simp [go_sem]) ?_
  refine (take_catch w.heap.size w w8 er (L.length - k) [] H8.out).mono ?_
  rintro e u' w' ⟨rfl, rfl, h9⟩
  have z0 := h9.f.c0
  have z1 := h9.f.c1
  have z2 := h9.f.c2
  have z3 := h9.f.c3
  have z4 := h9.l.c0
  have z5 := h9.r.c0
  refine leaves_ret (v := .tuple #[xv 0 0 ⟨#[]⟩ (.slice none 0 0), .int .i64 ((L.length - k : Nat) : Int), .int .i64 er]) (by simp [results, Tryz.results15, go_sem, z0, z1, z2, z3, z4, z5]) ?_
  exact h9.zero
set_option maxRecDepth 100000 in
set_option maxHeartbeats 8000000 in
theorem take_ok {L : List Tk} {sl : Value} {w : World} (hc : Cx L sl w) {x : Ex} {r : List Tk} (hr : res .ch L = .ok x r) : Calls Tryz.prog 15 #[sl, .int .i64 0] w (tTri (if vld x ≠ 0 then zEx else x, if vld x ≠ 0 then 0 else ((L.length - r.length : Nat) : Int), vld x) w) := by
  have hrs := res_sz hr
  have hsz : sz x ≤ 2000000 := by have := hc.len; omega
  obtain ⟨N1, hN1⟩ : ∃ v, (if vld x ≠ 0 then (0 : Int) else ((L.length - r.length : Nat) : Int)) = v := ⟨_, rfl⟩
  obtain ⟨X1, hX1⟩ : ∃ v, (if vld x ≠ 0 then zEx else x) = v := ⟨_, rfl⟩
  obtain ⟨V1, hV1⟩ : ∃ v, vld x = v := ⟨_, rfl⟩
  rw [hN1, hX1, hV1]
  have HN1 := Lib.hid hN1
  have HX1 := Lib.hid hX1
  have HV1 := Lib.hid hV1
  clear hN1 hX1 hV1
  have RS := Lib.hid hr
  clear hr
  have hmf : ∀ (fn : Fn) (first cap : Array Value) (w : World), (Instr.makeFunc fn first cap).run Tryz.prog w = .ok (.func fn first cap) w := fun _ _ _ _ => rfl
  have hb3 : Below w.heap.size w (((w.alloc (.cells #[.int .i64 0, .int .i64 0, .string ⟨#[]⟩, .slice none 0 0] 24)).alloc (.cells #[.int .i64 0] 3)).alloc (.cells #[.int .i64 0] 28)) := (((Below.refl _ _).alloc (Nat.le_refl _) _).alloc (by simp) _).alloc (by simp; omega) _
  have h3 : O3 w.heap.size w (((w.alloc (.cells #[.int .i64 0, .int .i64 0, .string ⟨#[]⟩, .slice none 0 0] 24)).alloc (.cells #[.int .i64 0] 3)).alloc (.cells #[.int .i64 0] 28)) (.int .i64 0) (.int .i64 0) (.string ⟨#[]⟩) (.slice none 0 0) (.int .i64 0) (.int .i64 0) := by
    have a := ((Four.new w (.int .i64 0) (.int .i64 0) (.string ⟨#[]⟩) (.slice none 0 0) 24).alloc (.cells #[.int .i64 0] 3)).alloc (.cells #[.int .i64 0] 28)
    have b := (One.new (w.alloc (.cells #[.int .i64 0, .int .i64 0, .string ⟨#[]⟩, .slice none 0 0] 24)) (.int .i64 0) 3).later ((Below.refl _ _).alloc (Nat.le_refl _) (.cells #[.int .i64 0] 28))
    have c := One.new ((w.alloc (.cells #[.int .i64 0, .int .i64 0, .string ⟨#[]⟩, .slice none 0 0] 24)).alloc (.cells #[.int .i64 0] 3)) (.int .i64 0) 28
    rw [World.size_alloc] at b
    rw [World.size_alloc, World.size_alloc] at c
    exact ⟨hb3, a, b, c⟩
  obtain ⟨p, cap, hsl, hcap, hx⟩ := hc.tok
  have hl16 : L.length ≤ 16384 := hc.len
  subst hsl
  clear hcap hx
  have z3 : (((w.alloc (.cells #[.int .i64 0, .int .i64 0, .string ⟨#[]⟩, .slice none 0 0] 24)).alloc (.cells #[.int .i64 0] 3)).alloc (.cells #[.int .i64 0] 28)).heap.size = w.heap.size + 3 := by simp only [World.size_alloc]
  have HCX0 : Hid (Cx L (.slice p L.length cap) (((w.alloc (.cells #[.int .i64 0, .int .i64 0, .string ⟨#[]⟩, .slice none 0 0] 24)).alloc (.cells #[.int .i64 0] 3)).alloc (.cells #[.int .i64 0] 28))) := Lib.hid ⟨hc.tab.later hb3, hc.tok.later hb3, hc.val, hc.len, hc.tlen⟩
  have HT := Lib.hid hc.tab
  have H3 := Lib.hid h3
  have Z3 := Lib.hid z3
  have hn0 : ¬ (L.length : Int) < 0 := by omega
  clear h3 hb3 hc z3
  go_enter_defers Tryz.func15, Tryz.ntmps15
  go_upto_region 1 with (fail)
  obtain ⟨W3, hW3⟩ : ∃ W3, (((w.alloc (.cells #[.int .i64 0, .int .i64 0, .string ⟨#[]⟩, .slice none 0 0] 24)).alloc (.cells #[.int .i64 0] 3)).alloc (.cells #[.int .i64 0] 28)) = W3 := ⟨_, rfl⟩
  rw [hW3] at H3 HCX0 Z3 ⊢
  clear hW3
  have h3 := H3.out
  have e0 := h3.f.c0
  have e1 := h3.f.c1
  have e2 := h3.f.c2
  have e3 := h3.f.c3
  have f0 := h3.f.f0
  have f1 := h3.f.f1
  have f2 := h3.f.f2
  have f3 := h3.f.f3
  have l0 := h3.l.c0
  have l1 := h3.l.f0
  have r0 := h3.r.c0
  have r1 := h3.r.f0
  clear h3
  have PAC := Lib.hid (parserAt_any HCX0.out)
  have z3a : w.heap.size + 3 ≤ W3.heap.size := Nat.le_of_eq Z3.out.symm
  have z3b : W3.heap.size ≤ w.heap.size + 3 := Nat.le_of_eq Z3.out
  go_upto_region 6 with (first
    | (go_at_call 23; ((with_reducible refine PAC.out.mono ?_); rintro e w7 ⟨rfl, hI⟩; have h7' := H3.out.later hI.bel; have l7 := hI.bel.size; clear e0 e1 e2 e3 f0 f1 f2 f3 l0 l1 r0 r1; have e0 := h7'.f.c0; have e1 := h7'.f.c1; have e2 := h7'.f.c2; have e3 := h7'.f.c3; have f0 := h7'.f.f0; have f1 := h7'.f.f1; have f2 := h7'.f.f2; have f3 := h7'.f.f3; have l0 := h7'.l.c0; have l1 := h7'.l.f0; have r0 := h7'.r.c0; have r1 := h7'.r.f0; have H7 := Lib.hid h7'; have CC := Lib.hid (choice_res HCX0.out hI); have HI7 := Lib.hid hI; rw [RS.out] at CC; clear h7' hI))
    | (go_at_call 24; ((with_reducible refine CC.out.mono ?_); rintro e w8 ⟨o8, n8, s8, p8, k8, c8, rfl, hT, hI, hF⟩; have h8 := H7.out.turn hT (by omega); have l8 := hT.size; clear e0 e1 e2 e3 f0 f1 f2 f3 l0 l1 r0 r1; have e0 := h8.f.c0; have e1 := h8.f.c1; have e2 := h8.f.c2; have e3 := h8.f.c3; have f0 := h8.f.f0; have f1 := h8.f.f1; have f2 := h8.f.f2; have f3 := h8.f.f3; have l0 := h8.l.c0; have l1 := h8.l.f0; have r0 := h8.r.c0; have r1 := h8.r.f0; have h9 : O3 w.heap.size w ((((w8.setCell ⟨w.heap.size, 0, none⟩ (.int .i64 o8)).setCell ⟨w.heap.size, 1, none⟩ (.int .i64 n8)).setCell ⟨w.heap.size, 2, none⟩ (.string s8)).setCell ⟨w.heap.size, 3, none⟩ (.slice p8 k8 c8)) (.int .i64 o8) (.int .i64 n8) (.string s8) (.slice p8 k8 c8) (.int .i64 0) (.int .i64 0) := h8.putE _ _ _ _; have b9 : Blk ((((w8.setCell ⟨w.heap.size, 0, none⟩ (.int .i64 o8)).setCell ⟨w.heap.size, 1, none⟩ (.int .i64 n8)).setCell ⟨w.heap.size, 2, none⟩ (.string s8)).setCell ⟨w.heap.size, 3, none⟩ (.slice p8 k8 c8)) W3.heap.size (.slice p L.length cap) (pos L r) (hdT r) := hI.blk.put (by omega) _ _ _ _; have s9 : ((((w8.setCell ⟨w.heap.size, 0, none⟩ (.int .i64 o8)).setCell ⟨w.heap.size, 1, none⟩ (.int .i64 n8)).setCell ⟨w.heap.size, 2, none⟩ (.string s8)).setCell ⟨w.heap.size, 3, none⟩ (.slice p8 k8 c8)).heap.size = w8.heap.size := (by simp only [setCell_size]); have x9 : ExS (fun b => w7.heap.size ≤ b ∧ b < w8.heap.size) ((((w8.setCell ⟨w.heap.size, 0, none⟩ (.int .i64 o8)).setCell ⟨w.heap.size, 1, none⟩ (.int .i64 n8)).setCell ⟨w.heap.size, 2, none⟩ (.string s8)).setCell ⟨w.heap.size, 3, none⟩ (.slice p8 k8 c8)) (xv o8 n8 s8 (.slice p8 k8 c8)) x := ex_away4 hF (fun q => by have := q.1; omega) _ _ _ _; have HH := Lib.hid h9; have BB := Lib.hid b9; have SS := Lib.hid s9; have XX := Lib.hid x9; have SF := Lib.hid hI.suf.2; clear hT hI hF h8 h9 b9 s9 x9)))
  obtain ⟨W9, hW9⟩ : ∃ W9, ((((w8.setCell ⟨w.heap.size, 0, none⟩ (.int .i64 o8)).setCell ⟨w.heap.size, 1, none⟩ (.int .i64 n8)).setCell ⟨w.heap.size, 2, none⟩ (.string s8)).setCell ⟨w.heap.size, 3, none⟩ (.slice p8 k8 c8)) = W9 := ⟨_, rfl⟩
  rw [hW9] at HH BB SS XX ⊢
  clear hW9 e0 e1 e2 e3 f0 f1 f2 f3 l0 l1 r0 r1
  have h9 := HH.out
  have b9 := BB.out
  have s9 := SS.out
  have e0 := h9.f.c0
  have e1 := h9.f.c1
  have e2 := h9.f.c2
  have e3 := h9.f.c3
  have f0 := h9.f.f0
  have f1 := h9.f.f1
  have f2 := h9.f.f2
  have f3 := h9.f.f3
  have l0 := h9.l.c0
  have l1 := h9.l.f0
  have r0 := h9.r.c0
  have r1 := h9.r.f0
  have u1 := b9.cell 1
  change W9.cell? _ = some (.int .i64 (pos L r)) at u1
  have hposr : pos L r = L.length - r.length := rfl
  have PR := Lib.hid hposr
  have CK : Hid (∀ W, Below W9.heap.size W9 W → Calls Tryz.prog 26 #[xv o8 n8 s8 (.slice p8 k8 c8), .int .i64 (pos L r)] W fun e w' => ∃ oA nA sA pA kA cA, e = .returned (.tuple #[xv oA nA sA (.slice pA kA cA), .int .i64 N1, .int .i64 V1]) ∧ Below W.heap.size W w' ∧ ExS (fun b => w7.heap.size ≤ b ∧ b < w8.heap.size) w' (xv oA nA sA (.slice pA kA cA)) X1) := Lib.hid (fun W hW => by
    have X9 : ExS (fun b => w7.heap.size ≤ b ∧ b < w8.heap.size) W (xv o8 n8 s8 (.slice p8 k8 c8)) x := XX.out.kept (fun _ q => q) (fun b i q v hv => (hW.cell (p := ⟨b, i, none⟩) (by have := q.2; show b < W9.heap.size; omega)).trans hv)
    have q := checked_any (w := W) (pos L r) X9 (fun b q => by have := q.2; have := hW.size; show b < W.heap.size; omega) hsz ((HT.out.base.later HH.out.b).later hW)
    unfold tChk at q
    rw [show ((pos L r : Nat) : Int) = ((L.length - r.length : Nat) : Int) from rfl, HN1.out, HX1.out, HV1.out] at q
    exact q)
  have hs9 := s9
  clear h9 b9 hposr s9
  refine wp_region_noPanic ?_
  go_region_law (go_simp; go_at_call 26; (with_reducible refine (CK.out _ ?_).mono ?_); (first | exact (Below.refl _ _).drew | exact Below.refl _ _); rintro e wA ⟨oA, nA, sA, pA, kA, cA, rfl, hb, hX⟩; have hb2 := ((Below.refl _ _).drew : Below W9.heap.size W9 W9.drew).then_ hb; have hA := HH.out.later hb2; have ae0 := hA.f.c0; have ae1 := hA.f.c1; have ae2 := hA.f.c2; have ae3 := hA.f.c3; have af0 := hA.f.f0; have af1 := hA.f.f1; have af2 := hA.f.f2; have af3 := hA.f.f3; have al0 := hA.l.c0; have al1 := hA.l.f0; have ar0 := hA.r.c0; have ar1 := hA.r.f0; have hA2 := hA.putE (.int .i64 oA) (.int .i64 nA) (.string sA) (.slice pA kA cA); have c4 := hA2.l.c0; have c5 := hA2.l.f0; have hA3 := hA2.putL (.int .i64 N1); have c6 := hA3.r.c0; have c7 := hA3.r.f0; have HAP := Lib.hid (hA3.putR (.int .i64 V1)); have XA := Lib.hid hX; have HBA := Lib.hid hb2; clear hb hX hb2 hA hA2 hA3)
  all_goals (refine NoPanic.normal ?_)
  all_goals
    go_wp2
    refine leaves_cons (f := 31) (args := #[.pointer (some ⟨w.heap.size, 0, none⟩), .pointer (some ⟨w.heap.size + 1, 0, none⟩), .pointer (some ⟨w.heap.size + 2, 0, none⟩)]) (by simp) (by simp [go_sem]) ?_
    refine (take_idle _ _ _ _).mono ?_
    rintro e u' w' ⟨rfl, rfl, hbz⟩
    have h9 := HAP.out.later hbz
    have z0 := h9.f.c0
    have z1 := h9.f.c1
    have z2 := h9.f.c2
    have z3 := h9.f.c3
    have z4 := h9.l.c0
    have z5 := h9.r.c0
    refine leaves_ret (v := .tuple #[xv oA nA sA (.slice pA kA cA), .int .i64 N1, .int .i64 V1]) (by simp [results, Tryz.results15, go_sem, z0, z1, z2, z3, z4, z5]) ?_
    have sA1 := HBA.out.size
    refine ⟨_, _, _, _, _, _, rfl, h9.b, ?_⟩
    have XB : ExS (fun b => w7.heap.size ≤ b ∧ b < w8.heap.size) _ (xv oA nA sA (.slice pA kA cA)) X1 := ex_away (ex_away (ex_away4 XA.out (g := w.heap.size) (fun q => by have := q.1; omega) (.int .i64 oA) (.int .i64 nA) (.string sA) (.slice pA kA cA)) (g := w.heap.size + 1) (o := 0) (fun q => by have := q.1; omega) (.int .i64 N1)) (g := w.heap.size + 2) (o := 0) (fun q => by have := q.1; omega) (.int .i64 V1)
    exact XB.kept (fun b q => ⟨by have := q.1; omega, Nat.lt_of_lt_of_le (by simp only [setCell_size]; have := q.2; omega) hbz.size⟩) (fun b i q v hv => (hbz.cell (p := ⟨b, i, none⟩) (by simp only [setCell_size]; have := q.2; omega)).trans hv)
theorem take_any {L : List Tk} {sl : Value} {w : World} (hc : Cx L sl w) : Calls Tryz.prog 15 #[sl, .int .i64 0] w (tTri (takS L) w) := by
  unfold takS
  rcases hr : res .ch L with ⟨x, r⟩ | ⟨er, k⟩ | _
  · have q := take_ok hc hr
    have e : (if vld x ≠ 0 then (zEx, (0 : Int), vld x) else (x, ((L.length - r.length : Nat) : Int), 0)) = (if vld x ≠ 0 then zEx else x, if vld x ≠ 0 then 0 else ((L.length - r.length : Nat) : Int), vld x) := by
      by_cases g : vld x ≠ 0
      · rw [if_pos g, if_pos g, if_pos g]
      · rw [if_neg g, if_neg g, if_neg g]
        simp only [ne_eq, Decidable.not_not] at g
        rw [g]
    dsimp only
    rw [e]
    exact q
  · exact take_bad hc hr
  · exact absurd hr (res_ne _ _)
end Go.Proofs.YtlnomiiphlbamaaGreatDoor.EtW
namespace Go.Proofs.YtlnomiiphlbamaaGreatDoor.EtM
open Go Go.Proofs.YtlnomiiphlbamaaGreatDoor.NumM Go.Proofs.YtlnomiiphlbamaaGreatDoor.LexM Go.Proofs.YtlnomiiphlbamaaGreatDoor.ExM Go.Proofs.YtlnomiiphlbamaaGreatDoor.LexW

theorem tk_n {t : Tk} (h : validS t = true) : -9223372036854775808 ≤ t.n ∧ t.n ≤ 9223372036854775807 := by
  have hf := valid_iff.1 h
  rcases kind_iff hf with ⟨_, a⟩ | ⟨_, a, _⟩ | ⟨_, a, b, _⟩ | ⟨_, a, _⟩
  · rw [a]; exact ⟨by decide, by decide⟩
  · rw [a]; exact ⟨by decide, by decide⟩
  · omega
  · rw [a]; exact ⟨by decide, by decide⟩
theorem tokS_all {s : List UInt8} {L : List Tk} {ln er : Int} (h : tokS s = (L, ln, er)) : L.length ≤ 16384 ∧ (∀ u ∈ L, validS u = true) ∧ ∀ u ∈ L, u.text.length ≤ 16384 := by
  have q := tokS_good s
  rw [h] at q
  exact ⟨q.1, fun u hu => (q.2 u hu).1, fun u hu => (q.2 u hu).2⟩
theorem join_ok {L : List Tk} (h : ∀ u ∈ L, validS u = true) : joinS L = (joinT L, 0) := by
  unfold joinS
  rw [List.all_eq_true.2 h]
  rfl
/-- The joined tokens are parsed to the same, up to lines. -/
theorem par_join {s : List UInt8} {L : List Tk} (h : tokS s = (L, 0, 0)) (hl : (joinT L).length ≤ 16384) : (parS (joinT L)).1 = (parS s).1 ∧ (parS (joinT L)).2.2 = (parS s).2.2 := by
  have hv := (tokS_all h).2.1
  have e1 : tokS (joinT L) = (L.map (·.at 1), 0, 0) := by
    rw [tokS_lex hl, lex_joined L 1 [] (List.all_eq_true.2 hv)]
    rfl
  rw [Go.Proofs.YtlnomiiphlbamaaGreatDoor.EtW.parS_ok e1, Go.Proofs.YtlnomiiphlbamaaGreatDoor.EtW.parS_ok h]
  have q := res_same (j := .ch) (st_at L 1)
  rcases h1 : res .ch (L.map (·.at 1)) with ⟨x, r⟩ | ⟨er, k⟩ | _ <;> rcases h2 : res .ch L with ⟨y, r'⟩ | ⟨er', k'⟩ | _ <;> rw [h1, h2] at q <;> (try rw [h1]) <;> simp only [Rs.map, Rs.ok.injEq, Rs.bad.injEq, reduceCtorEq] at q
  · obtain ⟨rfl, hr⟩ := q
    have hlen : r.length = r'.length := by have := congrArg List.length hr; simpa using this
    unfold fin
    dsimp only
    by_cases g : r'.length ≠ 0
    · rw [if_pos (by omega), if_pos g]
      exact ⟨rfl, rfl⟩
    · rw [if_neg (by omega), if_neg g]
      split <;> exact ⟨rfl, rfl⟩
  · obtain ⟨rfl, rfl⟩ := q
    exact ⟨rfl, rfl⟩
  · exact ⟨rfl, rfl⟩
/-- What Take gives of the tokens that Parse takes whole. -/
theorem tak_ok {s : List UInt8} {L : List Tk} {A : Ex} {i f : Int} (h : tokS s = (L, 0, 0)) (hp : parS s = (A, i, f)) (hf : f = 0) : takS L = (A, (L.length : Int), 0) := by
  obtain ⟨L', x, h', hr, hv, hq⟩ := par_ok (s := s) (by rw [hp]; exact hf)
  rw [h] at h'
  cases h'
  rw [hp] at hq
  cases hq
  unfold takS
  rw [hr]
  dsimp only
  rw [if_neg (by rw [hv]; decide)]
  rfl
theorem tak_some {s : List UInt8} {L : List Tk} {A C : Ex} {i f k : Int} (h : tokS s = (L, 0, 0)) (hp : parS s = (A, i, f)) (hf : f ≠ 0) (ht : takS L = (C, k, 0)) : ∃ (m : Nat) (u : Tk), k = (m : Int) ∧ L[m]? = some u ∧ f = 5 ∧ i = u.line := by
  rw [Go.Proofs.YtlnomiiphlbamaaGreatDoor.EtW.parS_ok h] at hp
  unfold takS at ht
  rcases hr : res .ch L with ⟨x, r⟩ | ⟨er, q⟩ | _
  · rw [hr] at ht hp
    dsimp only at ht
    by_cases hv : vld x ≠ 0
    · rw [if_pos hv] at ht
      simp only [Prod.mk.injEq] at ht
      exact absurd ht.2.2 hv
    · rw [if_neg hv] at ht
      simp only [Prod.mk.injEq] at ht
      unfold fin at hp
      dsimp only at hp
      have hrl := (res_sz hr).2
      by_cases g : r.length ≠ 0
      · rw [if_pos g] at hp
        simp only [Prod.mk.injEq] at hp
        have hlt : L.length - r.length < L.length := by omega
        refine ⟨L.length - r.length, L[L.length - r.length], ht.2.1.symm, List.getElem?_eq_getElem hlt, hp.2.2.symm, ?_⟩
        rw [← hp.2.1]
        unfold lineOf
        rw [if_neg (by omega), Nat.min_eq_left (by omega)]
        unfold hdT
        rw [List.headD_eq_head?_getD, List.head?_drop, List.getElem?_eq_getElem hlt]
        rfl
      · rw [if_neg g, if_neg hv] at hp
        simp only [Prod.mk.injEq] at hp
        exact absurd hp.2.2.symm hf
  · rw [hr] at ht
    dsimp only at ht
    simp only [Prod.mk.injEq] at ht
    have := run_nb _ _ _ er q hr
    omega
  · exact absurd hr (res_ne _ _)
theorem tak_not {s : List UInt8} {L : List Tk} {A C : Ex} {i f k e : Int} (h : tokS s = (L, 0, 0)) (hp : parS s = (A, i, f)) (hf : f ≠ 0) (ht : takS L = (C, k, e)) : e = f ∨ f = 5 := by
  rw [Go.Proofs.YtlnomiiphlbamaaGreatDoor.EtW.parS_ok h] at hp
  unfold takS at ht
  rcases hr : res .ch L with ⟨x, r⟩ | ⟨er, q⟩ | _
  · rw [hr] at ht hp
    dsimp only at ht
    unfold fin at hp
    dsimp only at hp
    by_cases g : r.length ≠ 0
    · rw [if_pos g] at hp
      simp only [Prod.mk.injEq] at hp
      exact .inr hp.2.2.symm
    · rw [if_neg g] at hp
      by_cases hv : vld x ≠ 0
      · rw [if_pos hv] at hp ht
        simp only [Prod.mk.injEq] at hp ht
        exact .inl (ht.2.2.symm.trans hp.2.2)
      · rw [if_neg hv] at hp
        simp only [Prod.mk.injEq] at hp
        exact absurd hp.2.2.symm hf
  · rw [hr] at ht hp
    dsimp only at ht
    unfold fin at hp
    dsimp only at hp
    simp only [Prod.mk.injEq] at hp ht
    exact .inl (ht.2.2.symm.trans hp.2.2)
  · exact absurd hr (res_ne _ _)
theorem par_sz {s : List UInt8} : sz (parS s).1 ≤ 2000000 := by
  unfold parS
  split
  · exact (by decide : sz zEx ≤ 2000000)
  · rename_i h
    rcases hr : res .ch (tokS s).1 with ⟨x, r⟩ | ⟨er, q⟩ | _
    · unfold fin
      dsimp only
      have h1 := (res_sz hr).1
      have h2 := (tokS_good s).1
      split
      · exact (by decide : sz zEx ≤ 2000000)
      · split
        · exact (by decide : sz zEx ≤ 2000000)
        · show sz x ≤ _; omega
    · exact (by decide : sz zEx ≤ 2000000)
    · exact (by decide : sz zEx ≤ 2000000)
end Go.Proofs.YtlnomiiphlbamaaGreatDoor.EtM
namespace Go.Proofs.YtlnomiiphlbamaaGreatDoor.EtW
open Go Go.RowKit Go.Proofs.YtlnomiiphlbamaaGreatDoor.NumM Go.Proofs.YtlnomiiphlbamaaGreatDoor.LexW Go.Proofs.YtlnomiiphlbamaaGreatDoor.LexM Go.Proofs.YtlnomiiphlbamaaGreatDoor.ExM Go.Proofs.YtlnomiiphlbamaaGreatDoor.ExW Go.Proofs.YtlnomiiphlbamaaGreatDoor.EtM

theorem tok_line {W : World} {b off n cap m : Nat} {L : List Tk} {u : Tk} (h : ToksAt W (.slice (some ⟨b, off, none⟩) n cap) L) (hm : L[m]? = some u) : W.cell? ⟨b, off + m * 4 + 3, none⟩ = some (.int .i64 u.line) := by
  obtain ⟨p', cap', e, _, hx⟩ := h
  cases e
  obtain ⟨b', off', e', _, hc⟩ := hx (by have := (List.getElem?_eq_some_iff.1 hm).1; omega)
  cases e'
  exact (hc m u hm).2.2.2
set_option maxRecDepth 100000 in
set_option maxHeartbeats 4000000 in
theorem tokensRef_long (s : ByteArray) (w : World) (hs : s.size ≤ 140737488351232) (h : 16384 < s.size) : Calls Tryz.prog 13 #[.string s] w (tLex w ([], 0, 2)) := by
  have h1 : (16384 : Int) < (s.size : Int) := by omega
  go_enter Tryz.func13, Tryz.ntmps13
  go_wp2
  go_ret3
  exact tLex_err rfl (Below.refl _ _)
theorem tokensRefAll (s : ByteArray) (w : World) (hs : s.size ≤ 140737488351232) : Calls Tryz.prog 13 #[.string s] w (tLex w (tokS s.data.toList)) := by
  have hl : s.data.toList.length = s.size := by simp
  unfold tokS
  by_cases h : 16384 < s.size
  · rw [if_pos (by omega)]
    exact tokensRef_long s w hs h
  · rw [if_neg (by omega)]
    exact tokensRef s w (by omega)
end Go.Proofs.YtlnomiiphlbamaaGreatDoor.EtW
namespace Go.Proofs.YtlnomiiphlbamaaGreatDoor.EtW
open Go Go.RowKit Go.Proofs.YtlnomiiphlbamaaGreatDoor.NumM Go.Proofs.YtlnomiiphlbamaaGreatDoor.LexW Go.Proofs.YtlnomiiphlbamaaGreatDoor.LexM Go.Proofs.YtlnomiiphlbamaaGreatDoor.ExM Go.Proofs.YtlnomiiphlbamaaGreatDoor.ExW Go.Proofs.YtlnomiiphlbamaaGreatDoor.EtM

set_option maxRecDepth 100000 in
set_option maxHeartbeats 4000000 in
theorem lay_err (s : ByteArray) (hs : s.size ≤ 140737488351232) (w : World) (ht : TabE w) {L : List Tk} {ln er : Int} (hq : tokS s.data.toList = (L, ln, er)) (he : er ≠ 0) : Calls Tryz.prog 6 #[.string s] w fun e w' => e = .returned (.bool true) ∧ Below w.heap.size w w' := by
  have TC0 := tokensRefAll s w hs
  rw [hq] at TC0
  have TC := Lib.hid TC0
  have AC := Lib.hid (fun W (hW : Below w.heap.size w W) => awake_any W (ht.later hW))
  clear TC0 ht hq
  go_enter Tryz.func6, Tryz.ntmps6
  go_wp2_with (first
    | (go_at_call 13; ((with_reducible refine TC.out.mono ?_); rintro e w2 ⟨v, rfl, hown, hb⟩; obtain ⟨p, cap, hv, hcap, hx⟩ := ToksAt.ofOwn hown; subst hv; have HB2 := Lib.hid hb; clear hown hx hb))
    | (go_at_call 9; ((with_reducible refine (AC.out _ HB2.out).mono ?_); rintro e w3 ⟨rfl, hb⟩; have HB3 := Lib.hid (HB2.out.then_ hb); clear hb)))
  go_ret
  exact ⟨rfl, HB3.out⟩
set_option maxRecDepth 100000 in
set_option maxHeartbeats 8000000 in
theorem lay_sa (s : ByteArray) (hs : s.size ≤ 140737488351232) (w : World) (ht : TabE w) {L : List Tk} (hq : tokS s.data.toList = (L, 0, 0)) {A : Ex} {i2 i : Int} {T : List UInt8} (h1 : parS s.data.toList = (A, i, 0)) (hT : joinT L = T) (hTl : T.length ≤ 300000000) (h2 : parS T = (A, i2, 0)) (hl : T.length ≤ 16384) (h3 : takS L = (A, (L.length : Int), 0))  :
    Calls Tryz.prog 6 #[.string s] w fun e w' => e = .returned (.bool true) ∧ Below w.heap.size w w' := by
  have hall := tokS_all hq
  have hza : sz A ≤ 2000000 := by have := par_sz (s := s.data.toList); rw [h1] at this; exact this
  have TC0 := tokensRefAll s w hs
  rw [hq] at TC0
  have TC := Lib.hid TC0
  have JC := Lib.hid (fun W v (hv : ToksAt W v L) => (by have q := joinRef_any L v W hv hall.1 hall.2.2 (fun t h => tk_n (hall.2.1 t h)); rw [join_ok hall.2.1, hT] at q; exact q : Calls Tryz.prog 14 #[v] W (tStr W (T, 0))))
  have P1 := Lib.hid (fun W (hW : Below w.heap.size w W) => by
    have q := parse_any s W (ht.later hW)
    rw [h1] at q
    exact q)
  have P2 := Lib.hid (fun W (hW : Below w.heap.size w W) => by
    have q := parse_any (bs T) W (ht.later hW)
    have e : parS (bs T).data.toList = (A, i2, 0) := h2
    rw [e] at q
    exact q)
  have TK := Lib.hid (fun W v (hW : Below w.heap.size w W) (hv : ToksAt W v L) => by
    have q := take_any (L := L) (sl := v) (w := W) ⟨ht.later hW, hv, hall.2.1, hall.1, hall.2.2⟩
    rw [h3] at q
    exact q)
  have SC := Lib.hid (fun W va vb (ha : ExAt W.heap.size W va A) (hb : ExAt W.heap.size W vb A) => (by have q := sameR_any A A _ W va vb ha hb (Nat.le_refl _) hza; rw [eqB_refl] at q; exact q : Calls Tryz.prog 12 #[va, vb] W (tBool true W)))
  have AC := Lib.hid (fun W (hW : Below w.heap.size w W) => awake_any W (ht.later hW))
  have hn0 : L.length ≤ 16384 := hall.1
  have t1 : (T.length : Int) ≤ 16384 := by omega
  clear TC0 ht hq h1 h2 h3 hT hall hza hl
  go_enter Tryz.func6, Tryz.ntmps6
  go_wp2_with (first
    | (go_at_call 13; ((with_reducible refine TC.out.mono ?_); rintro e w2 ⟨v, rfl, hown, hb⟩; have hta := ToksAt.ofOwn hown; obtain ⟨p, cap, hv, hcap, hx⟩ := ToksAt.ofOwn hown; subst hv; have HTA := Lib.hid hta; have JC2 := Lib.hid (JC.out _ _ hta); have HB2 := Lib.hid hb; clear hx; clear hown hb hta))
    | (go_at_call 14; ((with_reducible refine JC2.out.mono ?_); rintro e w3 ⟨rfl, hb⟩; have HB3 := Lib.hid (HB2.out.then_ hb); have HT3 := Lib.hid (HTA.out.later hb); clear hb))
    | (go_at_call 11; ((with_reducible refine (P1.out _ HB3.out).mono ?_); rintro e w4 ⟨o4, n4, s4, p4, k4, c4, rfl, hb, hf⟩; have hq := hb.alloc hb.size (.cells #[.int .i64 o4, .int .i64 n4, .string s4, .slice p4 k4 c4] 24); have G4 := Lib.hid (Four.new w4 (.int .i64 o4) (.int .i64 n4) (.string s4) (.slice p4 k4 c4) 24); have F4 := Lib.hid (fr_alloc hf (.cells #[.int .i64 o4, .int .i64 n4, .string s4, .slice p4 k4 c4] 24)); have HB4 := Lib.hid (HB3.out.then_ hq); have HT4 := Lib.hid (HT3.out.later hq); clear hb hf hq))
    | (go_at_call 11; ((with_reducible refine (P2.out _ HB4.out).mono ?_); rintro e w5 ⟨o5, n5, s5, p5, k5, c5, rfl, hb, hf⟩; have hq := hb.alloc hb.size (.cells #[.int .i64 o5, .int .i64 n5, .string s5, .slice p5 k5 c5] 24); have G5 := Four.new w5 (.int .i64 o5) (.int .i64 n5) (.string s5) (.slice p5 k5 c5) 24; have F5 := Lib.hid (fr_alloc hf (.cells #[.int .i64 o5, .int .i64 n5, .string s5, .slice p5 k5 c5] 24)); have HB5 := Lib.hid (HB4.out.then_ hq); have HT5 := Lib.hid (HT4.out.later hq); have g4 := G4.out.stay hq; have HG4 := Lib.hid g4; have F45 := Lib.hid (F4.out.later hq); have a0 := g4.c0; have a1 := g4.c1; have a2 := g4.c2; have a3 := g4.c3; have b0 := G5.c0; have b1 := G5.c1; have b2 := G5.c2; have b3 := G5.c3; have SC1 := Lib.hid (SC.out _ _ _ F45.out.at_ F5.out.at_); clear hb hf hq g4 G5))
    | (go_at_call 12; ((with_reducible refine SC1.out.mono ?_); rintro e w6 ⟨rfl, hb⟩; have HB6 := Lib.hid (HB5.out.then_ hb); have HT6 := Lib.hid (HT5.out.later hb); have g4 := HG4.out.stay hb; have HG6 := Lib.hid g4; have F46 := Lib.hid (F45.out.later hb); clear a0 a1 a2 a3 b0 b1 b2 b3; have a0 := g4.c0; have a1 := g4.c1; have a2 := g4.c2; have a3 := g4.c3; have TK1 := Lib.hid (TK.out _ _ HB6.out HT6.out); clear hb g4))
    | (go_at_call 15; ((with_reducible refine TK1.out.mono ?_); rintro e w7 ⟨o7, n7, s7, p7, k7, c7, rfl, hb, hf⟩; have hq := hb.alloc hb.size (.cells #[.int .i64 o7, .int .i64 n7, .string s7, .slice p7 k7 c7] 24); have HB7 := Lib.hid (HB6.out.then_ hq); have g4 := HG6.out.stay hq; have G7 := Four.new w7 (.int .i64 o7) (.int .i64 n7) (.string s7) (.slice p7 k7 c7) 24; have F7 := Lib.hid (fr_alloc hf (.cells #[.int .i64 o7, .int .i64 n7, .string s7, .slice p7 k7 c7] 24)); have F47 := Lib.hid (F46.out.later hq); have SC2 := Lib.hid (SC.out _ _ _ F7.out.at_ F47.out.at_); clear a0 a1 a2 a3; have a0 := g4.c0; have a1 := g4.c1; have a2 := g4.c2; have a3 := g4.c3; have d0 := G7.c0; have d1 := G7.c1; have d2 := G7.c2; have d3 := G7.c3; clear g4 G7; clear hb hf hq))
    | (go_at_call 12; ((with_reducible refine SC2.out.mono ?_); rintro e w8 ⟨rfl, hb⟩; have HB8 := Lib.hid (HB7.out.then_ hb); clear hb))
    | (go_at_call 9; ((with_reducible refine (AC.out _ HB8.out).mono ?_); rintro e w9 ⟨rfl, hb⟩; have HB9 := Lib.hid (HB8.out.then_ hb); clear hb)))
  go_ret
  exact ⟨rfl, HB9.out⟩
set_option maxRecDepth 100000 in
set_option maxHeartbeats 8000000 in
theorem lay_sb (s : ByteArray) (hs : s.size ≤ 140737488351232) (w : World) (ht : TabE w) {L : List Tk} (hq : tokS s.data.toList = (L, 0, 0)) {A C : Ex} {i2 : Int} {m : Nat} {u : Tk} {T : List UInt8} (h1 : parS s.data.toList = (A, u.line, 5)) (hT : joinT L = T) (hTl : T.length ≤ 300000000) (h2 : parS T = (A, i2, 5)) (hl : T.length ≤ 16384) (h3 : takS L = (C, (m : Int), 0)) (hm : L[m]? = some u) :
    Calls Tryz.prog 6 #[.string s] w fun e w' => e = .returned (.bool true) ∧ Below w.heap.size w w' := by
  have hall := tokS_all hq
  have hza : sz A ≤ 2000000 := by have := par_sz (s := s.data.toList); rw [h1] at this; exact this
  have TC0 := tokensRefAll s w hs
  rw [hq] at TC0
  have TC := Lib.hid TC0
  have JC := Lib.hid (fun W v (hv : ToksAt W v L) => (by have q := joinRef_any L v W hv hall.1 hall.2.2 (fun t h => tk_n (hall.2.1 t h)); rw [join_ok hall.2.1, hT] at q; exact q : Calls Tryz.prog 14 #[v] W (tStr W (T, 0))))
  have P1 := Lib.hid (fun W (hW : Below w.heap.size w W) => by
    have q := parse_any s W (ht.later hW)
    rw [h1] at q
    exact q)
  have P2 := Lib.hid (fun W (hW : Below w.heap.size w W) => by
    have q := parse_any (bs T) W (ht.later hW)
    have e : parS (bs T).data.toList = (A, i2, 5) := h2
    rw [e] at q
    exact q)
  have TK := Lib.hid (fun W v (hW : Below w.heap.size w W) (hv : ToksAt W v L) => by
    have q := take_any (L := L) (sl := v) (w := W) ⟨ht.later hW, hv, hall.2.1, hall.1, hall.2.2⟩
    rw [h3] at q
    exact q)
  have SC := Lib.hid (fun W va vb (ha : ExAt W.heap.size W va A) (hb : ExAt W.heap.size W vb A) => (by have q := sameR_any A A _ W va vb ha hb (Nat.le_refl _) hza; rw [eqB_refl] at q; exact q : Calls Tryz.prog 12 #[va, vb] W (tBool true W)))
  have AC := Lib.hid (fun W (hW : Below w.heap.size w W) => awake_any W (ht.later hW))
  have hn0 : L.length ≤ 16384 := hall.1
  have t1 : (T.length : Int) ≤ 16384 := by omega
  have hmn : m < L.length := (List.getElem?_eq_some_iff.1 hm).1
  have HM := Lib.hid hm
  have m1 : (0 : Int) ≤ (m : Int) := by omega
  have m2 : (m : Int) < (L.length : Int) := by omega
  have m3 : ¬ (m : Int) < 0 := by omega
  clear TC0 ht hq h1 h2 h3 hT hall hza hl hm
  obtain ⟨ul, hul⟩ : ∃ x, u.line = x := ⟨_, rfl⟩
  rw [hul] at P1
  have HUL := Lib.hid hul
  clear hul
  go_enter Tryz.func6, Tryz.ntmps6
  go_wp2_with (first
    | (go_at_call 13; ((with_reducible refine TC.out.mono ?_); rintro e w2 ⟨v, rfl, hown, hb⟩; have hta := ToksAt.ofOwn hown; obtain ⟨p, cap, hv, hcap, hx⟩ := ToksAt.ofOwn hown; subst hv; obtain ⟨b9, off9, rfl, hb9, hc9⟩ := hx (by have := hmn; show 0 < L.length; omega); clear hb9 hc9; have HTA := Lib.hid hta; have JC2 := Lib.hid (JC.out _ _ hta); have HB2 := Lib.hid hb; clear hown hb hta))
    | (go_at_call 14; ((with_reducible refine JC2.out.mono ?_); rintro e w3 ⟨rfl, hb⟩; have HB3 := Lib.hid (HB2.out.then_ hb); have HT3 := Lib.hid (HTA.out.later hb); clear hb))
    | (go_at_call 11; ((with_reducible refine (P1.out _ HB3.out).mono ?_); rintro e w4 ⟨o4, n4, s4, p4, k4, c4, rfl, hb, hf⟩; have hq := hb.alloc hb.size (.cells #[.int .i64 o4, .int .i64 n4, .string s4, .slice p4 k4 c4] 24); have G4 := Lib.hid (Four.new w4 (.int .i64 o4) (.int .i64 n4) (.string s4) (.slice p4 k4 c4) 24); have F4 := Lib.hid (fr_alloc hf (.cells #[.int .i64 o4, .int .i64 n4, .string s4, .slice p4 k4 c4] 24)); have HB4 := Lib.hid (HB3.out.then_ hq); have HT4 := Lib.hid (HT3.out.later hq); clear hb hf hq))
    | (go_at_call 11; ((with_reducible refine (P2.out _ HB4.out).mono ?_); rintro e w5 ⟨o5, n5, s5, p5, k5, c5, rfl, hb, hf⟩; have hq := hb.alloc hb.size (.cells #[.int .i64 o5, .int .i64 n5, .string s5, .slice p5 k5 c5] 24); have G5 := Four.new w5 (.int .i64 o5) (.int .i64 n5) (.string s5) (.slice p5 k5 c5) 24; have F5 := Lib.hid (fr_alloc hf (.cells #[.int .i64 o5, .int .i64 n5, .string s5, .slice p5 k5 c5] 24)); have HB5 := Lib.hid (HB4.out.then_ hq); have HT5 := Lib.hid (HT4.out.later hq); have g4 := G4.out.stay hq; have HG4 := Lib.hid g4; have F45 := Lib.hid (F4.out.later hq); have a0 := g4.c0; have a1 := g4.c1; have a2 := g4.c2; have a3 := g4.c3; have b0 := G5.c0; have b1 := G5.c1; have b2 := G5.c2; have b3 := G5.c3; have SC1 := Lib.hid (SC.out _ _ _ F45.out.at_ F5.out.at_); clear hb hf hq g4 G5))
    | (go_at_call 12; ((with_reducible refine SC1.out.mono ?_); rintro e w6 ⟨rfl, hb⟩; have HB6 := Lib.hid (HB5.out.then_ hb); have HT6 := Lib.hid (HT5.out.later hb); have g4 := HG4.out.stay hb; have HG6 := Lib.hid g4; have F46 := Lib.hid (F45.out.later hb); clear a0 a1 a2 a3 b0 b1 b2 b3; have a0 := g4.c0; have a1 := g4.c1; have a2 := g4.c2; have a3 := g4.c3; have TK1 := Lib.hid (TK.out _ _ HB6.out HT6.out); clear hb g4))
    | (go_at_call 15; ((with_reducible refine TK1.out.mono ?_); rintro e w7 ⟨o7, n7, s7, p7, k7, c7, rfl, hb, hf⟩; have hq := hb.alloc hb.size (.cells #[.int .i64 o7, .int .i64 n7, .string s7, .slice p7 k7 c7] 24); have HB7 := Lib.hid (HB6.out.then_ hq); have HT7 := HT6.out.later hq; have q9 := tok_line HT7 HM.out; rw [HUL.out] at q9; clear HT7; clear hb hf hq))
    | (go_at_call 9; ((with_reducible refine (AC.out _ HB7.out).mono ?_); rintro e w9 ⟨rfl, hb⟩; have HB9 := Lib.hid (HB7.out.then_ hb); clear hb)))
  go_ret
  exact ⟨rfl, HB9.out⟩
set_option maxRecDepth 100000 in
set_option maxHeartbeats 8000000 in
theorem lay_sc (s : ByteArray) (hs : s.size ≤ 140737488351232) (w : World) (ht : TabE w) {L : List Tk} (hq : tokS s.data.toList = (L, 0, 0)) {A C : Ex} {i2 i f k : Int} {T : List UInt8} (h1 : parS s.data.toList = (A, i, f)) (hT : joinT L = T) (hTl : T.length ≤ 300000000) (h2 : parS T = (A, i2, f)) (hl : T.length ≤ 16384) (h3 : takS L = (C, k, f)) (hh : f ≠ 0) :
    Calls Tryz.prog 6 #[.string s] w fun e w' => e = .returned (.bool true) ∧ Below w.heap.size w w' := by
  have hall := tokS_all hq
  have hza : sz A ≤ 2000000 := by have := par_sz (s := s.data.toList); rw [h1] at this; exact this
  have TC0 := tokensRefAll s w hs
  rw [hq] at TC0
  have TC := Lib.hid TC0
  have JC := Lib.hid (fun W v (hv : ToksAt W v L) => (by have q := joinRef_any L v W hv hall.1 hall.2.2 (fun t h => tk_n (hall.2.1 t h)); rw [join_ok hall.2.1, hT] at q; exact q : Calls Tryz.prog 14 #[v] W (tStr W (T, 0))))
  have P1 := Lib.hid (fun W (hW : Below w.heap.size w W) => by
    have q := parse_any s W (ht.later hW)
    rw [h1] at q
    exact q)
  have P2 := Lib.hid (fun W (hW : Below w.heap.size w W) => by
    have q := parse_any (bs T) W (ht.later hW)
    have e : parS (bs T).data.toList = (A, i2, f) := h2
    rw [e] at q
    exact q)
  have TK := Lib.hid (fun W v (hW : Below w.heap.size w W) (hv : ToksAt W v L) => by
    have q := take_any (L := L) (sl := v) (w := W) ⟨ht.later hW, hv, hall.2.1, hall.1, hall.2.2⟩
    rw [h3] at q
    exact q)
  have SC := Lib.hid (fun W va vb (ha : ExAt W.heap.size W va A) (hb : ExAt W.heap.size W vb A) => (by have q := sameR_any A A _ W va vb ha hb (Nat.le_refl _) hza; rw [eqB_refl] at q; exact q : Calls Tryz.prog 12 #[va, vb] W (tBool true W)))
  have AC := Lib.hid (fun W (hW : Below w.heap.size w W) => awake_any W (ht.later hW))
  have hn0 : L.length ≤ 16384 := hall.1
  have t1 : (T.length : Int) ≤ 16384 := by omega
  have t2 : (f == 0) = false := by simpa using hh
  clear TC0 ht hq h1 h2 h3 hT hall hza hl hh
  go_enter Tryz.func6, Tryz.ntmps6
  go_wp2_with (first
    | (go_at_call 13; ((with_reducible refine TC.out.mono ?_); rintro e w2 ⟨v, rfl, hown, hb⟩; have hta := ToksAt.ofOwn hown; obtain ⟨p, cap, hv, hcap, hx⟩ := ToksAt.ofOwn hown; subst hv; have HTA := Lib.hid hta; have JC2 := Lib.hid (JC.out _ _ hta); have HB2 := Lib.hid hb; clear hx; clear hown hb hta))
    | (go_at_call 14; ((with_reducible refine JC2.out.mono ?_); rintro e w3 ⟨rfl, hb⟩; have HB3 := Lib.hid (HB2.out.then_ hb); have HT3 := Lib.hid (HTA.out.later hb); clear hb))
    | (go_at_call 11; ((with_reducible refine (P1.out _ HB3.out).mono ?_); rintro e w4 ⟨o4, n4, s4, p4, k4, c4, rfl, hb, hf⟩; have hq := hb.alloc hb.size (.cells #[.int .i64 o4, .int .i64 n4, .string s4, .slice p4 k4 c4] 24); have G4 := Lib.hid (Four.new w4 (.int .i64 o4) (.int .i64 n4) (.string s4) (.slice p4 k4 c4) 24); have F4 := Lib.hid (fr_alloc hf (.cells #[.int .i64 o4, .int .i64 n4, .string s4, .slice p4 k4 c4] 24)); have HB4 := Lib.hid (HB3.out.then_ hq); have HT4 := Lib.hid (HT3.out.later hq); clear hb hf hq))
    | (go_at_call 11; ((with_reducible refine (P2.out _ HB4.out).mono ?_); rintro e w5 ⟨o5, n5, s5, p5, k5, c5, rfl, hb, hf⟩; have hq := hb.alloc hb.size (.cells #[.int .i64 o5, .int .i64 n5, .string s5, .slice p5 k5 c5] 24); have G5 := Four.new w5 (.int .i64 o5) (.int .i64 n5) (.string s5) (.slice p5 k5 c5) 24; have F5 := Lib.hid (fr_alloc hf (.cells #[.int .i64 o5, .int .i64 n5, .string s5, .slice p5 k5 c5] 24)); have HB5 := Lib.hid (HB4.out.then_ hq); have HT5 := Lib.hid (HT4.out.later hq); have g4 := G4.out.stay hq; have HG4 := Lib.hid g4; have F45 := Lib.hid (F4.out.later hq); have a0 := g4.c0; have a1 := g4.c1; have a2 := g4.c2; have a3 := g4.c3; have b0 := G5.c0; have b1 := G5.c1; have b2 := G5.c2; have b3 := G5.c3; have SC1 := Lib.hid (SC.out _ _ _ F45.out.at_ F5.out.at_); clear hb hf hq g4 G5))
    | (go_at_call 12; ((with_reducible refine SC1.out.mono ?_); rintro e w6 ⟨rfl, hb⟩; have HB6 := Lib.hid (HB5.out.then_ hb); have HT6 := Lib.hid (HT5.out.later hb); have g4 := HG4.out.stay hb; have HG6 := Lib.hid g4; have F46 := Lib.hid (F45.out.later hb); clear a0 a1 a2 a3 b0 b1 b2 b3; have a0 := g4.c0; have a1 := g4.c1; have a2 := g4.c2; have a3 := g4.c3; have TK1 := Lib.hid (TK.out _ _ HB6.out HT6.out); clear hb g4))
    | (go_at_call 15; ((with_reducible refine TK1.out.mono ?_); rintro e w7 ⟨o7, n7, s7, p7, k7, c7, rfl, hb, hf⟩; have hq := hb.alloc hb.size (.cells #[.int .i64 o7, .int .i64 n7, .string s7, .slice p7 k7 c7] 24); have HB7 := Lib.hid (HB6.out.then_ hq); clear hb hf hq))
    | (go_at_call 9; ((with_reducible refine (AC.out _ HB7.out).mono ?_); rintro e w9 ⟨rfl, hb⟩; have HB9 := Lib.hid (HB7.out.then_ hb); clear hb)))
  go_ret
  exact ⟨rfl, HB9.out⟩
set_option maxRecDepth 100000 in
set_option maxHeartbeats 8000000 in
theorem lay_sd (s : ByteArray) (hs : s.size ≤ 140737488351232) (w : World) (ht : TabE w) {L : List Tk} (hq : tokS s.data.toList = (L, 0, 0)) {A C : Ex} {i2 i k h : Int} {T : List UInt8} (h1 : parS s.data.toList = (A, i, 5)) (hT : joinT L = T) (hTl : T.length ≤ 300000000) (h2 : parS T = (A, i2, 5)) (hl : T.length ≤ 16384) (h3 : takS L = (C, k, h)) (hh : h ≠ 0) (he : h ≠ 5) :
    Calls Tryz.prog 6 #[.string s] w fun e w' => e = .returned (.bool true) ∧ Below w.heap.size w w' := by
  have hall := tokS_all hq
  have hza : sz A ≤ 2000000 := by have := par_sz (s := s.data.toList); rw [h1] at this; exact this
  have TC0 := tokensRefAll s w hs
  rw [hq] at TC0
  have TC := Lib.hid TC0
  have JC := Lib.hid (fun W v (hv : ToksAt W v L) => (by have q := joinRef_any L v W hv hall.1 hall.2.2 (fun t h => tk_n (hall.2.1 t h)); rw [join_ok hall.2.1, hT] at q; exact q : Calls Tryz.prog 14 #[v] W (tStr W (T, 0))))
  have P1 := Lib.hid (fun W (hW : Below w.heap.size w W) => by
    have q := parse_any s W (ht.later hW)
    rw [h1] at q
    exact q)
  have P2 := Lib.hid (fun W (hW : Below w.heap.size w W) => by
    have q := parse_any (bs T) W (ht.later hW)
    have e : parS (bs T).data.toList = (A, i2, 5) := h2
    rw [e] at q
    exact q)
  have TK := Lib.hid (fun W v (hW : Below w.heap.size w W) (hv : ToksAt W v L) => by
    have q := take_any (L := L) (sl := v) (w := W) ⟨ht.later hW, hv, hall.2.1, hall.1, hall.2.2⟩
    rw [h3] at q
    exact q)
  have SC := Lib.hid (fun W va vb (ha : ExAt W.heap.size W va A) (hb : ExAt W.heap.size W vb A) => (by have q := sameR_any A A _ W va vb ha hb (Nat.le_refl _) hza; rw [eqB_refl] at q; exact q : Calls Tryz.prog 12 #[va, vb] W (tBool true W)))
  have AC := Lib.hid (fun W (hW : Below w.heap.size w W) => awake_any W (ht.later hW))
  have hn0 : L.length ≤ 16384 := hall.1
  have t1 : (T.length : Int) ≤ 16384 := by omega
  have t2 : (h == 0) = false := by simpa using hh
  have t3 : (h == 5) = false := by simpa using he
  clear TC0 ht hq h1 h2 h3 hT hall hza hl hh he
  go_enter Tryz.func6, Tryz.ntmps6
  go_wp2_with (first
    | (go_at_call 13; ((with_reducible refine TC.out.mono ?_); rintro e w2 ⟨v, rfl, hown, hb⟩; have hta := ToksAt.ofOwn hown; obtain ⟨p, cap, hv, hcap, hx⟩ := ToksAt.ofOwn hown; subst hv; have HTA := Lib.hid hta; have JC2 := Lib.hid (JC.out _ _ hta); have HB2 := Lib.hid hb; clear hx; clear hown hb hta))
    | (go_at_call 14; ((with_reducible refine JC2.out.mono ?_); rintro e w3 ⟨rfl, hb⟩; have HB3 := Lib.hid (HB2.out.then_ hb); have HT3 := Lib.hid (HTA.out.later hb); clear hb))
    | (go_at_call 11; ((with_reducible refine (P1.out _ HB3.out).mono ?_); rintro e w4 ⟨o4, n4, s4, p4, k4, c4, rfl, hb, hf⟩; have hq := hb.alloc hb.size (.cells #[.int .i64 o4, .int .i64 n4, .string s4, .slice p4 k4 c4] 24); have G4 := Lib.hid (Four.new w4 (.int .i64 o4) (.int .i64 n4) (.string s4) (.slice p4 k4 c4) 24); have F4 := Lib.hid (fr_alloc hf (.cells #[.int .i64 o4, .int .i64 n4, .string s4, .slice p4 k4 c4] 24)); have HB4 := Lib.hid (HB3.out.then_ hq); have HT4 := Lib.hid (HT3.out.later hq); clear hb hf hq))
    | (go_at_call 11; ((with_reducible refine (P2.out _ HB4.out).mono ?_); rintro e w5 ⟨o5, n5, s5, p5, k5, c5, rfl, hb, hf⟩; have hq := hb.alloc hb.size (.cells #[.int .i64 o5, .int .i64 n5, .string s5, .slice p5 k5 c5] 24); have G5 := Four.new w5 (.int .i64 o5) (.int .i64 n5) (.string s5) (.slice p5 k5 c5) 24; have F5 := Lib.hid (fr_alloc hf (.cells #[.int .i64 o5, .int .i64 n5, .string s5, .slice p5 k5 c5] 24)); have HB5 := Lib.hid (HB4.out.then_ hq); have HT5 := Lib.hid (HT4.out.later hq); have g4 := G4.out.stay hq; have HG4 := Lib.hid g4; have F45 := Lib.hid (F4.out.later hq); have a0 := g4.c0; have a1 := g4.c1; have a2 := g4.c2; have a3 := g4.c3; have b0 := G5.c0; have b1 := G5.c1; have b2 := G5.c2; have b3 := G5.c3; have SC1 := Lib.hid (SC.out _ _ _ F45.out.at_ F5.out.at_); clear hb hf hq g4 G5))
    | (go_at_call 12; ((with_reducible refine SC1.out.mono ?_); rintro e w6 ⟨rfl, hb⟩; have HB6 := Lib.hid (HB5.out.then_ hb); have HT6 := Lib.hid (HT5.out.later hb); have g4 := HG4.out.stay hb; have HG6 := Lib.hid g4; have F46 := Lib.hid (F45.out.later hb); clear a0 a1 a2 a3 b0 b1 b2 b3; have a0 := g4.c0; have a1 := g4.c1; have a2 := g4.c2; have a3 := g4.c3; have TK1 := Lib.hid (TK.out _ _ HB6.out HT6.out); clear hb g4))
    | (go_at_call 15; ((with_reducible refine TK1.out.mono ?_); rintro e w7 ⟨o7, n7, s7, p7, k7, c7, rfl, hb, hf⟩; have hq := hb.alloc hb.size (.cells #[.int .i64 o7, .int .i64 n7, .string s7, .slice p7 k7 c7] 24); have HB7 := Lib.hid (HB6.out.then_ hq); clear hb hf hq))
    | (go_at_call 9; ((with_reducible refine (AC.out _ HB7.out).mono ?_); rintro e w9 ⟨rfl, hb⟩; have HB9 := Lib.hid (HB7.out.then_ hb); clear hb)))
  go_ret
  exact ⟨rfl, HB9.out⟩
set_option maxRecDepth 100000 in
set_option maxHeartbeats 8000000 in
theorem lay_la (s : ByteArray) (hs : s.size ≤ 140737488351232) (w : World) (ht : TabE w) {L : List Tk} (hq : tokS s.data.toList = (L, 0, 0)) {A B : Ex} {i2 i g : Int} {T : List UInt8} (h1 : parS s.data.toList = (A, i, 0)) (hT : joinT L = T) (hTl : T.length ≤ 300000000) (h2 : parS T = (B, i2, g)) (hl : ¬ T.length ≤ 16384) (h3 : takS L = (A, (L.length : Int), 0))  :
    Calls Tryz.prog 6 #[.string s] w fun e w' => e = .returned (.bool true) ∧ Below w.heap.size w w' := by
  have hall := tokS_all hq
  have hza : sz A ≤ 2000000 := by have := par_sz (s := s.data.toList); rw [h1] at this; exact this
  have TC0 := tokensRefAll s w hs
  rw [hq] at TC0
  have TC := Lib.hid TC0
  have JC := Lib.hid (fun W v (hv : ToksAt W v L) => (by have q := joinRef_any L v W hv hall.1 hall.2.2 (fun t h => tk_n (hall.2.1 t h)); rw [join_ok hall.2.1, hT] at q; exact q : Calls Tryz.prog 14 #[v] W (tStr W (T, 0))))
  have P1 := Lib.hid (fun W (hW : Below w.heap.size w W) => by
    have q := parse_any s W (ht.later hW)
    rw [h1] at q
    exact q)
  have P2 := Lib.hid (fun W (hW : Below w.heap.size w W) => by
    have q := parse_any (bs T) W (ht.later hW)
    have e : parS (bs T).data.toList = (B, i2, g) := h2
    rw [e] at q
    exact q)
  have TK := Lib.hid (fun W v (hW : Below w.heap.size w W) (hv : ToksAt W v L) => by
    have q := take_any (L := L) (sl := v) (w := W) ⟨ht.later hW, hv, hall.2.1, hall.1, hall.2.2⟩
    rw [h3] at q
    exact q)
  have SC := Lib.hid (fun W va vb (ha : ExAt W.heap.size W va A) (hb : ExAt W.heap.size W vb A) => (by have q := sameR_any A A _ W va vb ha hb (Nat.le_refl _) hza; rw [eqB_refl] at q; exact q : Calls Tryz.prog 12 #[va, vb] W (tBool true W)))
  have AC := Lib.hid (fun W (hW : Below w.heap.size w W) => awake_any W (ht.later hW))
  have hn0 : L.length ≤ 16384 := hall.1
  have t1 : ¬ (T.length : Int) ≤ 16384 := by omega
  have t1' : (16384 : Int) < (T.length : Int) := by omega
  clear TC0 ht hq h1 h2 h3 hT hall hza hl
  go_enter Tryz.func6, Tryz.ntmps6
  go_wp2_with (first
    | (go_at_call 13; ((with_reducible refine TC.out.mono ?_); rintro e w2 ⟨v, rfl, hown, hb⟩; have hta := ToksAt.ofOwn hown; obtain ⟨p, cap, hv, hcap, hx⟩ := ToksAt.ofOwn hown; subst hv; have HTA := Lib.hid hta; have JC2 := Lib.hid (JC.out _ _ hta); have HB2 := Lib.hid hb; clear hx; clear hown hb hta))
    | (go_at_call 14; ((with_reducible refine JC2.out.mono ?_); rintro e w3 ⟨rfl, hb⟩; have HB3 := Lib.hid (HB2.out.then_ hb); have HT3 := Lib.hid (HTA.out.later hb); clear hb))
    | (go_at_call 11; ((with_reducible refine (P1.out _ HB3.out).mono ?_); rintro e w4 ⟨o4, n4, s4, p4, k4, c4, rfl, hb, hf⟩; have hq := hb.alloc hb.size (.cells #[.int .i64 o4, .int .i64 n4, .string s4, .slice p4 k4 c4] 24); have G4 := Lib.hid (Four.new w4 (.int .i64 o4) (.int .i64 n4) (.string s4) (.slice p4 k4 c4) 24); have F4 := Lib.hid (fr_alloc hf (.cells #[.int .i64 o4, .int .i64 n4, .string s4, .slice p4 k4 c4] 24)); have HB4 := Lib.hid (HB3.out.then_ hq); have HT4 := Lib.hid (HT3.out.later hq); clear hb hf hq))
    | (go_at_call 11; ((with_reducible refine (P2.out _ HB4.out).mono ?_); rintro e w5 ⟨o5, n5, s5, p5, k5, c5, rfl, hb, hf⟩; have hq := hb.alloc hb.size (.cells #[.int .i64 o5, .int .i64 n5, .string s5, .slice p5 k5 c5] 24); have G5 := Four.new w5 (.int .i64 o5) (.int .i64 n5) (.string s5) (.slice p5 k5 c5) 24; have F5 := Lib.hid (fr_alloc hf (.cells #[.int .i64 o5, .int .i64 n5, .string s5, .slice p5 k5 c5] 24)); have HB5 := Lib.hid (HB4.out.then_ hq); have HT5 := Lib.hid (HT4.out.later hq); have g4 := G4.out.stay hq; have HG4 := Lib.hid g4; have F45 := Lib.hid (F4.out.later hq); have a0 := g4.c0; have a1 := g4.c1; have a2 := g4.c2; have a3 := g4.c3; have b0 := G5.c0; have b1 := G5.c1; have b2 := G5.c2; have b3 := G5.c3; have TK1 := Lib.hid (TK.out _ _ HB5.out HT5.out); clear hb hf hq g4 G5))
    | (go_at_call 15; ((with_reducible refine TK1.out.mono ?_); rintro e w7 ⟨o7, n7, s7, p7, k7, c7, rfl, hb, hf⟩; have hq := hb.alloc hb.size (.cells #[.int .i64 o7, .int .i64 n7, .string s7, .slice p7 k7 c7] 24); have HB7 := Lib.hid (HB5.out.then_ hq); have g4 := HG4.out.stay hq; have G7 := Four.new w7 (.int .i64 o7) (.int .i64 n7) (.string s7) (.slice p7 k7 c7) 24; have F7 := Lib.hid (fr_alloc hf (.cells #[.int .i64 o7, .int .i64 n7, .string s7, .slice p7 k7 c7] 24)); have F47 := Lib.hid (F45.out.later hq); have SC2 := Lib.hid (SC.out _ _ _ F7.out.at_ F47.out.at_); clear a0 a1 a2 a3; have a0 := g4.c0; have a1 := g4.c1; have a2 := g4.c2; have a3 := g4.c3; have d0 := G7.c0; have d1 := G7.c1; have d2 := G7.c2; have d3 := G7.c3; clear g4 G7; clear hb hf hq))
    | (go_at_call 12; ((with_reducible refine SC2.out.mono ?_); rintro e w8 ⟨rfl, hb⟩; have HB8 := Lib.hid (HB7.out.then_ hb); clear hb))
    | (go_at_call 9; ((with_reducible refine (AC.out _ HB8.out).mono ?_); rintro e w9 ⟨rfl, hb⟩; have HB9 := Lib.hid (HB8.out.then_ hb); clear hb)))
  go_ret
  exact ⟨rfl, HB9.out⟩
set_option maxRecDepth 100000 in
set_option maxHeartbeats 8000000 in
theorem lay_lb (s : ByteArray) (hs : s.size ≤ 140737488351232) (w : World) (ht : TabE w) {L : List Tk} (hq : tokS s.data.toList = (L, 0, 0)) {A B C : Ex} {i2 g : Int} {m : Nat} {u : Tk} {T : List UInt8} (h1 : parS s.data.toList = (A, u.line, 5)) (hT : joinT L = T) (hTl : T.length ≤ 300000000) (h2 : parS T = (B, i2, g)) (hl : ¬ T.length ≤ 16384) (h3 : takS L = (C, (m : Int), 0)) (hm : L[m]? = some u) :
    Calls Tryz.prog 6 #[.string s] w fun e w' => e = .returned (.bool true) ∧ Below w.heap.size w w' := by
  have hall := tokS_all hq
  have hza : sz A ≤ 2000000 := by have := par_sz (s := s.data.toList); rw [h1] at this; exact this
  have TC0 := tokensRefAll s w hs
  rw [hq] at TC0
  have TC := Lib.hid TC0
  have JC := Lib.hid (fun W v (hv : ToksAt W v L) => (by have q := joinRef_any L v W hv hall.1 hall.2.2 (fun t h => tk_n (hall.2.1 t h)); rw [join_ok hall.2.1, hT] at q; exact q : Calls Tryz.prog 14 #[v] W (tStr W (T, 0))))
  have P1 := Lib.hid (fun W (hW : Below w.heap.size w W) => by
    have q := parse_any s W (ht.later hW)
    rw [h1] at q
    exact q)
  have P2 := Lib.hid (fun W (hW : Below w.heap.size w W) => by
    have q := parse_any (bs T) W (ht.later hW)
    have e : parS (bs T).data.toList = (B, i2, g) := h2
    rw [e] at q
    exact q)
  have TK := Lib.hid (fun W v (hW : Below w.heap.size w W) (hv : ToksAt W v L) => by
    have q := take_any (L := L) (sl := v) (w := W) ⟨ht.later hW, hv, hall.2.1, hall.1, hall.2.2⟩
    rw [h3] at q
    exact q)
  have SC := Lib.hid (fun W va vb (ha : ExAt W.heap.size W va A) (hb : ExAt W.heap.size W vb A) => (by have q := sameR_any A A _ W va vb ha hb (Nat.le_refl _) hza; rw [eqB_refl] at q; exact q : Calls Tryz.prog 12 #[va, vb] W (tBool true W)))
  have AC := Lib.hid (fun W (hW : Below w.heap.size w W) => awake_any W (ht.later hW))
  have hn0 : L.length ≤ 16384 := hall.1
  have t1 : ¬ (T.length : Int) ≤ 16384 := by omega
  have t1' : (16384 : Int) < (T.length : Int) := by omega
  have hmn : m < L.length := (List.getElem?_eq_some_iff.1 hm).1
  have HM := Lib.hid hm
  have m1 : (0 : Int) ≤ (m : Int) := by omega
  have m2 : (m : Int) < (L.length : Int) := by omega
  have m3 : ¬ (m : Int) < 0 := by omega
  clear TC0 ht hq h1 h2 h3 hT hall hza hl hm
  obtain ⟨ul, hul⟩ : ∃ x, u.line = x := ⟨_, rfl⟩
  rw [hul] at P1
  have HUL := Lib.hid hul
  clear hul
  go_enter Tryz.func6, Tryz.ntmps6
  go_wp2_with (first
    | (go_at_call 13; ((with_reducible refine TC.out.mono ?_); rintro e w2 ⟨v, rfl, hown, hb⟩; have hta := ToksAt.ofOwn hown; obtain ⟨p, cap, hv, hcap, hx⟩ := ToksAt.ofOwn hown; subst hv; obtain ⟨b9, off9, rfl, hb9, hc9⟩ := hx (by have := hmn; show 0 < L.length; omega); clear hb9 hc9; have HTA := Lib.hid hta; have JC2 := Lib.hid (JC.out _ _ hta); have HB2 := Lib.hid hb; clear hown hb hta))
    | (go_at_call 14; ((with_reducible refine JC2.out.mono ?_); rintro e w3 ⟨rfl, hb⟩; have HB3 := Lib.hid (HB2.out.then_ hb); have HT3 := Lib.hid (HTA.out.later hb); clear hb))
    | (go_at_call 11; ((with_reducible refine (P1.out _ HB3.out).mono ?_); rintro e w4 ⟨o4, n4, s4, p4, k4, c4, rfl, hb, hf⟩; have hq := hb.alloc hb.size (.cells #[.int .i64 o4, .int .i64 n4, .string s4, .slice p4 k4 c4] 24); have G4 := Lib.hid (Four.new w4 (.int .i64 o4) (.int .i64 n4) (.string s4) (.slice p4 k4 c4) 24); have F4 := Lib.hid (fr_alloc hf (.cells #[.int .i64 o4, .int .i64 n4, .string s4, .slice p4 k4 c4] 24)); have HB4 := Lib.hid (HB3.out.then_ hq); have HT4 := Lib.hid (HT3.out.later hq); clear hb hf hq))
    | (go_at_call 11; ((with_reducible refine (P2.out _ HB4.out).mono ?_); rintro e w5 ⟨o5, n5, s5, p5, k5, c5, rfl, hb, hf⟩; have hq := hb.alloc hb.size (.cells #[.int .i64 o5, .int .i64 n5, .string s5, .slice p5 k5 c5] 24); have G5 := Four.new w5 (.int .i64 o5) (.int .i64 n5) (.string s5) (.slice p5 k5 c5) 24; have F5 := Lib.hid (fr_alloc hf (.cells #[.int .i64 o5, .int .i64 n5, .string s5, .slice p5 k5 c5] 24)); have HB5 := Lib.hid (HB4.out.then_ hq); have HT5 := Lib.hid (HT4.out.later hq); have g4 := G4.out.stay hq; have HG4 := Lib.hid g4; have F45 := Lib.hid (F4.out.later hq); have a0 := g4.c0; have a1 := g4.c1; have a2 := g4.c2; have a3 := g4.c3; have b0 := G5.c0; have b1 := G5.c1; have b2 := G5.c2; have b3 := G5.c3; have TK1 := Lib.hid (TK.out _ _ HB5.out HT5.out); clear hb hf hq g4 G5))
    | (go_at_call 15; ((with_reducible refine TK1.out.mono ?_); rintro e w7 ⟨o7, n7, s7, p7, k7, c7, rfl, hb, hf⟩; have hq := hb.alloc hb.size (.cells #[.int .i64 o7, .int .i64 n7, .string s7, .slice p7 k7 c7] 24); have HB7 := Lib.hid (HB5.out.then_ hq); have HT7 := HT5.out.later hq; have q9 := tok_line HT7 HM.out; rw [HUL.out] at q9; clear HT7; clear hb hf hq))
    | (go_at_call 9; ((with_reducible refine (AC.out _ HB7.out).mono ?_); rintro e w9 ⟨rfl, hb⟩; have HB9 := Lib.hid (HB7.out.then_ hb); clear hb)))
  go_ret
  exact ⟨rfl, HB9.out⟩
set_option maxRecDepth 100000 in
set_option maxHeartbeats 8000000 in
theorem lay_lc (s : ByteArray) (hs : s.size ≤ 140737488351232) (w : World) (ht : TabE w) {L : List Tk} (hq : tokS s.data.toList = (L, 0, 0)) {A B C : Ex} {i2 i g f k : Int} {T : List UInt8} (h1 : parS s.data.toList = (A, i, f)) (hT : joinT L = T) (hTl : T.length ≤ 300000000) (h2 : parS T = (B, i2, g)) (hl : ¬ T.length ≤ 16384) (h3 : takS L = (C, k, f)) (hh : f ≠ 0) :
    Calls Tryz.prog 6 #[.string s] w fun e w' => e = .returned (.bool true) ∧ Below w.heap.size w w' := by
  have hall := tokS_all hq
  have hza : sz A ≤ 2000000 := by have := par_sz (s := s.data.toList); rw [h1] at this; exact this
  have TC0 := tokensRefAll s w hs
  rw [hq] at TC0
  have TC := Lib.hid TC0
  have JC := Lib.hid (fun W v (hv : ToksAt W v L) => (by have q := joinRef_any L v W hv hall.1 hall.2.2 (fun t h => tk_n (hall.2.1 t h)); rw [join_ok hall.2.1, hT] at q; exact q : Calls Tryz.prog 14 #[v] W (tStr W (T, 0))))
  have P1 := Lib.hid (fun W (hW : Below w.heap.size w W) => by
    have q := parse_any s W (ht.later hW)
    rw [h1] at q
    exact q)
  have P2 := Lib.hid (fun W (hW : Below w.heap.size w W) => by
    have q := parse_any (bs T) W (ht.later hW)
    have e : parS (bs T).data.toList = (B, i2, g) := h2
    rw [e] at q
    exact q)
  have TK := Lib.hid (fun W v (hW : Below w.heap.size w W) (hv : ToksAt W v L) => by
    have q := take_any (L := L) (sl := v) (w := W) ⟨ht.later hW, hv, hall.2.1, hall.1, hall.2.2⟩
    rw [h3] at q
    exact q)
  have SC := Lib.hid (fun W va vb (ha : ExAt W.heap.size W va A) (hb : ExAt W.heap.size W vb A) => (by have q := sameR_any A A _ W va vb ha hb (Nat.le_refl _) hza; rw [eqB_refl] at q; exact q : Calls Tryz.prog 12 #[va, vb] W (tBool true W)))
  have AC := Lib.hid (fun W (hW : Below w.heap.size w W) => awake_any W (ht.later hW))
  have hn0 : L.length ≤ 16384 := hall.1
  have t1 : ¬ (T.length : Int) ≤ 16384 := by omega
  have t1' : (16384 : Int) < (T.length : Int) := by omega
  have t2 : (f == 0) = false := by simpa using hh
  clear TC0 ht hq h1 h2 h3 hT hall hza hl hh
  go_enter Tryz.func6, Tryz.ntmps6
  go_wp2_with (first
    | (go_at_call 13; ((with_reducible refine TC.out.mono ?_); rintro e w2 ⟨v, rfl, hown, hb⟩; have hta := ToksAt.ofOwn hown; obtain ⟨p, cap, hv, hcap, hx⟩ := ToksAt.ofOwn hown; subst hv; have HTA := Lib.hid hta; have JC2 := Lib.hid (JC.out _ _ hta); have HB2 := Lib.hid hb; clear hx; clear hown hb hta))
    | (go_at_call 14; ((with_reducible refine JC2.out.mono ?_); rintro e w3 ⟨rfl, hb⟩; have HB3 := Lib.hid (HB2.out.then_ hb); have HT3 := Lib.hid (HTA.out.later hb); clear hb))
    | (go_at_call 11; ((with_reducible refine (P1.out _ HB3.out).mono ?_); rintro e w4 ⟨o4, n4, s4, p4, k4, c4, rfl, hb, hf⟩; have hq := hb.alloc hb.size (.cells #[.int .i64 o4, .int .i64 n4, .string s4, .slice p4 k4 c4] 24); have G4 := Lib.hid (Four.new w4 (.int .i64 o4) (.int .i64 n4) (.string s4) (.slice p4 k4 c4) 24); have F4 := Lib.hid (fr_alloc hf (.cells #[.int .i64 o4, .int .i64 n4, .string s4, .slice p4 k4 c4] 24)); have HB4 := Lib.hid (HB3.out.then_ hq); have HT4 := Lib.hid (HT3.out.later hq); clear hb hf hq))
    | (go_at_call 11; ((with_reducible refine (P2.out _ HB4.out).mono ?_); rintro e w5 ⟨o5, n5, s5, p5, k5, c5, rfl, hb, hf⟩; have hq := hb.alloc hb.size (.cells #[.int .i64 o5, .int .i64 n5, .string s5, .slice p5 k5 c5] 24); have G5 := Four.new w5 (.int .i64 o5) (.int .i64 n5) (.string s5) (.slice p5 k5 c5) 24; have F5 := Lib.hid (fr_alloc hf (.cells #[.int .i64 o5, .int .i64 n5, .string s5, .slice p5 k5 c5] 24)); have HB5 := Lib.hid (HB4.out.then_ hq); have HT5 := Lib.hid (HT4.out.later hq); have g4 := G4.out.stay hq; have HG4 := Lib.hid g4; have F45 := Lib.hid (F4.out.later hq); have a0 := g4.c0; have a1 := g4.c1; have a2 := g4.c2; have a3 := g4.c3; have b0 := G5.c0; have b1 := G5.c1; have b2 := G5.c2; have b3 := G5.c3; have TK1 := Lib.hid (TK.out _ _ HB5.out HT5.out); clear hb hf hq g4 G5))
    | (go_at_call 15; ((with_reducible refine TK1.out.mono ?_); rintro e w7 ⟨o7, n7, s7, p7, k7, c7, rfl, hb, hf⟩; have hq := hb.alloc hb.size (.cells #[.int .i64 o7, .int .i64 n7, .string s7, .slice p7 k7 c7] 24); have HB7 := Lib.hid (HB5.out.then_ hq); clear hb hf hq))
    | (go_at_call 9; ((with_reducible refine (AC.out _ HB7.out).mono ?_); rintro e w9 ⟨rfl, hb⟩; have HB9 := Lib.hid (HB7.out.then_ hb); clear hb)))
  go_ret
  exact ⟨rfl, HB9.out⟩
set_option maxRecDepth 100000 in
set_option maxHeartbeats 8000000 in
theorem lay_ld (s : ByteArray) (hs : s.size ≤ 140737488351232) (w : World) (ht : TabE w) {L : List Tk} (hq : tokS s.data.toList = (L, 0, 0)) {A B C : Ex} {i2 i g k h : Int} {T : List UInt8} (h1 : parS s.data.toList = (A, i, 5)) (hT : joinT L = T) (hTl : T.length ≤ 300000000) (h2 : parS T = (B, i2, g)) (hl : ¬ T.length ≤ 16384) (h3 : takS L = (C, k, h)) (hh : h ≠ 0) (he : h ≠ 5) :
    Calls Tryz.prog 6 #[.string s] w fun e w' => e = .returned (.bool true) ∧ Below w.heap.size w w' := by
  have hall := tokS_all hq
  have hza : sz A ≤ 2000000 := by have := par_sz (s := s.data.toList); rw [h1] at this; exact this
  have TC0 := tokensRefAll s w hs
  rw [hq] at TC0
  have TC := Lib.hid TC0
  have JC := Lib.hid (fun W v (hv : ToksAt W v L) => (by have q := joinRef_any L v W hv hall.1 hall.2.2 (fun t h => tk_n (hall.2.1 t h)); rw [join_ok hall.2.1, hT] at q; exact q : Calls Tryz.prog 14 #[v] W (tStr W (T, 0))))
  have P1 := Lib.hid (fun W (hW : Below w.heap.size w W) => by
    have q := parse_any s W (ht.later hW)
    rw [h1] at q
    exact q)
  have P2 := Lib.hid (fun W (hW : Below w.heap.size w W) => by
    have q := parse_any (bs T) W (ht.later hW)
    have e : parS (bs T).data.toList = (B, i2, g) := h2
    rw [e] at q
    exact q)
  have TK := Lib.hid (fun W v (hW : Below w.heap.size w W) (hv : ToksAt W v L) => by
    have q := take_any (L := L) (sl := v) (w := W) ⟨ht.later hW, hv, hall.2.1, hall.1, hall.2.2⟩
    rw [h3] at q
    exact q)
  have SC := Lib.hid (fun W va vb (ha : ExAt W.heap.size W va A) (hb : ExAt W.heap.size W vb A) => (by have q := sameR_any A A _ W va vb ha hb (Nat.le_refl _) hza; rw [eqB_refl] at q; exact q : Calls Tryz.prog 12 #[va, vb] W (tBool true W)))
  have AC := Lib.hid (fun W (hW : Below w.heap.size w W) => awake_any W (ht.later hW))
  have hn0 : L.length ≤ 16384 := hall.1
  have t1 : ¬ (T.length : Int) ≤ 16384 := by omega
  have t1' : (16384 : Int) < (T.length : Int) := by omega
  have t2 : (h == 0) = false := by simpa using hh
  have t3 : (h == 5) = false := by simpa using he
  clear TC0 ht hq h1 h2 h3 hT hall hza hl hh he
  go_enter Tryz.func6, Tryz.ntmps6
  go_wp2_with (first
    | (go_at_call 13; ((with_reducible refine TC.out.mono ?_); rintro e w2 ⟨v, rfl, hown, hb⟩; have hta := ToksAt.ofOwn hown; obtain ⟨p, cap, hv, hcap, hx⟩ := ToksAt.ofOwn hown; subst hv; have HTA := Lib.hid hta; have JC2 := Lib.hid (JC.out _ _ hta); have HB2 := Lib.hid hb; clear hx; clear hown hb hta))
    | (go_at_call 14; ((with_reducible refine JC2.out.mono ?_); rintro e w3 ⟨rfl, hb⟩; have HB3 := Lib.hid (HB2.out.then_ hb); have HT3 := Lib.hid (HTA.out.later hb); clear hb))
    | (go_at_call 11; ((with_reducible refine (P1.out _ HB3.out).mono ?_); rintro e w4 ⟨o4, n4, s4, p4, k4, c4, rfl, hb, hf⟩; have hq := hb.alloc hb.size (.cells #[.int .i64 o4, .int .i64 n4, .string s4, .slice p4 k4 c4] 24); have G4 := Lib.hid (Four.new w4 (.int .i64 o4) (.int .i64 n4) (.string s4) (.slice p4 k4 c4) 24); have F4 := Lib.hid (fr_alloc hf (.cells #[.int .i64 o4, .int .i64 n4, .string s4, .slice p4 k4 c4] 24)); have HB4 := Lib.hid (HB3.out.then_ hq); have HT4 := Lib.hid (HT3.out.later hq); clear hb hf hq))
    | (go_at_call 11; ((with_reducible refine (P2.out _ HB4.out).mono ?_); rintro e w5 ⟨o5, n5, s5, p5, k5, c5, rfl, hb, hf⟩; have hq := hb.alloc hb.size (.cells #[.int .i64 o5, .int .i64 n5, .string s5, .slice p5 k5 c5] 24); have G5 := Four.new w5 (.int .i64 o5) (.int .i64 n5) (.string s5) (.slice p5 k5 c5) 24; have F5 := Lib.hid (fr_alloc hf (.cells #[.int .i64 o5, .int .i64 n5, .string s5, .slice p5 k5 c5] 24)); have HB5 := Lib.hid (HB4.out.then_ hq); have HT5 := Lib.hid (HT4.out.later hq); have g4 := G4.out.stay hq; have HG4 := Lib.hid g4; have F45 := Lib.hid (F4.out.later hq); have a0 := g4.c0; have a1 := g4.c1; have a2 := g4.c2; have a3 := g4.c3; have b0 := G5.c0; have b1 := G5.c1; have b2 := G5.c2; have b3 := G5.c3; have TK1 := Lib.hid (TK.out _ _ HB5.out HT5.out); clear hb hf hq g4 G5))
    | (go_at_call 15; ((with_reducible refine TK1.out.mono ?_); rintro e w7 ⟨o7, n7, s7, p7, k7, c7, rfl, hb, hf⟩; have hq := hb.alloc hb.size (.cells #[.int .i64 o7, .int .i64 n7, .string s7, .slice p7 k7 c7] 24); have HB7 := Lib.hid (HB5.out.then_ hq); clear hb hf hq))
    | (go_at_call 9; ((with_reducible refine (AC.out _ HB7.out).mono ?_); rintro e w9 ⟨rfl, hb⟩; have HB9 := Lib.hid (HB7.out.then_ hb); clear hb)))
  go_ret
  exact ⟨rfl, HB9.out⟩
theorem layout_any (s : ByteArray) (hs : s.size ≤ 140737488351232) (w : World) (ht : TabE w) : Calls Tryz.prog 6 #[.string s] w fun e w' => e = .returned (.bool true) ∧ Below w.heap.size w w' := by
  rcases hq : tokS s.data.toList with ⟨L, ln, er⟩
  by_cases he : er ≠ 0
  · exact lay_err s hs w ht hq he
  · simp only [ne_eq, Decidable.not_not] at he
    subst he
    obtain rfl : ln = 0 := by have := (tokS_ok s.data.toList (by rw [hq])).2.2; rw [hq] at this; exact this
    rcases h1 : parS s.data.toList with ⟨A, i, f⟩
    rcases h2 : parS (joinT L) with ⟨B, i2, g⟩
    rcases h3 : takS L with ⟨C, k, h⟩
    have hTl : (joinT L).length ≤ 300000000 := by
      have a := joinT_len 16384 L (tokS_all hq).2.2
      have b := (tokS_all hq).1
      omega
    by_cases hl : (joinT L).length ≤ 16384
    · have hj := par_join hq hl
      rw [h1, h2] at hj
      obtain ⟨rfl, rfl⟩ := hj
      by_cases hf : g = 0
      · have q := tak_ok hq h1 hf
        subst hf
        exact lay_sa s hs w ht hq h1 rfl hTl h2 hl q
      · by_cases hh : h = 0
        · subst hh
          obtain ⟨m, u, rfl, hm, rfl, rfl⟩ := tak_some hq h1 hf h3
          exact lay_sb s hs w ht hq h1 rfl hTl h2 hl h3 hm
        · by_cases e : h = g
          · subst e
            exact lay_sc s hs w ht hq h1 rfl hTl h2 hl h3 hf
          · rcases tak_not hq h1 hf h3 with e' | rfl
            · exact absurd e' e
            · exact lay_sd s hs w ht hq h1 rfl hTl h2 hl h3 hh e
    · by_cases hf : f = 0
      · have q := tak_ok hq h1 hf
        subst hf
        exact lay_la s hs w ht hq h1 rfl hTl h2 hl q
      · by_cases hh : h = 0
        · subst hh
          obtain ⟨m, u, rfl, hm, rfl, rfl⟩ := tak_some hq h1 hf h3
          exact lay_lb s hs w ht hq h1 rfl hTl h2 hl h3 hm
        · by_cases e : h = f
          · subst e
            exact lay_lc s hs w ht hq h1 rfl hTl h2 hl h3 hf
          · rcases tak_not hq h1 hf h3 with e' | rfl
            · exact absurd e' e
            · exact lay_ld s hs w ht hq h1 rfl hTl h2 hl h3 hh e
end Go.Proofs.YtlnomiiphlbamaaGreatDoor.EtW
namespace Go.Proofs.YtlnomiiphlbamaaGreatDoor.exprtextLayoutCard
open Go Go.ChangeShapes Go.WideShapes Go.ChangeAt Go.RowKit Go.Proofs.YtlnomiiphlbamaaGreatDoor.EtW

set_option maxRecDepth 100000 in
theorem contract (H : Type) (enc : TypeId × Value → H) (W : World) (base : Nat) (args : Array Value) (ds gs : List (DataW H)) (before : List MemPlace)
    (hval0 : ∀ (j : Nat) t v, Tryz.f6.params[j]? = some t → args[j]? = some v → Value.okWide Tryz.prog W .any base t v)
    (hW : DataW.Whole enc Tryz.prog Tryz.f6.params.toList Rows.exprtextLayoutSpec.vars false W args.toList ds gs before)
    (hsz0 : (DataW.weightsEach Tryz.prog (Tryz.f6.params.toList ++ Rows.exprtextLayoutSpec.plain.varTypes Tryz.prog) (ds ++ gs)).all (· ≤ reachBytes) = true) (hL : laidMetH Tryz.prog laidAll W) :
    Calls Tryz.prog 6 args W fun e W' => ∃ v, e = .returned v ∧ Rows.exprtextLayoutSpec.post enc Tryz.prog Tryz.f6 false true false false W args v W' := by
  have hval : ∀ (j : Nat) t v, Tryz.f6.params[j]? = some t → args[j]? = some v → Value.okWide Tryz.prog W .any base t v := hval0
  have _hsz : (DataW.weightsEach Tryz.prog (Tryz.f6.params.toList ++ Rows.exprtextLayoutSpec.plain.varTypes Tryz.prog) (ds ++ gs)).all (· ≤ reachBytes) = true := hsz0
  have hW' := hW
  obtain ⟨p, q, hA0, hV, rfl, _, _⟩ := hW
  have hA : DataW.TrodAll enc Tryz.prog W 0 (fun _ => true) true Tryz.f6.params.toList args.toList ds p := hA0
  rw [Tryz.params6] at hA hval _hsz
  obtain ⟨v0, vs0, d0, ds0, p0, q0, hargs, rfl, rfl, h0, r0⟩ := trodAll_cons hA
  obtain ⟨rfl, rfl, rfl⟩ := trodAll_nil r0
  obtain rfl : args = #[v0] := by cases args; simp_all
  obtain ⟨rfl, rfl⟩ := trodVars_none hV
  have hsz := _hsz
  obtain ⟨x0, rfl, rfl, rfl, w0⟩ := Go.ChangeMaps.open_string Tryz.underlying9 (hval 0 9 v0 rfl rfl) h0
  have s0 : x0.size ≤ 140737488351232 := by have := sized_string hsz (j := 0) (bytes := x0.data.toList) rfl rfl; rw [Go.Proofs.YtlnomiiphlbamaaGreatDoor.LexW.len_data] at this; exact this
  clear hA0 hval0
  simp only [List.append_nil] at hW'
  refine (layout_any x0 s0 W (tab_of_laid hL)).mono fun e W' ⟨he, hnx⟩ => ?_
  subst he
  exact ⟨_, rfl, _, _, _, [], ([] ++ []), [], hW', trodAll_cons_mk (shut_bool Tryz.underlying4 _) trodAll_mk0, (trodAll_cons_mk (Go.ChangeMaps.shut_string Tryz.underlying9 w0) trodAll_mk0), rfl, hnx.frame _, fun h => by cases h⟩
theorem reads (os : Os) {H : Type} (enc : TypeId × Value → H) : ∃ places, DataW.whole enc Tryz.prog ((World.doorLaid Tryz.prog 400 os).forCall (fun _ _ => 0) ⟨#[], #[.string ⟨#[]⟩], []⟩).memory Tryz.f6.params.toList Rows.exprtextLayoutSpec.vars false (#[.string ⟨#[]⟩] : Array Value).toList 8 = some ([.lit (.string [])], [], places) :=
  ⟨[], by kernel_rfl⟩
set_option maxRecDepth 100000 in
theorem lifted (os : Os) (started : os.Started) (H : Type) (enc : TypeId × Value → H) (F : Stop.Interp) :
    ReturnsInHanded {} Tryz.checked os 6 .any ((OpenSpec.ofChange Rows.exprtextLayoutSpec).preRow enc Tryz.prog Tryz.f6 Rows.exprtextLayoutRow.domain false Rows.exprtextLayoutRow.laid) (((OpenSpec.ofChange Rows.exprtextLayoutSpec).at F).post enc Tryz.prog Tryz.f6 false true false false) := by
  obtain ⟨places, hx⟩ := reads os enc
  refine returnsInHanded_of_row (C := Tryz.checked) (s := (OpenSpec.ofChange Rows.exprtextLayoutSpec)) own started (by kernel_rfl) Tryz.func6
    (witness_row_atRef (enc := enc) (C := Tryz.checked) false (World.doorLaid Tryz.prog 400 os) #[.string ⟨#[]⟩] rfl (by kernel_rfl) (by kernel_rfl) (by kernel_rfl)
      (OpenSpec.preRow_of_cond 8 hx (by kernel_rfl) (fun k hk => by cases hk) (by kernel_rfl) (door_met os _))) ?_
  intro W base args ds gs before hval hW _ _ hsz hL _ _
  exact contract H enc W base args ds gs before hval hW hsz hL

/-- The row: the call returns true, and each argument reads afterwards as it read before. -/
theorem said : Rows.ExprtextLayoutSaid :=
  OpenClaim.holds_of_cond 6 Tryz.f6 rfl rfl rfl rfl rfl rfl rfl ⟨rfl, rfl, rfl, rfl, rfl⟩ rfl rfl rfl rfl rfl (by kernel_rfl) Tryz.func6 (by kernel_rfl)
    (of_decide_eq_true (by kernel_rfl)) (by unfold Func.isWrapper; first | (rw [if_pos (by decide +kernel)]; kernel_rfl) | (rw [if_neg (by decide +kernel)]; exact ⟨rfl, rfl⟩))
    (fun os started H enc _ F => by rw [OpenClaim.pre_eq_preRow]; exact lifted os started H enc F)

/-- No parameter wants a stand-in; what the program's looks are. -/
theorem plain (f : FuncId) (fn : Func) (hf : Tryz.pinned.checked.prog.funcNamed "testbench/testbenchlaw09.ExprtextLayout" = some f) (hfn : Tryz.pinned.checked.prog.funcs[f]? = some fn) :
    true = Tryz.pinned.checked.prog.looks [] ∧ ∀ (j : Nat) t, fn.params[j]? = some t → Tryz.pinned.checked.prog.wantsStandIn t = false := by
  obtain rfl : f = 6 := Option.some.inj ((show Tryz.prog.funcNamed "testbench/testbenchlaw09.ExprtextLayout" = some 6 by kernel_rfl).symm.trans hf) |>.symm
  obtain rfl : fn = Tryz.f6 := (Option.some.inj (Tryz.func6.symm.trans hfn)).symm
  refine ⟨by kernel_rfl, fun j t ht => ?_⟩
  rw [Tryz.params6] at ht
  have hm : t ∈ [9] := by simpa using Array.mem_of_getElem? ht
  have hall : ([9].all fun u => !Tryz.prog.wantsStandIn u) = true := by kernel_rfl
  exact (show Tryz.prog.wantsStandIn t = false by simpa using List.all_eq_true.1 hall t hm)

/-- The tied card. -/
theorem card : Rows.ExprtextLayoutCardSaid :=
  Claim7.holds_tied_plain_at .later [] _ _ _ _ said (fun _ h => by cases h) (by kernel_rfl) (fun _ h => by cases h) exprtextLayout_row_tie rfl ⟨rfl, rfl⟩ (by kernel_rfl) rfl plain (by kernel_rfl)
end Go.Proofs.YtlnomiiphlbamaaGreatDoor.exprtextLayoutCard
