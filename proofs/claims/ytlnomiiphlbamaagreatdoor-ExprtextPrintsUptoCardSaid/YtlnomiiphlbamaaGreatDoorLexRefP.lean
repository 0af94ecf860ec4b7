/-
  What the reference's 'Parse' of an integer returns, for every text of at most 16384 bytes.
-/
import Derived.Test.YtlnomiiphlbamaaGreatDoorPackParse
import Derived.Test.YtlnomiiphlbamaaGreatDoorNumMath
import Derived.Lib.SlBytesRow
namespace Go.Proofs.YtlnomiiphlbamaaGreatDoor.RefP
open Go Go.RowKit Go.Proofs.YtlnomiiphlbamaaGreatDoor.NumM
open Go.Proofs.YtlnomiiphlbamaaGreatDoor.PackW (ret1 ret2 retb take_snoc not_all some_byte)

theorem addRef_any (a b : Int) (w : World) (a0 : -9223372036854775808 ≤ a) (a1 : a ≤ 9223372036854775807) (b0 : -9223372036854775808 ≤ b) (b1 : b ≤ 9223372036854775807) :
    Calls Tryz.prog 116 #[.int .i64 a, .int .i64 b] w fun e w' => e = .returned (.tuple #[.int .i64 (lim (a + b)).1, .int .i64 (lim (a + b)).2]) ∧ w = w' := by
  go_enter Tryz.func116, Tryz.ntmps116
  go_wp2
  all_goals go_ret2
  all_goals first
    | exact ⟨ret2 (add_ok (by rw [okI_iff]; (try unfold wrap64 at *); omega)), rfl⟩
    | exact ⟨ret2 (add_no (by (try unfold wrap64 at *); omega)), rfl⟩
theorem subRef_any (a b : Int) (w : World) (a0 : -9223372036854775808 ≤ a) (a1 : a ≤ 9223372036854775807) (b0 : -9223372036854775808 ≤ b) (b1 : b ≤ 9223372036854775807) :
    Calls Tryz.prog 96 #[.int .i64 a, .int .i64 b] w fun e w' => e = .returned (.tuple #[.int .i64 (lim (a - b)).1, .int .i64 (lim (a - b)).2]) ∧ w = w' := by
  by_cases hb : b = -9223372036854775808
  · subst hb
    go_enter Tryz.func96, Tryz.ntmps96
    go_wp2
    all_goals go_ret2
    all_goals first
      | exact ⟨ret2 (sub_least (by omega) a0), rfl⟩
      | exact ⟨ret2 (sub_no (by omega)), rfl⟩
  · have hs : (b == -9223372036854775808) = false := by simpa using hb
    have hn : a - b = a + -b := by omega
    rw [hn]
    clear hn
    go_enter Tryz.func96, Tryz.ntmps96
    go_wp2_with (go_at_call 116; refine (addRef_any _ _ _ (by omega) (by omega) (by omega) (by omega)).mono ?_; rintro e w' ⟨rfl, rfl⟩)
    go_ret2
    exact ⟨rfl, rfl⟩
theorem mulRef_any (a b : Int) (w : World) (a0 : -9223372036854775808 ≤ a) (a1 : a ≤ 9223372036854775807) (b0 : -9223372036854775808 ≤ b) (b1 : b ≤ 9223372036854775807) :
    Calls Tryz.prog 95 #[.int .i64 a, .int .i64 b] w fun e w' => e = .returned (.tuple #[.int .i64 (lim (a * b)).1, .int .i64 (lim (a * b)).2]) ∧ w = w' := by
  by_cases h0 : a = 0
  · subst h0
    go_enter Tryz.func95, Tryz.ntmps95
    go_wp2
    go_ret2
    exact ⟨ret2 (by rw [Int.zero_mul]; rfl), rfl⟩
  have h0' : (a == 0) = false := by simpa using h0
  by_cases k0 : b = 0
  · subst k0
    go_enter Tryz.func95, Tryz.ntmps95
    go_wp2
    go_ret2
    exact ⟨ret2 (by rw [Int.mul_zero]; rfl), rfl⟩
  have k0' : (b == 0) = false := by simpa using k0
  by_cases h1 : a = -1
  · subst h1
    by_cases k1 : b = -9223372036854775808
    · subst k1
      go_enter Tryz.func95, Tryz.ntmps95
      go_wp2
      go_ret2
      exact ⟨ret2 lim_least, rfl⟩
    have k1' : (b == -9223372036854775808) = false := by simpa using k1
    by_cases k2 : b = -1
    · subst k2
      have t : (wrap64 (-wrap64 1) != -1) = false := by unfold wrap64; rfl
      go_enter Tryz.func95, Tryz.ntmps95
      go_wp2
      go_ret2
      exact ⟨ret2 rfl, rfl⟩
    · have k2' : (b == -1) = false := by simpa using k2
      have t := neg_test b (by omega) b1 k0
      go_enter Tryz.func95, Tryz.ntmps95
      go_wp2
      go_ret2
      exact ⟨ret2 (neg_ok (by omega) b1), rfl⟩
  have h1' : (a == -1) = false := by simpa using h1
  by_cases k1 : b = -1
  · subst k1
    by_cases h2 : a = -9223372036854775808
    · subst h2
      go_enter Tryz.func95, Tryz.ntmps95
      go_wp2
      go_ret2
      exact ⟨ret2 lim_least', rfl⟩
    have h2' : (a == -9223372036854775808) = false := by simpa using h2
    have t := neg_neg_test a (by omega) a1
    go_enter Tryz.func95, Tryz.ntmps95
    go_wp2
    go_ret2
    exact ⟨ret2 (neg_ok' (by omega) a1), rfl⟩
  have k1' : (b == -1) = false := by simpa using k1
  have hm := mul_testR a b b0 b1 k0 k1
  by_cases g : okI (a * b) = true
  · have t : (wrap64 ((wrap64 (a * b)).tdiv b) != a) = false := by rw [hm, g]; rfl
    have G := Lib.hid (mul_ok g)
    clear hm g
    go_enter Tryz.func95, Tryz.ntmps95
    go_wp2
    go_ret2
    exact ⟨ret2 G.out, rfl⟩
  · have t : (wrap64 ((wrap64 (a * b)).tdiv b) != a) = true := by rw [hm]; simpa using g
    have G := Lib.hid (mul_no g)
    clear hm g
    go_enter Tryz.func95, Tryz.ntmps95
    go_wp2
    go_ret2
    exact ⟨ret2 G.out, rfl⟩
theorem lim1 {x : Int} (h : okI x = true) : (lim x).1 = x := by rw [lim_ok h]
theorem lim2 {x : Int} (h : okI x = true) : (lim x).2 = 0 := by rw [lim_ok h]
theorem lim3 {x : Int} (h : okI x = false) : (lim x).2 = 3 := by rw [lim_no h]
/-- At least one byte, and only digits. -/
def dgS (l : List UInt8) : Bool := l.all dgt && !l.isEmpty
def digitsP (l : List UInt8) (w : World) (e : Ending) (w' : World) : Prop := e = .returned (.bool (dgS l)) ∧ w = w'
set_option maxHeartbeats 400000 in
theorem digits_any (s : ByteArray) (w : World) (hs : s.size ≤ 16384) :
    Calls Tryz.prog 94 #[.string s] w (digitsP s.data.toList w) := by
  go_enter Tryz.func94, Tryz.ntmps94
  go_wp2
  go_loop [3] (fun i => ∃ k : Nat, k ≤ s.size ∧ i = .int .i64 k ∧ (s.data.toList.take k).all dgt = true) (fun i => s.size - (intOf i).toNat)
  case atStart => exact ⟨0, Nat.zero_le _, rfl, by simp⟩
  case round =>
    obtain ⟨k, hk, rfl, ha⟩ := hrel
    have HA := Lib.hid ha
    clear ha
    by_cases hlt : k < s.size
    · by_cases g : dgt s[k] = true
      · have g2 := dgt_iff.1 g
        have g3 : (48 : Int) ≤ (s[k].toNat : Int) := by omega
        have g4 : (s[k].toNat : Int) ≤ 57 := by omega
        have G := Lib.hid g
        clear g g2
        go_wp2
        go_round
        case rel => exact ⟨k + 1, by omega, by go_num, by rw [take_snoc s k hlt, List.all_append, HA.out]; simp [G.out]⟩
        case measure => simp [intOf]; omega
      · have g2 : (s[k].toNat : Int) < 48 ∨ 57 < (s[k].toNat : Int) := by
          rw [dgt_iff] at g; omega
        have G := Lib.hid g
        clear g
        rcases g2 with g2 | g2
        all_goals
          go_wp2
          go_ret
          exact ⟨retb (by rw [dgS, not_all hlt G.out]; rfl), rfl⟩
    · go_wp2
      go_ret
      exact ⟨retb (by rw [show k = s.size by omega, List.take_of_length_le (by simp)] at HA; rw [dgS, HA.out, Bool.true_and, some_byte]), rfl⟩
def parsedR (l : List UInt8) (w : World) (e : Ending) (w' : World) : Prop := e = .returned (.tuple #[.int .i64 (parseS l).1, .int .i64 (parseS l).2]) ∧ w = w'
theorem dgS_iff {t : ByteArray} {l : List UInt8} (hd : t.data.toList = tl l) : dgS t.data.toList = ((tl l).all dgt && !(tl l).isEmpty) := by rw [hd]; rfl
theorem parsed_no {l : List UInt8} (h : isDec l = false) : ((0 : Int), (5 : Int)) = parseS l := by rw [parseS, h]; rfl
theorem parsed_range {l : List UInt8} (h : isDec l = true) (hv : 9223372036854775808 < (vl 0 (tl l) : Int)) : ((0 : Int), (3 : Int)) = parseS l := by
  rw [parseS, h, if_pos rfl, lim_no]
  rw [okI_no]
  unfold valS
  split <;> omega
theorem isDec_no1 {t : ByteArray} {l : List UInt8} (hd : t.data.toList = tl l) (h : dgS t.data.toList = false) : isDec l = false := by
  rw [dgS_iff hd] at h
  rw [isDec, h]; rfl
theorem isDec_no2 {t : ByteArray} {l : List UInt8} (hd : t.data.toList = tl l) (ht : 0 < t.size) (h : t[0].toNat = 48) (hl : l ≠ [48]) : isDec l = false := by
  have e : (tl l).head? = some 48 := by rw [head_at hd ht, show t[0] = 48 from by rw [← UInt8.toNat_inj, h]; rfl]
  have b : (l == [48]) = false := by simpa using hl
  rw [isDec, e, b]; simp
theorem isDec_yes {t : ByteArray} {l : List UInt8} (hd : t.data.toList = tl l) (h : dgS t.data.toList = true) (hh : ¬ ((tl l).head? = some 48 ∧ l ≠ [48])) : isDec l = true := by
  rw [dgS_iff hd, Bool.and_eq_true] at h
  refine isDec_of h.1 ?_ hh
  have := h.2
  intro e; rw [e] at this; cases this
theorem head_no {t : ByteArray} {l : List UInt8} (hd : t.data.toList = tl l) (ht : 0 < t.size) (h : ¬ t[0].toNat = 48) : ¬ ((tl l).head? = some 48 ∧ l ≠ [48]) := by
  intro x
  have e := x.1
  rw [head_at hd ht] at e
  exact h (by rw [Option.some.inj e]; rfl)
theorem size_of_dgS {t : ByteArray} (h : dgS t.data.toList = true) : 0 < t.size := by
  rw [dgS, Bool.and_eq_true, some_byte] at h
  simpa using h.2
set_option maxHeartbeats 400000 in
theorem parseRef_minus (s t : ByteArray) (w : World) (hs : s.size ≤ 16384) (h0 : 0 < s.size) (hm : ((s[0].toNat : Int) == 45) = true) (ht : s.extract 1 s.size = t) (hd : t.data.toList = tl s.data.toList) (hmin : minus s.data.toList = true) (hts : t.size ≤ 16384) :
    Calls Tryz.prog 56 #[.string s] w (parsedR s.data.toList w) := by
  have HD := Lib.hid hd
  have MIN := Lib.hid hmin
  clear hd hmin
  cases e0 : dgS t.data.toList
  · have FIN := Lib.hid (parsed_no (isDec_no1 HD.out e0))
    go_enter Tryz.func56, Tryz.ntmps56
    go_wp2_with (first | (go_at_call 95; refine (mulRef_any _ _ _ (by omega) (by omega) (by omega) (by omega)).mono ?_; rintro e w' ⟨rfl, rfl⟩) | (go_at_call 96; refine (subRef_any _ _ _ (by omega) (by omega) (by omega) (by omega)).mono ?_; rintro e w' ⟨rfl, rfl⟩) | (go_at_call 94; refine (digits_any _ _ (by omega)).mono ?_; rintro e w' ⟨rfl, rfl⟩))
    go_ret2
    exact ⟨ret2 FIN.out, rfl⟩
  · have ht0 := size_of_dgS e0
    by_cases c0 : t[0].toNat = 48
    · by_cases z : s.data.toList = [48]
      · have hz : (!s.toList == [48]) = false := str_no z
        have DEC := Lib.hid (isDec_yes HD.out e0 (fun x => x.2 z))
        have DD := Lib.hid (isDec_parts DEC.out).1
        have c1 : ((t[0].toNat : Int) == 48) = true := by simp; omega
        clear c0 z
        go_enter Tryz.func56, Tryz.ntmps56
        go_wp2_with (first | (go_at_call 95; refine (mulRef_any _ _ _ (by omega) (by omega) (by omega) (by omega)).mono ?_; rintro e w' ⟨rfl, rfl⟩) | (go_at_call 96; refine (subRef_any _ _ _ (by omega) (by omega) (by omega) (by omega)).mono ?_; rintro e w' ⟨rfl, rfl⟩) | (go_at_call 94; refine (digits_any _ _ (by omega)).mono ?_; rintro e w' ⟨rfl, rfl⟩))
        go_loop [6, 7] (fun n i => ∃ k : Nat, k ≤ t.size ∧ i = .int .i64 k ∧ (vl 0 (t.data.toList.take k) : Int) ≤ 9223372036854775808 ∧ n = .int .i64 (-(vl 0 (t.data.toList.take k) : Int))) (fun _ i => t.size - (intOf i).toNat)
        case atStart => exact ⟨0, Nat.zero_le _, rfl, by simp [vl_nil], by simp [vl_nil]⟩
        case round =>
          obtain ⟨k, hk, rfl, hv, rfl⟩ := hrel
          by_cases hlt : k < t.size
          · have g := dgt_at HD.out DD.out hlt
            have g3 : (48 : Int) ≤ (t[k].toNat : Int) := by omega
            have g4 : (t[k].toNat : Int) ≤ 57 := by omega
            have NX : Hid (vl 0 (t.data.toList.take (k + 1)) = vl 0 (t.data.toList.take k) * 10 + (t[k].toNat - 48)) := Lib.hid (by rw [take_snoc t k hlt, vl_snoc])
            have LE := Lib.hid (vl_take_le t.data.toList (k + 1))
            clear g
            obtain ⟨V, hV⟩ : ∃ V : Nat, vl 0 (t.data.toList.take k) = V := ⟨_, rfl⟩
            rw [hV] at hv
            rw [hV]
            have HV := Lib.hid hV
            clear hV
            by_cases gm : okI (-(V : Int) * 10) = true
            · have l1 := lim1 gm
              have l2 := lim2 gm
              have gb := okI_iff.1 gm
              have gb0 := gb.1
              have gb1 := gb.2
              clear gm gb
              by_cases gs : okI (-(V : Int) * 10 - ((t[k].toNat : Int) - 48)) = true
              · have m1 := lim1 gs
                have m2 := lim2 gs
                have gc := (okI_iff.1 gs).1
                clear gs
                go_wp2_with (first | (go_at_call 95; refine (mulRef_any _ _ _ (by omega) (by omega) (by omega) (by omega)).mono ?_; rintro e w' ⟨rfl, rfl⟩) | (go_at_call 96; refine (subRef_any _ _ _ (by omega) (by omega) (by omega) (by omega)).mono ?_; rintro e w' ⟨rfl, rfl⟩) | (go_at_call 94; refine (digits_any _ _ (by omega)).mono ?_; rintro e w' ⟨rfl, rfl⟩))
                go_round
                case rel => exact ⟨k + 1, by omega, by go_num, by rw [NX.out, HV.out]; omega, by rw [NX.out, HV.out]; congr 1; omega⟩
                case measure => simp [intOf]; omega
              · have gs' : okI (-(V : Int) * 10 - ((t[k].toNat : Int) - 48)) = false := by simpa using gs
                have m3 := lim3 gs'
                have GS := Lib.hid gs'
                clear gs gs'
                go_wp2_with (first | (go_at_call 95; refine (mulRef_any _ _ _ (by omega) (by omega) (by omega) (by omega)).mono ?_; rintro e w' ⟨rfl, rfl⟩) | (go_at_call 96; refine (subRef_any _ _ _ (by omega) (by omega) (by omega) (by omega)).mono ?_; rintro e w' ⟨rfl, rfl⟩) | (go_at_call 94; refine (digits_any _ _ (by omega)).mono ?_; rintro e w' ⟨rfl, rfl⟩))
                go_ret2
                exact ⟨ret2 (parsed_range DEC.out (by have a := LE.out; have b := NX.out; rw [HV.out] at b; rw [HD.out] at a b; have c := okI_no.1 GS.out; omega)), rfl⟩
            · have gm' : okI (-(V : Int) * 10) = false := by simpa using gm
              have l3 := lim3 gm'
              have l1 : (lim (-(V : Int) * 10)).1 = 0 := by rw [lim_no gm']
              have GM := Lib.hid gm'
              clear gm gm'
              go_wp2_with (first | (go_at_call 95; refine (mulRef_any _ _ _ (by omega) (by omega) (by omega) (by omega)).mono ?_; rintro e w' ⟨rfl, rfl⟩) | (go_at_call 96; refine (subRef_any _ _ _ (by omega) (by omega) (by omega) (by omega)).mono ?_; rintro e w' ⟨rfl, rfl⟩) | (go_at_call 94; refine (digits_any _ _ (by omega)).mono ?_; rintro e w' ⟨rfl, rfl⟩))
              go_ret2
              exact ⟨ret2 (parsed_range DEC.out (by have a := LE.out; have b := NX.out; rw [HV.out] at b; rw [HD.out] at a b; have c := okI_no.1 GM.out; omega)), rfl⟩
          · have hT : t.data.toList.take k = tl s.data.toList := by
              rw [show k = t.size by omega]
              exact (List.take_of_length_le (by simp)).trans HD.out
            rw [hT] at hv
            rw [hT]
            have HT := Lib.hid hT
            clear hT
            obtain ⟨V, hV⟩ : ∃ V : Nat, vl 0 (tl s.data.toList) = V := ⟨_, rfl⟩
            rw [hV] at hv
            rw [hV]
            have HV := Lib.hid hV
            clear hV
            go_wp2_with (first | (go_at_call 95; refine (mulRef_any _ _ _ (by omega) (by omega) (by omega) (by omega)).mono ?_; rintro e w' ⟨rfl, rfl⟩) | (go_at_call 96; refine (subRef_any _ _ _ (by omega) (by omega) (by omega) (by omega)).mono ?_; rintro e w' ⟨rfl, rfl⟩) | (go_at_call 94; refine (digits_any _ _ (by omega)).mono ?_; rintro e w' ⟨rfl, rfl⟩))
            go_ret2
            exact ⟨ret2 (by rw [parseS, DEC.out, if_pos rfl, valS, MIN.out, if_pos rfl, HV.out, lim_ok (okI_iff.2 ⟨by omega, by omega⟩)]), rfl⟩
      · have hz : (!s.toList == [48]) = true := str_yes z
        have FIN := Lib.hid (parsed_no (isDec_no2 HD.out ht0 c0 z))
        have c1 : ((t[0].toNat : Int) == 48) = true := by simp; omega
        clear c0 z
        go_enter Tryz.func56, Tryz.ntmps56
        go_wp2_with (first | (go_at_call 95; refine (mulRef_any _ _ _ (by omega) (by omega) (by omega) (by omega)).mono ?_; rintro e w' ⟨rfl, rfl⟩) | (go_at_call 96; refine (subRef_any _ _ _ (by omega) (by omega) (by omega) (by omega)).mono ?_; rintro e w' ⟨rfl, rfl⟩) | (go_at_call 94; refine (digits_any _ _ (by omega)).mono ?_; rintro e w' ⟨rfl, rfl⟩))
        go_ret2
        exact ⟨ret2 FIN.out, rfl⟩
    · have DEC := Lib.hid (isDec_yes HD.out e0 (head_no HD.out ht0 c0))
      have DD := Lib.hid (isDec_parts DEC.out).1
      have c1 : ((t[0].toNat : Int) == 48) = false := by simp; omega
      clear c0
      go_enter Tryz.func56, Tryz.ntmps56
      go_wp2_with (first | (go_at_call 95; refine (mulRef_any _ _ _ (by omega) (by omega) (by omega) (by omega)).mono ?_; rintro e w' ⟨rfl, rfl⟩) | (go_at_call 96; refine (subRef_any _ _ _ (by omega) (by omega) (by omega) (by omega)).mono ?_; rintro e w' ⟨rfl, rfl⟩) | (go_at_call 94; refine (digits_any _ _ (by omega)).mono ?_; rintro e w' ⟨rfl, rfl⟩))
      go_loop [6, 7] (fun n i => ∃ k : Nat, k ≤ t.size ∧ i = .int .i64 k ∧ (vl 0 (t.data.toList.take k) : Int) ≤ 9223372036854775808 ∧ n = .int .i64 (-(vl 0 (t.data.toList.take k) : Int))) (fun _ i => t.size - (intOf i).toNat)
      case atStart => exact ⟨0, Nat.zero_le _, rfl, by simp [vl_nil], by simp [vl_nil]⟩
      case round =>
        obtain ⟨k, hk, rfl, hv, rfl⟩ := hrel
        by_cases hlt : k < t.size
        · have g := dgt_at HD.out DD.out hlt
          have g3 : (48 : Int) ≤ (t[k].toNat : Int) := by omega
          have g4 : (t[k].toNat : Int) ≤ 57 := by omega
          have NX : Hid (vl 0 (t.data.toList.take (k + 1)) = vl 0 (t.data.toList.take k) * 10 + (t[k].toNat - 48)) := Lib.hid (by rw [take_snoc t k hlt, vl_snoc])
          have LE := Lib.hid (vl_take_le t.data.toList (k + 1))
          clear g
          obtain ⟨V, hV⟩ : ∃ V : Nat, vl 0 (t.data.toList.take k) = V := ⟨_, rfl⟩
          rw [hV] at hv
          rw [hV]
          have HV := Lib.hid hV
          clear hV
          by_cases gm : okI (-(V : Int) * 10) = true
          · have l1 := lim1 gm
            have l2 := lim2 gm
            have gb := okI_iff.1 gm
            have gb0 := gb.1
            have gb1 := gb.2
            clear gm gb
            by_cases gs : okI (-(V : Int) * 10 - ((t[k].toNat : Int) - 48)) = true
            · have m1 := lim1 gs
              have m2 := lim2 gs
              have gc := (okI_iff.1 gs).1
              clear gs
              go_wp2_with (first | (go_at_call 95; refine (mulRef_any _ _ _ (by omega) (by omega) (by omega) (by omega)).mono ?_; rintro e w' ⟨rfl, rfl⟩) | (go_at_call 96; refine (subRef_any _ _ _ (by omega) (by omega) (by omega) (by omega)).mono ?_; rintro e w' ⟨rfl, rfl⟩) | (go_at_call 94; refine (digits_any _ _ (by omega)).mono ?_; rintro e w' ⟨rfl, rfl⟩))
              go_round
              case rel => exact ⟨k + 1, by omega, by go_num, by rw [NX.out, HV.out]; omega, by rw [NX.out, HV.out]; congr 1; omega⟩
              case measure => simp [intOf]; omega
            · have gs' : okI (-(V : Int) * 10 - ((t[k].toNat : Int) - 48)) = false := by simpa using gs
              have m3 := lim3 gs'
              have GS := Lib.hid gs'
              clear gs gs'
              go_wp2_with (first | (go_at_call 95; refine (mulRef_any _ _ _ (by omega) (by omega) (by omega) (by omega)).mono ?_; rintro e w' ⟨rfl, rfl⟩) | (go_at_call 96; refine (subRef_any _ _ _ (by omega) (by omega) (by omega) (by omega)).mono ?_; rintro e w' ⟨rfl, rfl⟩) | (go_at_call 94; refine (digits_any _ _ (by omega)).mono ?_; rintro e w' ⟨rfl, rfl⟩))
              go_ret2
              exact ⟨ret2 (parsed_range DEC.out (by have a := LE.out; have b := NX.out; rw [HV.out] at b; rw [HD.out] at a b; have c := okI_no.1 GS.out; omega)), rfl⟩
          · have gm' : okI (-(V : Int) * 10) = false := by simpa using gm
            have l3 := lim3 gm'
            have l1 : (lim (-(V : Int) * 10)).1 = 0 := by rw [lim_no gm']
            have GM := Lib.hid gm'
            clear gm gm'
            go_wp2_with (first | (go_at_call 95; refine (mulRef_any _ _ _ (by omega) (by omega) (by omega) (by omega)).mono ?_; rintro e w' ⟨rfl, rfl⟩) | (go_at_call 96; refine (subRef_any _ _ _ (by omega) (by omega) (by omega) (by omega)).mono ?_; rintro e w' ⟨rfl, rfl⟩) | (go_at_call 94; refine (digits_any _ _ (by omega)).mono ?_; rintro e w' ⟨rfl, rfl⟩))
            go_ret2
            exact ⟨ret2 (parsed_range DEC.out (by have a := LE.out; have b := NX.out; rw [HV.out] at b; rw [HD.out] at a b; have c := okI_no.1 GM.out; omega)), rfl⟩
        · have hT : t.data.toList.take k = tl s.data.toList := by
            rw [show k = t.size by omega]
            exact (List.take_of_length_le (by simp)).trans HD.out
          rw [hT] at hv
          rw [hT]
          have HT := Lib.hid hT
          clear hT
          obtain ⟨V, hV⟩ : ∃ V : Nat, vl 0 (tl s.data.toList) = V := ⟨_, rfl⟩
          rw [hV] at hv
          rw [hV]
          have HV := Lib.hid hV
          clear hV
          go_wp2_with (first | (go_at_call 95; refine (mulRef_any _ _ _ (by omega) (by omega) (by omega) (by omega)).mono ?_; rintro e w' ⟨rfl, rfl⟩) | (go_at_call 96; refine (subRef_any _ _ _ (by omega) (by omega) (by omega) (by omega)).mono ?_; rintro e w' ⟨rfl, rfl⟩) | (go_at_call 94; refine (digits_any _ _ (by omega)).mono ?_; rintro e w' ⟨rfl, rfl⟩))
          go_ret2
          exact ⟨ret2 (by rw [parseS, DEC.out, if_pos rfl, valS, MIN.out, if_pos rfl, HV.out, lim_ok (okI_iff.2 ⟨by omega, by omega⟩)]), rfl⟩
set_option maxHeartbeats 400000 in
theorem parseRef_plain (s : ByteArray) (w : World) (hs : s.size ≤ 16384) (h0 : 0 < s.size) (hm : ((s[0].toNat : Int) == 45) = false) (hd : s.data.toList = tl s.data.toList) (hmin : minus s.data.toList = false) :
    Calls Tryz.prog 56 #[.string s] w (parsedR s.data.toList w) := by
  have HD := Lib.hid hd
  have MIN := Lib.hid hmin
  clear hd hmin
  cases e0 : dgS s.data.toList
  · have FIN := Lib.hid (parsed_no (isDec_no1 HD.out e0))
    go_enter Tryz.func56, Tryz.ntmps56
    go_wp2_with (first | (go_at_call 95; refine (mulRef_any _ _ _ (by omega) (by omega) (by omega) (by omega)).mono ?_; rintro e w' ⟨rfl, rfl⟩) | (go_at_call 96; refine (subRef_any _ _ _ (by omega) (by omega) (by omega) (by omega)).mono ?_; rintro e w' ⟨rfl, rfl⟩) | (go_at_call 94; refine (digits_any _ _ (by omega)).mono ?_; rintro e w' ⟨rfl, rfl⟩))
    go_ret2
    exact ⟨ret2 FIN.out, rfl⟩
  · have ht0 := size_of_dgS e0
    by_cases c0 : s[0].toNat = 48
    · by_cases z : s.data.toList = [48]
      · have hz : (!s.toList == [48]) = false := str_no z
        have DEC := Lib.hid (isDec_yes HD.out e0 (fun x => x.2 z))
        have DD := Lib.hid (isDec_parts DEC.out).1
        have c1 : ((s[0].toNat : Int) == 48) = true := by simp; omega
        clear c0 z
        go_enter Tryz.func56, Tryz.ntmps56
        go_wp2_with (first | (go_at_call 95; refine (mulRef_any _ _ _ (by omega) (by omega) (by omega) (by omega)).mono ?_; rintro e w' ⟨rfl, rfl⟩) | (go_at_call 96; refine (subRef_any _ _ _ (by omega) (by omega) (by omega) (by omega)).mono ?_; rintro e w' ⟨rfl, rfl⟩) | (go_at_call 94; refine (digits_any _ _ (by omega)).mono ?_; rintro e w' ⟨rfl, rfl⟩))
        go_loop [6, 7] (fun n i => ∃ k : Nat, k ≤ s.size ∧ i = .int .i64 k ∧ (vl 0 (s.data.toList.take k) : Int) ≤ 9223372036854775808 ∧ n = .int .i64 (-(vl 0 (s.data.toList.take k) : Int))) (fun _ i => s.size - (intOf i).toNat)
        case atStart => exact ⟨0, Nat.zero_le _, rfl, by simp [vl_nil], by simp [vl_nil]⟩
        case round =>
          obtain ⟨k, hk, rfl, hv, rfl⟩ := hrel
          by_cases hlt : k < s.size
          · have g := dgt_at HD.out DD.out hlt
            have g3 : (48 : Int) ≤ (s[k].toNat : Int) := by omega
            have g4 : (s[k].toNat : Int) ≤ 57 := by omega
            have NX : Hid (vl 0 (s.data.toList.take (k + 1)) = vl 0 (s.data.toList.take k) * 10 + (s[k].toNat - 48)) := Lib.hid (by rw [take_snoc s k hlt, vl_snoc])
            have LE := Lib.hid (vl_take_le s.data.toList (k + 1))
            clear g
            obtain ⟨V, hV⟩ : ∃ V : Nat, vl 0 (s.data.toList.take k) = V := ⟨_, rfl⟩
            rw [hV] at hv
            rw [hV]
            have HV := Lib.hid hV
            clear hV
            by_cases gm : okI (-(V : Int) * 10) = true
            · have l1 := lim1 gm
              have l2 := lim2 gm
              have gb := okI_iff.1 gm
              have gb0 := gb.1
              have gb1 := gb.2
              clear gm gb
              by_cases gs : okI (-(V : Int) * 10 - ((s[k].toNat : Int) - 48)) = true
              · have m1 := lim1 gs
                have m2 := lim2 gs
                have gc := (okI_iff.1 gs).1
                clear gs
                go_wp2_with (first | (go_at_call 95; refine (mulRef_any _ _ _ (by omega) (by omega) (by omega) (by omega)).mono ?_; rintro e w' ⟨rfl, rfl⟩) | (go_at_call 96; refine (subRef_any _ _ _ (by omega) (by omega) (by omega) (by omega)).mono ?_; rintro e w' ⟨rfl, rfl⟩) | (go_at_call 94; refine (digits_any _ _ (by omega)).mono ?_; rintro e w' ⟨rfl, rfl⟩))
                go_round
                case rel => exact ⟨k + 1, by omega, by go_num, by rw [NX.out, HV.out]; omega, by rw [NX.out, HV.out]; congr 1; omega⟩
                case measure => simp [intOf]; omega
              · have gs' : okI (-(V : Int) * 10 - ((s[k].toNat : Int) - 48)) = false := by simpa using gs
                have m3 := lim3 gs'
                have GS := Lib.hid gs'
                clear gs gs'
                go_wp2_with (first | (go_at_call 95; refine (mulRef_any _ _ _ (by omega) (by omega) (by omega) (by omega)).mono ?_; rintro e w' ⟨rfl, rfl⟩) | (go_at_call 96; refine (subRef_any _ _ _ (by omega) (by omega) (by omega) (by omega)).mono ?_; rintro e w' ⟨rfl, rfl⟩) | (go_at_call 94; refine (digits_any _ _ (by omega)).mono ?_; rintro e w' ⟨rfl, rfl⟩))
                go_ret2
                exact ⟨ret2 (parsed_range DEC.out (by have a := LE.out; have b := NX.out; rw [HV.out] at b; rw [HD.out] at a b; have c := okI_no.1 GS.out; omega)), rfl⟩
            · have gm' : okI (-(V : Int) * 10) = false := by simpa using gm
              have l3 := lim3 gm'
              have l1 : (lim (-(V : Int) * 10)).1 = 0 := by rw [lim_no gm']
              have GM := Lib.hid gm'
              clear gm gm'
              go_wp2_with (first | (go_at_call 95; refine (mulRef_any _ _ _ (by omega) (by omega) (by omega) (by omega)).mono ?_; rintro e w' ⟨rfl, rfl⟩) | (go_at_call 96; refine (subRef_any _ _ _ (by omega) (by omega) (by omega) (by omega)).mono ?_; rintro e w' ⟨rfl, rfl⟩) | (go_at_call 94; refine (digits_any _ _ (by omega)).mono ?_; rintro e w' ⟨rfl, rfl⟩))
              go_ret2
              exact ⟨ret2 (parsed_range DEC.out (by have a := LE.out; have b := NX.out; rw [HV.out] at b; rw [HD.out] at a b; have c := okI_no.1 GM.out; omega)), rfl⟩
          · have hT : s.data.toList.take k = tl s.data.toList := by
              rw [show k = s.size by omega]
              exact (List.take_of_length_le (by simp)).trans HD.out
            rw [hT] at hv
            rw [hT]
            have HT := Lib.hid hT
            clear hT
            obtain ⟨V, hV⟩ : ∃ V : Nat, vl 0 (tl s.data.toList) = V := ⟨_, rfl⟩
            rw [hV] at hv
            rw [hV]
            have HV := Lib.hid hV
            clear hV
            go_wp2_with (first | (go_at_call 95; refine (mulRef_any _ _ _ (by omega) (by omega) (by omega) (by omega)).mono ?_; rintro e w' ⟨rfl, rfl⟩) | (go_at_call 96; refine (subRef_any _ _ _ (by omega) (by omega) (by omega) (by omega)).mono ?_; rintro e w' ⟨rfl, rfl⟩) | (go_at_call 94; refine (digits_any _ _ (by omega)).mono ?_; rintro e w' ⟨rfl, rfl⟩))
            go_ret2
            exact ⟨ret2 (by rw [parseS, DEC.out, if_pos rfl, valS, MIN.out, if_neg (by decide), HV.out]), rfl⟩
      · have hz : (!s.toList == [48]) = true := str_yes z
        have FIN := Lib.hid (parsed_no (isDec_no2 HD.out ht0 c0 z))
        have c1 : ((s[0].toNat : Int) == 48) = true := by simp; omega
        clear c0 z
        go_enter Tryz.func56, Tryz.ntmps56
        go_wp2_with (first | (go_at_call 95; refine (mulRef_any _ _ _ (by omega) (by omega) (by omega) (by omega)).mono ?_; rintro e w' ⟨rfl, rfl⟩) | (go_at_call 96; refine (subRef_any _ _ _ (by omega) (by omega) (by omega) (by omega)).mono ?_; rintro e w' ⟨rfl, rfl⟩) | (go_at_call 94; refine (digits_any _ _ (by omega)).mono ?_; rintro e w' ⟨rfl, rfl⟩))
        go_ret2
        exact ⟨ret2 FIN.out, rfl⟩
    · have DEC := Lib.hid (isDec_yes HD.out e0 (head_no HD.out ht0 c0))
      have DD := Lib.hid (isDec_parts DEC.out).1
      have c1 : ((s[0].toNat : Int) == 48) = false := by simp; omega
      clear c0
      go_enter Tryz.func56, Tryz.ntmps56
      go_wp2_with (first | (go_at_call 95; refine (mulRef_any _ _ _ (by omega) (by omega) (by omega) (by omega)).mono ?_; rintro e w' ⟨rfl, rfl⟩) | (go_at_call 96; refine (subRef_any _ _ _ (by omega) (by omega) (by omega) (by omega)).mono ?_; rintro e w' ⟨rfl, rfl⟩) | (go_at_call 94; refine (digits_any _ _ (by omega)).mono ?_; rintro e w' ⟨rfl, rfl⟩))
      go_loop [6, 7] (fun n i => ∃ k : Nat, k ≤ s.size ∧ i = .int .i64 k ∧ (vl 0 (s.data.toList.take k) : Int) ≤ 9223372036854775808 ∧ n = .int .i64 (-(vl 0 (s.data.toList.take k) : Int))) (fun _ i => s.size - (intOf i).toNat)
      case atStart => exact ⟨0, Nat.zero_le _, rfl, by simp [vl_nil], by simp [vl_nil]⟩
      case round =>
        obtain ⟨k, hk, rfl, hv, rfl⟩ := hrel
        by_cases hlt : k < s.size
        · have g := dgt_at HD.out DD.out hlt
          have g3 : (48 : Int) ≤ (s[k].toNat : Int) := by omega
          have g4 : (s[k].toNat : Int) ≤ 57 := by omega
          have NX : Hid (vl 0 (s.data.toList.take (k + 1)) = vl 0 (s.data.toList.take k) * 10 + (s[k].toNat - 48)) := Lib.hid (by rw [take_snoc s k hlt, vl_snoc])
          have LE := Lib.hid (vl_take_le s.data.toList (k + 1))
          clear g
          obtain ⟨V, hV⟩ : ∃ V : Nat, vl 0 (s.data.toList.take k) = V := ⟨_, rfl⟩
          rw [hV] at hv
          rw [hV]
          have HV := Lib.hid hV
          clear hV
          by_cases gm : okI (-(V : Int) * 10) = true
          · have l1 := lim1 gm
            have l2 := lim2 gm
            have gb := okI_iff.1 gm
            have gb0 := gb.1
            have gb1 := gb.2
            clear gm gb
            by_cases gs : okI (-(V : Int) * 10 - ((s[k].toNat : Int) - 48)) = true
            · have m1 := lim1 gs
              have m2 := lim2 gs
              have gc := (okI_iff.1 gs).1
              clear gs
              go_wp2_with (first | (go_at_call 95; refine (mulRef_any _ _ _ (by omega) (by omega) (by omega) (by omega)).mono ?_; rintro e w' ⟨rfl, rfl⟩) | (go_at_call 96; refine (subRef_any _ _ _ (by omega) (by omega) (by omega) (by omega)).mono ?_; rintro e w' ⟨rfl, rfl⟩) | (go_at_call 94; refine (digits_any _ _ (by omega)).mono ?_; rintro e w' ⟨rfl, rfl⟩))
              go_round
              case rel => exact ⟨k + 1, by omega, by go_num, by rw [NX.out, HV.out]; omega, by rw [NX.out, HV.out]; congr 1; omega⟩
              case measure => simp [intOf]; omega
            · have gs' : okI (-(V : Int) * 10 - ((s[k].toNat : Int) - 48)) = false := by simpa using gs
              have m3 := lim3 gs'
              have GS := Lib.hid gs'
              clear gs gs'
              go_wp2_with (first | (go_at_call 95; refine (mulRef_any _ _ _ (by omega) (by omega) (by omega) (by omega)).mono ?_; rintro e w' ⟨rfl, rfl⟩) | (go_at_call 96; refine (subRef_any _ _ _ (by omega) (by omega) (by omega) (by omega)).mono ?_; rintro e w' ⟨rfl, rfl⟩) | (go_at_call 94; refine (digits_any _ _ (by omega)).mono ?_; rintro e w' ⟨rfl, rfl⟩))
              go_ret2
              exact ⟨ret2 (parsed_range DEC.out (by have a := LE.out; have b := NX.out; rw [HV.out] at b; rw [HD.out] at a b; have c := okI_no.1 GS.out; omega)), rfl⟩
          · have gm' : okI (-(V : Int) * 10) = false := by simpa using gm
            have l3 := lim3 gm'
            have l1 : (lim (-(V : Int) * 10)).1 = 0 := by rw [lim_no gm']
            have GM := Lib.hid gm'
            clear gm gm'
            go_wp2_with (first | (go_at_call 95; refine (mulRef_any _ _ _ (by omega) (by omega) (by omega) (by omega)).mono ?_; rintro e w' ⟨rfl, rfl⟩) | (go_at_call 96; refine (subRef_any _ _ _ (by omega) (by omega) (by omega) (by omega)).mono ?_; rintro e w' ⟨rfl, rfl⟩) | (go_at_call 94; refine (digits_any _ _ (by omega)).mono ?_; rintro e w' ⟨rfl, rfl⟩))
            go_ret2
            exact ⟨ret2 (parsed_range DEC.out (by have a := LE.out; have b := NX.out; rw [HV.out] at b; rw [HD.out] at a b; have c := okI_no.1 GM.out; omega)), rfl⟩
        · have hT : s.data.toList.take k = tl s.data.toList := by
            rw [show k = s.size by omega]
            exact (List.take_of_length_le (by simp)).trans HD.out
          rw [hT] at hv
          rw [hT]
          have HT := Lib.hid hT
          clear hT
          obtain ⟨V, hV⟩ : ∃ V : Nat, vl 0 (tl s.data.toList) = V := ⟨_, rfl⟩
          rw [hV] at hv
          rw [hV]
          have HV := Lib.hid hV
          clear hV
          go_wp2_with (first | (go_at_call 95; refine (mulRef_any _ _ _ (by omega) (by omega) (by omega) (by omega)).mono ?_; rintro e w' ⟨rfl, rfl⟩) | (go_at_call 96; refine (subRef_any _ _ _ (by omega) (by omega) (by omega) (by omega)).mono ?_; rintro e w' ⟨rfl, rfl⟩) | (go_at_call 94; refine (digits_any _ _ (by omega)).mono ?_; rintro e w' ⟨rfl, rfl⟩))
          go_ret2
          exact ⟨ret2 (by rw [parseS, DEC.out, if_pos rfl, valS, MIN.out, if_neg (by decide), HV.out]), rfl⟩
theorem parseRef_empty (w : World) : Calls Tryz.prog 56 #[.string ⟨#[]⟩] w (parsedR [] w) := by
  have e0 : dgS (⟨#[]⟩ : ByteArray).data.toList = false := rfl
  go_enter Tryz.func56, Tryz.ntmps56
  go_wp2_with (first | (go_at_call 95; refine (mulRef_any _ _ _ (by omega) (by omega) (by omega) (by omega)).mono ?_; rintro e w' ⟨rfl, rfl⟩) | (go_at_call 96; refine (subRef_any _ _ _ (by omega) (by omega) (by omega) (by omega)).mono ?_; rintro e w' ⟨rfl, rfl⟩) | (go_at_call 94; refine (digits_any _ _ (by decide)).mono ?_; rintro e w' ⟨rfl, rfl⟩))
  go_ret2
  exact ⟨rfl, rfl⟩
/-- The reference's Parse, for every string of at most 16384 bytes. -/
theorem parseRef_any (s : ByteArray) (w : World) (hs : s.size ≤ 16384) : Calls Tryz.prog 56 #[.string s] w (parsedR s.data.toList w) := by
  by_cases h0 : 0 < s.size
  · have hh : s.data.toList.head? = some s[0] := by
      have h : 0 < s.data.toList.length := by simpa using h0
      rw [List.head?_eq_getElem?, List.getElem?_eq_getElem h]; rfl
    by_cases c : s[0].toNat = 45
    · have hm : minus s.data.toList = true := by
        rw [minus, hh, show s[0] = 45 from by rw [← UInt8.toNat_inj, c]; rfl]; rfl
      have ht : tl s.data.toList = s.data.toList.tail := by rw [tl, hm]; rfl
      refine parseRef_minus s (s.extract 1 s.size) w hs h0 (by simp; omega) rfl ?_ hm ?_
      · rw [Lib.extract_data, ht, List.take_of_length_le (by simp), List.drop_one]
      · simp; omega
    · have hm : minus s.data.toList = false := by
        rw [minus, hh, beq_eq_false_iff_ne]
        intro x; exact c (by rw [Option.some.inj x]; rfl)
      exact parseRef_plain s w hs h0 (by simp; omega) (by rw [tl, hm]; rfl) hm
  · have e : s = ⟨#[]⟩ := by
      apply ByteArray.ext
      apply Array.eq_empty_of_size_eq_zero
      have : s.data.size = s.size := rfl
      omega
    subst e
    exact parseRef_empty w
end Go.Proofs.YtlnomiiphlbamaaGreatDoor.RefP
