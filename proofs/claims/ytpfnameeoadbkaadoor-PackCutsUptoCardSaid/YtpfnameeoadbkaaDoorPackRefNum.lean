/-
  What the reference's TakeNumber returns.
-/
import Derived.Test.YtpfnameeoadbkaaDoorPackRefs
namespace Go.Proofs.YtpfnameeoadbkaaDoor.PackW
open Go Go.RowKit Go.Proofs.YtpfnameeoadbkaaDoor.NumM Go.Proofs.YtpfnameeoadbkaaDoor.PackM

theorem nx_errv {s : ByteArray} {k : Nat} {v : Int} (h : (tk s k (dEnd s (nb s k)) 59).2.2 = v) (hv : ¬ v = 0) : ((0 : Int), (0 : Int), v) = ((nx s k).1, nxO s k, (nx s k).2.2) := by
  rw [num_tk] at h
  have e : nx s k = (0, 0, (nx s k).2.2) := takeL_err (by rw [show (takeL _ _ _).2.2 = (nx s k).2.2 from rfl, h]; exact hv)
  unfold nxO
  rw [if_neg (by rw [h]; exact hv), ← h]
  conv => rhs; rw [e]
theorem nx_okv {s : ByteArray} {k : Nat} {v : Int} (h : (tk s k (dEnd s (nb s k)) 59).2.2 = 0) (hv : (tk s k (dEnd s (nb s k)) 59).1 = v) :
    (v, ((dEnd s (nb s k) : Nat) : Int) + 1, (0 : Int)) = ((nx s k).1, nxO s k, (nx s k).2.2) := by
  have o := num_O (s := s) (k := k)
  rw [← o, ← num_tk, h, hv]
  unfold tkO
  rw [if_pos h]
/-- The numeral with its sign. -/
theorem sub_minus {s : ByteArray} {k e : Nat} (h : k < s.size) (g : s[k] = 45) (he : k + 1 ≤ e) : sub s k e = 45 :: sub s (k + 1) e := by
  unfold sub
  rw [drop_at s k h, g, show e - k = (e - (k + 1)) + 1 by omega, List.take_succ_cons]
def badN (l : List UInt8) : Prop := l = [] ∨ l.head? = some 48
theorem min_tl (l : List UInt8) : tl (45 :: l) = l := rfl
theorem min_min (l : List UInt8) : minus (45 :: l) = true := rfl
theorem badN_dec {l : List UInt8} (h : badN l) : isDec (45 :: l) = false := by
  unfold isDec
  rw [min_tl]
  rcases h with h | h
  · rw [h]; rfl
  · have : ((45 :: l) == [48]) = false := by
      rw [beq_eq_false_iff_ne]
      intro x
      injection x with a b
      exact absurd a (by decide)
    rw [h, this]; simp
theorem goodN_dec {l : List UInt8} (ha : l.all dgt = true) (h : ¬ badN l) : isDec (45 :: l) = true := by
  unfold badN at h
  exact isDec_of (by rw [min_tl]; exact ha) (by rw [min_tl]; exact fun x => h (.inl x)) (by rw [min_tl]; exact fun x => h (.inr x.1))
theorem tkm_bad {s : ByteArray} {k : Nat} (hk : k < s.size) (g : s[k] = 45) (h : dEnd s (k + 1) < s.size) (hb : badN (sub s (k + 1) (dEnd s (k + 1))) ∨ ¬ s[dEnd s (k + 1)] = 59) : (tk s k (dEnd s (k + 1)) 59).2.2 = 5 := by
  by_cases hm : s[dEnd s (k + 1)] = 59
  · have hb' : badN (sub s (k + 1) (dEnd s (k + 1))) := by
      rcases hb with hb | hb
      · exact hb
      · exact absurd hm hb
    have e : parseS (sub s k (dEnd s (k + 1))) = (0, 5) := by rw [sub_minus hk g (le_dEnd s (k + 1))]; unfold parseS; rw [badN_dec hb']; rfl
    have f := tk_err (a := k) h hm (by rw [show (s.data.toList.drop k).take (dEnd s (k + 1) - k) = sub s k (dEnd s (k + 1)) from rfl, e]; decide)
    rw [show (s.data.toList.drop k).take (dEnd s (k + 1) - k) = sub s k (dEnd s (k + 1)) from rfl, e] at f
    exact (congrArg (fun x => x.2.2) f).symm
  · exact (congrArg (fun x => x.2.2) (tk_mark (a := k) h hm)).symm
theorem tkm_good {s : ByteArray} {k : Nat} (hk : k < s.size) (g : s[k] = 45) (h : dEnd s (k + 1) < s.size) (hb : ¬ badN (sub s (k + 1) (dEnd s (k + 1)))) (hm : s[dEnd s (k + 1)] = 59) :
    (vl 0 (sub s (k + 1) (dEnd s (k + 1))) ≤ 9223372036854775808 → (tk s k (dEnd s (k + 1)) 59).1 = -(vl 0 (sub s (k + 1) (dEnd s (k + 1))) : Int) ∧ (tk s k (dEnd s (k + 1)) 59).2.2 = 0) ∧
      (9223372036854775808 < vl 0 (sub s (k + 1) (dEnd s (k + 1))) → (tk s k (dEnd s (k + 1)) 59).2.2 = 3) := by
  have hd := goodN_dec (sub_all s (k + 1)) hb
  have hs := sub_minus hk g (le_dEnd s (k + 1))
  have hv : valS (45 :: sub s (k + 1) (dEnd s (k + 1))) = -(vl 0 (sub s (k + 1) (dEnd s (k + 1))) : Int) := by unfold valS; rw [min_min, min_tl, if_pos rfl]
  constructor
  · intro hle
    have e : parseS (sub s k (dEnd s (k + 1))) = (-(vl 0 (sub s (k + 1) (dEnd s (k + 1))) : Int), 0) := by
      rw [hs]; unfold parseS; rw [hd, if_pos rfl, hv, lim_ok (okI_iff.2 ⟨by omega, by omega⟩)]
    have f := tk_ok (a := k) h hm (by rw [show (s.data.toList.drop k).take (dEnd s (k + 1) - k) = sub s k (dEnd s (k + 1)) from rfl, e])
    rw [show (s.data.toList.drop k).take (dEnd s (k + 1) - k) = sub s k (dEnd s (k + 1)) from rfl, e] at f
    exact ⟨(congrArg (fun x => x.1) f).symm, (congrArg (fun x => x.2.2) f).symm⟩
  · intro hgt
    have e : parseS (sub s k (dEnd s (k + 1))) = (0, 3) := by
      rw [hs]; unfold parseS; rw [hd, if_pos rfl, hv, lim_no (okI_no.2 (.inl (by omega)))]
    have f := tk_err (a := k) h hm (by rw [show (s.data.toList.drop k).take (dEnd s (k + 1) - k) = sub s k (dEnd s (k + 1)) from rfl, e]; decide)
    rw [show (s.data.toList.drop k).take (dEnd s (k + 1) - k) = sub s k (dEnd s (k + 1)) from rfl, e] at f
    exact (congrArg (fun x => x.2.2) f).symm
def tNumR (s : ByteArray) (k : Nat) (w : World) (e : Ending) (w' : World) : Prop :=
  e = .returned (.tuple #[.int .i64 (nx s k).1, .int .i64 (nxO s k), .int .i64 (nx s k).2.2]) ∧ w = w'

set_option maxHeartbeats 1000000 in
theorem refNum_minus (s : ByteArray) (k : Nat) (w : World) (hs : s.size ≤ 140737488351232) (hk : k < s.size) (g : s[k] = 45) :
    Calls Tryd.prog 21 #[.string s, .int .i64 k] w (tNumR s k w) := by
  have hN := nb_yes hk g
  have hk1 : k + 1 ≤ s.size := hk
  have hE1 := le_dEnd s (k + 1)
  have hE2 := dEnd_le hk1
  have g' : ((s[k].toNat : Int) == 45) = true := by rw [g]; rfl
  have g1 : ((k : Int) + 1 == (k : Int)) = false := by simp; omega
  by_cases c1 : dEnd s (k + 1) = s.size
  · have F := Lib.hid (nx_errv (s := s) (k := k) (v := 6) (by rw [hN]; exact (congrArg (fun x => x.2.2) (tk_end (a := k) (m := 59) c1)).symm) (by decide))
    have t1 : ((dEnd s (k + 1) : Int) == (s.size : Int)) = true := by simp; omega
    clear hN g
    go_enter Tryd.func21, Tryd.ntmps21
    go_wp2_with (first | (go_at_call 31; refine (numeral_any s (k + 1) _ hs hk1).mono ?_; rintro e w' ⟨rfl, rfl⟩) | go_in)
    go_ret3
    exact ⟨ret3 F.out, rfl⟩
  · have hlt : dEnd s (k + 1) < s.size := by omega
    have t1 : ((dEnd s (k + 1) : Int) == (s.size : Int)) = false := by simp; omega
    by_cases c2 : dEnd s (k + 1) = k + 1
    · have F := Lib.hid (nx_errv (s := s) (k := k) (v := 5) (by rw [hN]; exact tkm_bad hk g hlt (.inl (.inl (List.length_eq_zero_iff.1 (by rw [sub_len hE2]; omega))))) (by decide))
      have t2 : ((dEnd s (k + 1) : Int) == (k : Int) + 1) = true := by simp; omega
      clear hN g
      go_enter Tryd.func21, Tryd.ntmps21
      go_wp2_with (first | (go_at_call 31; refine (numeral_any s (k + 1) _ hs hk1).mono ?_; rintro e w' ⟨rfl, rfl⟩) | go_in)
      go_ret3
      exact ⟨ret3 F.out, rfl⟩
    · have t2 : ((dEnd s (k + 1) : Int) == (k : Int) + 1) = false := by simp; omega
      have hk2 : k + 1 < s.size := by omega
      by_cases c3 : s[k + 1] = 48
      · have F := Lib.hid (nx_errv (s := s) (k := k) (v := 5) (by rw [hN]; exact tkm_bad hk g hlt (.inl (.inr (by rw [sub_head hk2 (by omega), c3])))) (by decide))
        have t3 : ((s[k + 1].toNat : Int) == 48) = true := by rw [c3]; rfl
        clear hN g c3
        by_cases t4 : (k : Int) + 1 + 1 < (dEnd s (k + 1) : Int)
        all_goals
          go_enter Tryd.func21, Tryd.ntmps21
          go_wp2_with (first | (go_at_call 31; refine (numeral_any s (k + 1) _ hs hk1).mono ?_; rintro e w' ⟨rfl, rfl⟩) | go_in)
          go_ret3
          exact ⟨ret3 F.out, rfl⟩
      · have hg : ¬ badN (sub s (k + 1) (dEnd s (k + 1))) := by
          rintro (x | x)
          · have := sub_len (a := k + 1) hE2
            rw [x] at this
            simp at this
            omega
          · rw [sub_head hk2 (by omega)] at x
            exact c3 (Option.some.inj x)
        have t3 : ((s[k + 1].toNat : Int) == 48) = false := by
          have h1 := nat_ne c3
          have h2 : ¬ s[k + 1].toNat = 48 := h1
          simp; omega
        clear c3
        by_cases c4 : s[dEnd s (k + 1)] = 59
        · have hm := tkm_good hk g hlt hg c4
          have t5 : ((s[dEnd s (k + 1)].toNat : Int) != 59) = false := by rw [c4]; rfl
          by_cases c5 : vl 0 (sub s (k + 1) (dEnd s (k + 1))) ≤ 9223372036854775808
          · obtain ⟨m1, m2⟩ := hm.1 c5
            have F := Lib.hid (nx_okv (s := s) (k := k) (v := -(vl 0 (sub s (k + 1) (dEnd s (k + 1))) : Int)) (by rw [hN]; exact m2) (by rw [hN]; exact m1))
            rw [hN] at F
            have v1 : vS (sub s (k + 1) (dEnd s (k + 1))) = -(vl 0 (sub s (k + 1) (dEnd s (k + 1))) : Int) := by unfold vS; rw [if_pos (by omega)]
            have v2 : vB (sub s (k + 1) (dEnd s (k + 1))) = true := by unfold vB; rw [decide_eq_true_iff]; omega
            obtain ⟨n, hn⟩ : ∃ n, vl 0 (sub s (k + 1) (dEnd s (k + 1))) = n := ⟨_, rfl⟩
            rw [hn] at c5 v1 F
            clear hm m1 m2 hg c4 hn hN g
            go_enter Tryd.func21, Tryd.ntmps21
            go_wp2_with (first | (go_at_call 31; refine (numeral_any s (k + 1) _ hs hk1).mono ?_; rintro e w' ⟨rfl, rfl⟩) | (go_at_call 32; refine (valueSub_any s (k + 1) _ hs).mono ?_; rintro e w' ⟨rfl, rfl⟩) | go_in)
            go_ret3
            exact ⟨ret3 F.out, rfl⟩
          · have F := Lib.hid (nx_errv (s := s) (k := k) (v := 3) (by rw [hN]; exact hm.2 (by omega)) (by decide))
            have v2 : vB (sub s (k + 1) (dEnd s (k + 1))) = false := by unfold vB; rw [decide_eq_false_iff_not]; exact c5
            clear hm hg c4 c5 hN g
            go_enter Tryd.func21, Tryd.ntmps21
            go_wp2_with (first | (go_at_call 31; refine (numeral_any s (k + 1) _ hs hk1).mono ?_; rintro e w' ⟨rfl, rfl⟩) | (go_at_call 32; refine (valueSub_any s (k + 1) _ hs).mono ?_; rintro e w' ⟨rfl, rfl⟩) | go_in)
            go_ret3
            exact ⟨ret3 F.out, rfl⟩
        · have F := Lib.hid (nx_errv (s := s) (k := k) (v := 5) (by rw [hN]; exact tkm_bad hk g hlt (.inr c4)) (by decide))
          have t5 : ((s[dEnd s (k + 1)].toNat : Int) != 59) = true := by
            have h1 := nat_ne c4
            have h2 : ¬ s[dEnd s (k + 1)].toNat = 59 := h1
            simp; omega
          clear hg c4 hN g
          go_enter Tryd.func21, Tryd.ntmps21
          go_wp2_with (first | (go_at_call 31; refine (numeral_any s (k + 1) _ hs hk1).mono ?_; rintro e w' ⟨rfl, rfl⟩) | go_in)
          go_ret3
          exact ⟨ret3 F.out, rfl⟩

set_option maxHeartbeats 400000 in
theorem refNum_end (s : ByteArray) (k : Nat) (w : World) (hs : s.size ≤ 140737488351232) (hk : k = s.size) :
    Calls Tryd.prog 21 #[.string s, .int .i64 k] w (tNumR s k w) := by
  have hN : nb s k = k := nb_end (by omega)
  have hE : dEnd s k = k := dEnd_over (by omega)
  have F := Lib.hid (nx_errv (s := s) (k := k) (v := 6) (by rw [hN]; exact (congrArg (fun x => x.2.2) (tk_end (s := s) (a := k) (e := dEnd s k) (m := 59) (by rw [hE]; exact hk))).symm) (by decide))
  have hk' : k ≤ s.size := by omega
  have t1 : ((dEnd s k : Int) == (s.size : Int)) = true := by rw [hE]; simp; omega
  have t0 : ¬ (k : Int) < (s.size : Int) := by omega
  have t2 : (s.size : Int) ≤ (k : Int) := by omega
  clear hN hE hk
  go_enter Tryd.func21, Tryd.ntmps21
  go_wp2_with (first | (go_at_call 31; refine (numeral_any s k _ hs hk').mono ?_; rintro e w' ⟨rfl, rfl⟩) | go_in)
  go_ret3
  exact ⟨ret3 F.out, rfl⟩

set_option maxHeartbeats 1000000 in
theorem refNum_plain (s : ByteArray) (k : Nat) (w : World) (hs : s.size ≤ 140737488351232) (hk : k < s.size) (g : ¬ s[k] = 45) :
    Calls Tryd.prog 21 #[.string s, .int .i64 k] w (tNumR s k w) := by
  have hN := nb_no hk g
  have hk1 : k ≤ s.size := by omega
  have hE1 := le_dEnd s k
  have hE2 := dEnd_le hk1
  have g' : ((s[k].toNat : Int) == 45) = false := by
    have h1 := nat_ne g
    have h2 : ¬ s[k].toNat = 45 := h1
    simp; omega
  by_cases c1 : dEnd s k = s.size
  · have F := Lib.hid (nx_errv (s := s) (k := k) (v := 6) (by rw [hN]; exact (congrArg (fun x => x.2.2) (tk_end (a := k) (m := 59) c1)).symm) (by decide))
    have t1 : ((dEnd s k : Int) == (s.size : Int)) = true := by simp; omega
    clear hN g
    go_enter Tryd.func21, Tryd.ntmps21
    go_wp2_with (first | (go_at_call 31; refine (numeral_any s k _ hs hk1).mono ?_; rintro e w' ⟨rfl, rfl⟩) | go_in)
    go_ret3
    exact ⟨ret3 F.out, rfl⟩
  · have hlt : dEnd s k < s.size := by omega
    have t1 : ((dEnd s k : Int) == (s.size : Int)) = false := by simp; omega
    by_cases c2 : dEnd s k = k
    · have F := Lib.hid (nx_errv (s := s) (k := k) (v := 5) (by rw [hN]; exact tk_bad hlt (.inl (.inl (List.length_eq_zero_iff.1 (by rw [sub_len hE2]; omega))))) (by decide))
      have t2 : ((dEnd s k : Int) == (k : Int)) = true := by simp; omega
      clear hN g
      go_enter Tryd.func21, Tryd.ntmps21
      go_wp2_with (first | (go_at_call 31; refine (numeral_any s k _ hs hk1).mono ?_; rintro e w' ⟨rfl, rfl⟩) | go_in)
      go_ret3
      exact ⟨ret3 F.out, rfl⟩
    · have t2 : ((dEnd s k : Int) == (k : Int)) = false := by simp; omega
      by_cases c3 : s[k] = 48 ∧ k + 1 < dEnd s k
      · have F := Lib.hid (nx_errv (s := s) (k := k) (v := 5) (by rw [hN]; exact tk_bad hlt (.inl (.inr ⟨by rw [sub_head hk (by omega), c3.1], by rw [sub_len hE2]; omega⟩))) (by decide))
        have t3 : ((s[k].toNat : Int) == 48) = true := by rw [c3.1]; rfl
        have t4 : (k : Int) + 1 < (dEnd s k : Int) := by omega
        have t4' : decide ((k : Int) + 1 < (dEnd s k : Int)) = true := decide_eq_true t4
        clear c3 hN g
        go_enter Tryd.func21, Tryd.ntmps21
        go_wp2_with (first | (go_at_call 31; refine (numeral_any s k _ hs hk1).mono ?_; rintro e w' ⟨rfl, rfl⟩) | go_in)
        go_ret3
        exact ⟨ret3 F.out, rfl⟩
      · have hg : Hid (¬ bad (sub s k (dEnd s k))) := Lib.hid (by
          rintro (x | ⟨x, y⟩)
          · have := sub_len (a := k) hE2
            rw [x] at this
            simp at this
            omega
          · rw [sub_head hk (by omega)] at x
            rw [sub_len hE2] at y
            exact c3 ⟨Option.some.inj x, by omega⟩)
        have t3 : ((s[k].toNat : Int) == 48) = false ∨ (((s[k].toNat : Int) == 48) = true ∧ ¬ ((k : Int) + 1 < (dEnd s k : Int))) := by
          by_cases x : s[k] = 48
          · right
            exact ⟨by rw [x]; rfl, fun y => c3 ⟨x, by omega⟩⟩
          · left
            have h1 := nat_ne x
            have h2 : ¬ s[k].toNat = 48 := h1
            simp; omega
        clear c3
        by_cases c4 : s[dEnd s k] = 59
        · have hm := tk_good (m := 59) hlt hg.out c4
          have t5 : ((s[dEnd s k].toNat : Int) != 59) = false := by rw [c4]; rfl
          by_cases c5 : vl 0 (sub s k (dEnd s k)) ≤ 9223372036854775807
          · obtain ⟨m1, m2⟩ := hm.1 c5
            have F := Lib.hid (nx_okv (s := s) (k := k) (v := (vl 0 (sub s k (dEnd s k)) : Int)) (by rw [hN]; exact m2) (by rw [hN]; exact m1))
            rw [hN] at F
            have v1 : vS (sub s k (dEnd s k)) = -(vl 0 (sub s k (dEnd s k)) : Int) := by unfold vS; rw [if_pos (by omega)]
            have v2 : vB (sub s k (dEnd s k)) = true := by unfold vB; rw [decide_eq_true_iff]; omega
            obtain ⟨n, hn⟩ : ∃ n, vl 0 (sub s k (dEnd s k)) = n := ⟨_, rfl⟩
            rw [hn] at c5 v1 F
            clear hm m1 m2 hg c4 hn hN g
            rcases t3 with t3 | ⟨t3, t4⟩
            all_goals
              go_enter Tryd.func21, Tryd.ntmps21
              go_wp2_with (first | (go_at_call 31; refine (numeral_any s k _ hs hk1).mono ?_; rintro e w' ⟨rfl, rfl⟩) | (go_at_call 32; refine (valueSub_any s k _ hs).mono ?_; rintro e w' ⟨rfl, rfl⟩) | go_in)
              go_ret3
              exact ⟨ret3 F.out, rfl⟩
          · have F := Lib.hid (nx_errv (s := s) (k := k) (v := 3) (by rw [hN]; exact hm.2 (by omega)) (by decide))
            have v2 : vB (sub s k (dEnd s k)) = false ∨ (vB (sub s k (dEnd s k)) = true ∧ vS (sub s k (dEnd s k)) = -9223372036854775808) := by
              by_cases x : vl 0 (sub s k (dEnd s k)) ≤ 9223372036854775808
              · right
                exact ⟨by unfold vB; rw [decide_eq_true_iff]; exact x, by unfold vS; rw [if_pos x]; omega⟩
              · left
                unfold vB; rw [decide_eq_false_iff_not]; exact x
            clear hm hg c4 c5 hN g
            rcases v2 with v2 | ⟨v2, v1⟩
            all_goals
              rcases t3 with t3 | ⟨t3, t4⟩
            all_goals
              go_enter Tryd.func21, Tryd.ntmps21
              go_wp2_with (first | (go_at_call 31; refine (numeral_any s k _ hs hk1).mono ?_; rintro e w' ⟨rfl, rfl⟩) | (go_at_call 32; refine (valueSub_any s k _ hs).mono ?_; rintro e w' ⟨rfl, rfl⟩) | go_in)
              go_ret3
              exact ⟨ret3 F.out, rfl⟩
        · have F := Lib.hid (nx_errv (s := s) (k := k) (v := 5) (by rw [hN]; exact tk_bad hlt (.inr c4)) (by decide))
          have t5 : ((s[dEnd s k].toNat : Int) != 59) = true := by
            have h1 := nat_ne c4
            have h2 : ¬ s[dEnd s k].toNat = 59 := h1
            simp; omega
          clear hg c4 hN g
          rcases t3 with t3 | ⟨t3, t4⟩
          all_goals
            go_enter Tryd.func21, Tryd.ntmps21
            go_wp2_with (first | (go_at_call 31; refine (numeral_any s k _ hs hk1).mono ?_; rintro e w' ⟨rfl, rfl⟩) | go_in)
            go_ret3
            exact ⟨ret3 F.out, rfl⟩
theorem refNum_in (s : ByteArray) (k : Nat) (w : World) (hs : s.size ≤ 140737488351232) (hk : k ≤ s.size) :
    Calls Tryd.prog 21 #[.string s, .int .i64 k] w (tNumR s k w) := by
  by_cases h : k < s.size
  · by_cases g : s[k] = 45
    · exact refNum_minus s k w hs h g
    · exact refNum_plain s k w hs h g
  · exact refNum_end s k w hs (by omega)
set_option maxHeartbeats 400000 in
theorem refNum_out (s : ByteArray) (k : Int) (w : World) (_h0 : -9223372036854775808 ≤ k) (_h1 : k ≤ 9223372036854775807) (hk : k < 0 ∨ s.size < k) :
    Calls Tryd.prog 21 #[.string s, .int .i64 k] w fun e w' => e = .returned (.tuple #[.int .i64 0, .int .i64 0, .int .i64 1]) ∧ w = w' := by
  rcases hk with hk | hk
  · go_enter Tryd.func21, Tryd.ntmps21
    go_wp2
    go_ret3
    exact ⟨rfl, rfl⟩
  · have h0 : ¬ k < 0 := by omega
    go_enter Tryd.func21, Tryd.ntmps21
    go_wp2
    go_ret3
    exact ⟨rfl, rfl⟩
end Go.Proofs.YtpfnameeoadbkaaDoor.PackW
