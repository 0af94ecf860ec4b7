/-
  What the reference's TakeText and TakeNumber return.
-/
import Derived.Test.YtpfnameeoadbkaaDoorPackTakes
namespace Go.Proofs.YtpfnameeoadbkaaDoor.PackW
open Go Go.RowKit Go.Proofs.YtpfnameeoadbkaaDoor.NumM Go.Proofs.YtpfnameeoadbkaaDoor.PackM

theorem take_snoc2 (s : ByteArray) (k : Nat) (h : k < s.size) : s.data.toList.take (k + 1) = s.data.toList.take k ++ [s[k]] := take_snoc s k h
theorem dgt_of {s : ByteArray} (h : s.data.toList.all dgt = true) {k : Nat} (hk : k < s.size) : 48 ≤ s[k].toNat ∧ s[k].toNat ≤ 57 := by
  rw [List.all_eq_true] at h
  have hm : s[k] ∈ s.data.toList := by
    have : s.data.toList[k]'(by simpa using hk) = s[k] := rfl
    rw [← this]; exact List.getElem_mem _
  exact dgt_iff.1 (h _ hm)
def vS (l : List UInt8) : Int := if vl 0 l ≤ 9223372036854775808 then -(vl 0 l : Int) else 0
def vB (l : List UInt8) : Bool := decide (vl 0 l ≤ 9223372036854775808)
theorem retv {a b : Int} {c d : Bool} (h : (a, c) = (b, d)) : Ending.returned (.tuple #[.int .i64 a, .bool c]) = Ending.returned (.tuple #[.int .i64 b, .bool d]) := by
  cases h; rfl
theorem quo_no {V d : Int} (h0 : 0 ≤ d) (h1 : d ≤ 9) (_hV : 0 ≤ V) (h : 9223372036854775808 < V * 10 + d) : decide (-V < (-9223372036854775808 + d).tdiv 10) = true := by
  rw [decide_eq_true_iff]
  have e : (-9223372036854775808 + d).tdiv 10 = -((9223372036854775808 - d) / 10) := by
    rw [show -9223372036854775808 + d = -(9223372036854775808 - d) by omega, Int.neg_tdiv, Int.tdiv_eq_ediv_of_nonneg (by omega)]
  rw [e]; omega
theorem quo_yes {V d : Int} (h0 : 0 ≤ d) (h1 : d ≤ 9) (_hV : 0 ≤ V) (h : V * 10 + d ≤ 9223372036854775808) : decide (-V < (-9223372036854775808 + d).tdiv 10) = false := by
  rw [decide_eq_false_iff_not]
  have e : (-9223372036854775808 + d).tdiv 10 = -((9223372036854775808 - d) / 10) := by
    rw [show -9223372036854775808 + d = -(9223372036854775808 - d) by omega, Int.neg_tdiv, Int.tdiv_eq_ediv_of_nonneg (by omega)]
  rw [e]; omega
theorem u8w {c : Int} (h0 : 48 ≤ c) (h1 : c ≤ 57) : IntKind.u8.wrap (c - 48) = c - 48 := by rw [IntKind.wrap_u8]; omega
set_option maxHeartbeats 400000 in
theorem value_any (s : ByteArray) (w : World) (hs : s.size ≤ 140737488351232) (hall : s.data.toList.all dgt = true) :
    Calls Tryd.prog 32 #[.string s] w fun e w' => e = .returned (.tuple #[.int .i64 (vS s.data.toList), .bool (vB s.data.toList)]) ∧ w = w' := by
  have DD := Lib.hid hall
  clear hall
  go_enter Tryd.func32, Tryd.ntmps32
  go_wp2
  go_loop [4, 5] (fun n i => ∃ k : Nat, k ≤ s.size ∧ i = .int .i64 k ∧ (vl 0 (s.data.toList.take k) : Int) ≤ 9223372036854775808 ∧ n = .int .i64 (-(vl 0 (s.data.toList.take k) : Int))) (fun _ i => s.size - (intOf i).toNat)
  case atStart => exact ⟨0, Nat.zero_le _, rfl, by simp [vl_nil], by simp [vl_nil]⟩
  case round =>
    obtain ⟨k, hk, rfl, hv, rfl⟩ := hrel
    by_cases hlt : k < s.size
    · have g := dgt_of DD.out hlt
      have g3 : (48 : Int) ≤ (s[k].toNat : Int) := by omega
      have g4 : (s[k].toNat : Int) ≤ 57 := by omega
      have e8 := u8w g3 g4
      have NX : Hid (vl 0 (s.data.toList.take (k + 1)) = vl 0 (s.data.toList.take k) * 10 + (s[k].toNat - 48)) := Lib.hid (by rw [take_snoc2 s k hlt, vl_snoc])
      have LE := Lib.hid (vl_take_le s.data.toList (k + 1))
      clear g
      obtain ⟨V, hV⟩ : ∃ V : Nat, vl 0 (s.data.toList.take k) = V := ⟨_, rfl⟩
      rw [hV] at hv
      rw [hV]
      have HV := Lib.hid hV
      clear hV
      by_cases gm : (V : Int) * 10 + ((s[k].toNat : Int) - 48) ≤ 9223372036854775808
      · have q := quo_yes (V := V) (d := (s[k].toNat : Int) - 48) (by omega) (by omega) (by omega) gm
        have q' := of_decide_eq_false q
        go_wp2
        go_round
        case rel => exact ⟨k + 1, by omega, by go_num, by rw [NX.out, HV.out]; omega, by rw [NX.out, HV.out]; congr 1; omega⟩
        case measure => simp [intOf]; omega
      · have q := quo_no (V := V) (d := (s[k].toNat : Int) - 48) (by omega) (by omega) (by omega) (by omega)
        have q' := of_decide_eq_true q
        have GM := Lib.hid gm
        clear gm
        go_wp2
        go_ret2
        exact ⟨retv (by
          have a := LE.out
          have b := NX.out
          have c := GM.out
          rw [HV.out] at b
          unfold vS vB
          rw [if_neg (by omega), decide_eq_false (by omega)]), rfl⟩
    · have hT : s.data.toList.take k = s.data.toList := List.take_of_length_le (by rw [len_data]; omega)
      rw [hT] at hv
      rw [hT]
      have HV := Lib.hid hv
      clear hT hv
      go_wp2
      go_ret2
      exact ⟨retv (by
        have a := HV.out
        unfold vS vB
        rw [if_pos (by omega), decide_eq_true (by omega)]), rfl⟩

def sub (s : ByteArray) (a e : Nat) : List UInt8 := (s.data.toList.drop a).take (e - a)
theorem dig_minus {l : List UInt8} (h : l.all dgt = true) : minus l = false := by
  cases l with
  | nil => rfl
  | cons a r =>
    simp only [List.all_cons, Bool.and_eq_true] at h
    unfold minus
    simp only [List.head?_cons]
    rw [Bool.eq_false_iff]
    intro hx
    simp only [beq_iff_eq, Option.some.injEq] at hx
    rw [hx, dgt_45] at h
    cases h.1
theorem dig_tl {l : List UInt8} (h : l.all dgt = true) : tl l = l := by unfold tl; rw [dig_minus h]; rfl
theorem dig_val {l : List UInt8} (h : l.all dgt = true) : valS l = (vl 0 l : Int) := by unfold valS; rw [dig_minus h, dig_tl h]; rfl
theorem sub_dEnd (s : ByteArray) (k : Nat) : sub s k (dEnd s k) = (s.data.toList.drop k).take (dgs (s.data.toList.drop k)) := by
  unfold sub dEnd
  rw [show k + dgs (s.data.toList.drop k) - k = dgs (s.data.toList.drop k) by omega]
theorem sub_all (s : ByteArray) (k : Nat) : (sub s k (dEnd s k)).all dgt = true := by rw [sub_dEnd]; exact all_dgs _
theorem sub_len {s : ByteArray} {a e : Nat} (h : e ≤ s.size) : (sub s a e).length = e - a := by
  unfold sub
  rw [List.length_take, drop_len]; omega
theorem sub_head {s : ByteArray} {a e : Nat} (h : a < s.size) (he : a < e) : (sub s a e).head? = some s[a] := by
  unfold sub
  rw [drop_at s a h, show e - a = (e - a - 1) + 1 by omega, List.take_succ_cons]; rfl
theorem valueSub_any (s : ByteArray) (k : Nat) (w : World) (hs : s.size ≤ 140737488351232) :
    Calls Tryd.prog 32 #[.string (s.extract k (dEnd s k))] w fun e w' => e = .returned (.tuple #[.int .i64 (vS (sub s k (dEnd s k))), .bool (vB (sub s k (dEnd s k)))]) ∧ w = w' := by
  have e : (s.extract k (dEnd s k)).data.toList = sub s k (dEnd s k) := ext_data _ _ _
  have h := value_any (s.extract k (dEnd s k)) w (by simp; omega) (by rw [e]; exact sub_all s k)
  rw [e] at h
  exact h
/-- A numeral that the document does not let pass. -/
def bad (l : List UInt8) : Prop := l = [] ∨ (l.head? = some 48 ∧ 1 < l.length)
theorem bad_dec {l : List UInt8} (ha : l.all dgt = true) (h : bad l) : isDec l = false := by
  unfold isDec
  rw [dig_tl ha]
  rcases h with h | ⟨h, h1⟩
  · rw [h]; rfl
  · have : (l == [48]) = false := by
      rw [beq_eq_false_iff_ne]
      intro x
      rw [x] at h1
      simp at h1
    rw [h, this]; simp
theorem good_dec {l : List UInt8} (ha : l.all dgt = true) (h : ¬ bad l) : isDec l = true := by
  unfold bad at h
  refine isDec_of (by rw [dig_tl ha]; exact ha) (by rw [dig_tl ha]; exact fun x => h (.inl x)) ?_
  rw [dig_tl ha]
  rintro ⟨a, b⟩
  refine h (.inr ⟨a, ?_⟩)
  cases l with
  | nil => simp at a
  | cons c r =>
    cases r with
    | nil =>
      simp only [List.head?_cons, Option.some.injEq] at a
      exact absurd (by rw [a]) b
    | cons d r => simp
theorem tk_bad {s : ByteArray} {k : Nat} {m : UInt8} (h : dEnd s k < s.size) (hb : bad (sub s k (dEnd s k)) ∨ ¬ s[dEnd s k] = m) : (tk s k (dEnd s k) m).2.2 = 5 := by
  by_cases hm : s[dEnd s k] = m
  · have hb' : bad (sub s k (dEnd s k)) := by
      rcases hb with hb | hb
      · exact hb
      · exact absurd hm hb
    have e : parseS (sub s k (dEnd s k)) = (0, 5) := by unfold parseS; rw [bad_dec (sub_all s k) hb']; rfl
    have f := tk_err (a := k) h hm (by rw [show (s.data.toList.drop k).take (dEnd s k - k) = sub s k (dEnd s k) from rfl, e]; decide)
    rw [show (s.data.toList.drop k).take (dEnd s k - k) = sub s k (dEnd s k) from rfl, e] at f
    have g := congrArg (fun x => x.2.2) f
    exact g.symm
  · have f := tk_mark (a := k) h hm
    exact (congrArg (fun x => x.2.2) f).symm
theorem tk_good {s : ByteArray} {k : Nat} {m : UInt8} (h : dEnd s k < s.size) (hb : ¬ bad (sub s k (dEnd s k))) (hm : s[dEnd s k] = m) :
    (vl 0 (sub s k (dEnd s k)) ≤ 9223372036854775807 → (tk s k (dEnd s k) m).1 = (vl 0 (sub s k (dEnd s k)) : Int) ∧ (tk s k (dEnd s k) m).2.2 = 0) ∧
      (9223372036854775807 < vl 0 (sub s k (dEnd s k)) → (tk s k (dEnd s k) m).2.2 = 3) := by
  have hd := good_dec (sub_all s k) hb
  have hv := dig_val (sub_all s k)
  constructor
  · intro hle
    have e : parseS (sub s k (dEnd s k)) = ((vl 0 (sub s k (dEnd s k)) : Int), 0) := by
      unfold parseS; rw [hd, if_pos rfl, hv, lim_ok (okI_iff.2 ⟨by omega, by omega⟩)]
    have f := tk_ok (a := k) h hm (by rw [show (s.data.toList.drop k).take (dEnd s k - k) = sub s k (dEnd s k) from rfl, e])
    rw [show (s.data.toList.drop k).take (dEnd s k - k) = sub s k (dEnd s k) from rfl, e] at f
    exact ⟨(congrArg (fun x => x.1) f).symm, (congrArg (fun x => x.2.2) f).symm⟩
  · intro hgt
    have e : parseS (sub s k (dEnd s k)) = (0, 3) := by
      unfold parseS; rw [hd, if_pos rfl, hv, lim_no (okI_no.2 (.inr (by omega)))]
    have f := tk_err (a := k) h hm (by rw [show (s.data.toList.drop k).take (dEnd s k - k) = sub s k (dEnd s k) from rfl, e]; decide)
    rw [show (s.data.toList.drop k).take (dEnd s k - k) = sub s k (dEnd s k) from rfl, e] at f
    exact (congrArg (fun x => x.2.2) f).symm
theorem tx_errv {s : ByteArray} {k : Nat} {v : Int} (h : (tk s k (dEnd s k) 58).2.2 = v) (hv : ¬ v = 0) : ((⟨#[]⟩ : ByteArray), (0 : Int), v) = (bs (tx s k).1, txO s k, (tx s k).2.2) := by
  have := tx_err (s := s) (k := k) (by rw [h]; exact hv)
  rw [h] at this
  exact this
def tTextR (s : ByteArray) (k : Nat) (w : World) (e : Ending) (w' : World) : Prop :=
  e = .returned (.tuple #[.string (bs (tx s k).1), .int .i64 (txO s k), .int .i64 (tx s k).2.2]) ∧ w = w'
theorem nat_eq {a b : UInt8} (h : a = b) : a.toNat = b.toNat := by rw [h]
theorem nat_ne {a b : UInt8} (h : ¬ a = b) : ¬ a.toNat = b.toNat := by rwa [UInt8.toNat_inj]

set_option maxHeartbeats 1000000 in
theorem refText_in (s : ByteArray) (k : Nat) (w : World) (hs : s.size ≤ 140737488351232) (hk : k ≤ s.size) :
    Calls Tryd.prog 19 #[.string s, .int .i64 k] w (tTextR s k w) := by
  have hE1 := le_dEnd s k
  have hE2 := dEnd_le hk
  by_cases c1 : dEnd s k = s.size
  · have F := Lib.hid (tx_errv (congrArg (fun x => x.2.2) (tk_end (a := k) (m := 58) c1)).symm (by decide))
    have t1 : ((dEnd s k : Int) == (s.size : Int)) = true := by simp; omega
    go_enter Tryd.func19, Tryd.ntmps19
    go_wp2_with (first | (go_at_call 31; refine (numeral_any s k _ hs hk).mono ?_; rintro e w' ⟨rfl, rfl⟩) | go_in)
    go_ret3
    exact ⟨rets3 F.out, rfl⟩
  · have hlt : dEnd s k < s.size := by omega
    have t1 : ((dEnd s k : Int) == (s.size : Int)) = false := by simp; omega
    by_cases c2 : dEnd s k = k
    · have F := Lib.hid (tx_errv (tk_bad (m := 58) hlt (.inl (.inl (List.length_eq_zero_iff.1 (by rw [sub_len hE2]; omega))))) (by decide))
      have t2 : ((dEnd s k : Int) == (k : Int)) = true := by simp; omega
      go_enter Tryd.func19, Tryd.ntmps19
      go_wp2_with (first | (go_at_call 31; refine (numeral_any s k _ hs hk).mono ?_; rintro e w' ⟨rfl, rfl⟩) | go_in)
      go_ret3
      exact ⟨rets3 F.out, rfl⟩
    · have t2 : ((dEnd s k : Int) == (k : Int)) = false := by simp; omega
      have hk2 : k < s.size := by omega
      by_cases c3 : s[k] = 48 ∧ k + 1 < dEnd s k
      · have F := Lib.hid (tx_errv (tk_bad (m := 58) hlt (.inl (.inr ⟨by rw [sub_head hk2 (by omega), c3.1], by rw [sub_len hE2]; omega⟩))) (by decide))
        have t3 : ((s[k].toNat : Int) == 48) = true := by rw [c3.1]; rfl
        have t4 : (k : Int) + 1 < (dEnd s k : Int) := by omega
        have t4' : decide ((k : Int) + 1 < (dEnd s k : Int)) = true := decide_eq_true t4
        clear c3
        go_enter Tryd.func19, Tryd.ntmps19
        go_wp2_with (first | (go_at_call 31; refine (numeral_any s k _ hs hk).mono ?_; rintro e w' ⟨rfl, rfl⟩) | go_in)
        go_ret3
        exact ⟨rets3 F.out, rfl⟩
      · have hg : Hid (¬ bad (sub s k (dEnd s k))) := Lib.hid (by
          rintro (x | ⟨x, y⟩)
          · have := sub_len (a := k) hE2
            rw [x] at this
            simp at this
            omega
          · rw [sub_head hk2 (by omega)] at x
            rw [sub_len hE2] at y
            exact c3 ⟨Option.some.inj x, by omega⟩)
        have t3 : ((s[k].toNat : Int) == 48) = false ∨ (((s[k].toNat : Int) == 48) = true ∧ ¬ ((k : Int) + 1 < (dEnd s k : Int))) := by
          by_cases x : s[k] = 48
          · right
            exact ⟨by rw [x]; rfl, fun y => c3 ⟨x, by omega⟩⟩
          · left
            have h1 := nat_ne x
            have h2 : ¬ s[k].toNat = 48 := h1
            simp; omega
        clear c3
        by_cases c4 : s[dEnd s k] = 58
        · have hm := tk_good (m := 58) hlt hg.out c4
          have t5 : ((s[dEnd s k].toNat : Int) != 58) = false := by rw [c4]; rfl
          by_cases c5 : vl 0 (sub s k (dEnd s k)) ≤ 9223372036854775807
          · obtain ⟨m1, m2⟩ := hm.1 c5
            have v1 : vS (sub s k (dEnd s k)) = -(vl 0 (sub s k (dEnd s k)) : Int) := by unfold vS; rw [if_pos (by omega)]
            have v2 : vB (sub s k (dEnd s k)) = true := by unfold vB; rw [decide_eq_true_iff]; omega
            obtain ⟨n, hn⟩ : ∃ n, vl 0 (sub s k (dEnd s k)) = n := ⟨_, rfl⟩
            rw [hn] at m1 c5 v1
            obtain ⟨_, _, _, hE3, _, _⟩ := tx_size hk m2
            by_cases hl : s.size - (dEnd s k + 1) < n
            · have F := Lib.hid (tx_over hk m2 m1 hl)
              clear hm m1 m2 hg c4 hn
              rcases t3 with t3 | ⟨t3, t4⟩
              all_goals
                go_enter Tryd.func19, Tryd.ntmps19
                go_wp2_with (first | (go_at_call 31; refine (numeral_any s k _ hs hk).mono ?_; rintro e w' ⟨rfl, rfl⟩) | (go_at_call 32; refine (valueSub_any s k _ hs).mono ?_; rintro e w' ⟨rfl, rfl⟩) | go_in)
                go_ret3
                exact ⟨rets3 F.out, rfl⟩
            · have F := Lib.hid (tx_ok hk m2 m1 hl)
              clear hm m1 m2 hg c4 hn
              rcases t3 with t3 | ⟨t3, t4⟩
              all_goals
                go_enter Tryd.func19, Tryd.ntmps19
                go_wp2_with (first | (go_at_call 31; refine (numeral_any s k _ hs hk).mono ?_; rintro e w' ⟨rfl, rfl⟩) | (go_at_call 32; refine (valueSub_any s k _ hs).mono ?_; rintro e w' ⟨rfl, rfl⟩) | go_in)
                go_ret3
                exact ⟨rets3 F.out, rfl⟩
          · have F := Lib.hid (tx_errv (hm.2 (by omega)) (by decide))
            have v2 : vB (sub s k (dEnd s k)) = false ∨ (vB (sub s k (dEnd s k)) = true ∧ vS (sub s k (dEnd s k)) = -9223372036854775808) := by
              by_cases x : vl 0 (sub s k (dEnd s k)) ≤ 9223372036854775808
              · right
                exact ⟨by unfold vB; rw [decide_eq_true_iff]; exact x, by unfold vS; rw [if_pos x]; omega⟩
              · left
                unfold vB; rw [decide_eq_false_iff_not]; exact x
            clear hm hg c4 c5
            rcases v2 with v2 | ⟨v2, v1⟩
            all_goals
              rcases t3 with t3 | ⟨t3, t4⟩
            all_goals
              go_enter Tryd.func19, Tryd.ntmps19
              go_wp2_with (first | (go_at_call 31; refine (numeral_any s k _ hs hk).mono ?_; rintro e w' ⟨rfl, rfl⟩) | (go_at_call 32; refine (valueSub_any s k _ hs).mono ?_; rintro e w' ⟨rfl, rfl⟩) | go_in)
              go_ret3
              exact ⟨rets3 F.out, rfl⟩
        · have F := Lib.hid (tx_errv (tk_bad (m := 58) hlt (.inr c4)) (by decide))
          have t5 : ((s[dEnd s k].toNat : Int) != 58) = true := by
            have h1 := nat_ne c4
            have h2 : ¬ s[dEnd s k].toNat = 58 := h1
            simp; omega
          clear hg c4
          rcases t3 with t3 | ⟨t3, t4⟩
          all_goals
            go_enter Tryd.func19, Tryd.ntmps19
            go_wp2_with (first | (go_at_call 31; refine (numeral_any s k _ hs hk).mono ?_; rintro e w' ⟨rfl, rfl⟩) | go_in)
            go_ret3
            exact ⟨rets3 F.out, rfl⟩
set_option maxHeartbeats 400000 in
theorem refText_out (s : ByteArray) (k : Int) (w : World) (_h0 : -9223372036854775808 ≤ k) (_h1 : k ≤ 9223372036854775807) (hk : k < 0 ∨ s.size < k) :
    Calls Tryd.prog 19 #[.string s, .int .i64 k] w fun e w' => e = .returned (.tuple #[.string ⟨#[]⟩, .int .i64 0, .int .i64 1]) ∧ w = w' := by
  rcases hk with hk | hk
  · go_enter Tryd.func19, Tryd.ntmps19
    go_wp2
    go_ret3
    exact ⟨rfl, rfl⟩
  · have h0 : ¬ k < 0 := by omega
    go_enter Tryd.func19, Tryd.ntmps19
    go_wp2
    go_ret3
    exact ⟨rfl, rfl⟩
end Go.Proofs.YtpfnameeoadbkaaDoor.PackW
