/-
  What the code's valueOf returns.
-/
import Derived.Test.YtdiackcefojfkaaGreatDoorExComp
import Derived.Lib.QuietBelow
namespace Go.Proofs.YtdiackcefojfkaaGreatDoor.ExW
open Go Go.RowKit Go.«Sort» Go.Proofs.YtdiackcefojfkaaGreatDoor.NumM Go.Proofs.YtdiackcefojfkaaGreatDoor.LexW Go.Proofs.YtdiackcefojfkaaGreatDoor.LexM Go.Proofs.YtdiackcefojfkaaGreatDoor.ExM

theorem flt_zero {lv : Nat} {o n : Int} {s : ByteArray} {k : Nat} (h : fltS ⟨lv, o, n, s, k⟩ = 0) : badA ⟨lv, o, n, s, k⟩ = false ∧ badN ⟨lv, o, n, s, k⟩ = false := by
  unfold fltS at h
  cases ha : badA ⟨lv, o, n, s, k⟩
  · rw [ha] at h
    cases hb : badN ⟨lv, o, n, s, k⟩
    · exact ⟨rfl, rfl⟩
    · rw [hb] at h; simp at h
  · rw [ha] at h; simp at h
theorem flt_takes {lv : Nat} {o n : Int} {s : ByteArray} {k : Nat} (h : fltS ⟨lv, o, n, s, k⟩ = 0) : takesS o k = true := by
  have := (flt_zero h).1
  unfold badA at this
  cases ht : takesS o k
  · simp [ht] at this
  · rfl
theorem takes_op {o : Int} {k : Nat} (h : takesS o k = true) : 1 ≤ o ∧ o ≤ 25 := by
  by_cases g : 1 ≤ o ∧ o ≤ 25
  · exact g
  · exfalso
    unfold takesS at h
    rw [if_neg (by omega), ar_out g] at h
    simp at h
theorem nm_size {l : List UInt8} (h : nmB l = true) : l.length ≤ 16 := by
  cases l with
  | nil => simp
  | cons a r =>
    unfold nmB at h
    simp only [Bool.and_eq_true, decide_eq_true_eq] at h
    simp; omega
theorem flt_name {lv : Nat} {o n : Int} {s : ByteArray} {k : Nat} (h : fltS ⟨lv, o, n, s, k⟩ = 0) (ho : o = 3 ∨ o = 24) : s.size ≤ 100 := by
  have h2 := (flt_zero h).2
  unfold badN at h2
  have ha : isAr o = true := by unfold isAr; rcases ho with rfl | rfl <;> rfl
  simp only [ha, Bool.true_and, Bool.or_eq_false_iff, Bool.not_eq_false'] at h2
  have := nm_size h2.2
  rw [len_data] at this
  omega
/-- The operators that are computed from the operands. -/
theorem comp_any (o : Int) (l : List Int) (b : Nat) (w : World) (h : IntsAt w b 0 l) (hw : Wd l) (ht : takesS o l.length = true) (ha : asksB o = false) :
    Calls Tryz.prog 69 #[.int .i64 o, .slice (some ⟨b, 0, none⟩) l.length 33] w (tInt (opS o l) w) := by
  have ho := takes_op ht
  by_cases h23 : o = 23
  · subst h23
    unfold takesS at ht
    simp only [if_true, decide_eq_true_eq] at ht
    cases l with
    | nil => simp at ht
    | cons a r =>
      simp only [List.length_cons] at ht
      exact comp23 a r b w h (by omega) (by omega)
  · unfold takesS at ht
    rw [if_neg h23, decide_eq_true_eq] at ht
    have h1 : o ≠ 1 ∧ o ≠ 2 ∧ o ≠ 3 ∧ o ≠ 24 := by
      unfold asksB isVr isAr at ha
      simp only [Bool.or_eq_false_iff, decide_eq_false_iff_not] at ha
      exact ⟨ha.1, ha.2.1, ha.2.2.1, ha.2.2.2⟩
    rcases cases25 ho with rfl | rfl | rfl | rfl | rfl | rfl | rfl | rfl | rfl | rfl | rfl | rfl | rfl | rfl | rfl | rfl | rfl | rfl | rfl | rfl | rfl | rfl | rfl | rfl | rfl
    · exfalso; omega
    · exfalso; omega
    · exfalso; omega
    · have hl : l.length = 1 := by rw [show arS 4 = 1 from rfl] at ht; omega
      match l, hl with
      | [a], _ => exact comp4 a b w h
    · have hl : l.length = 1 := by rw [show arS 5 = 1 from rfl] at ht; omega
      match l, hl with
      | [a], _ => exact comp5 a b w h
    · have hl : l.length = 1 := by rw [show arS 6 = 1 from rfl] at ht; omega
      match l, hl with
      | [a], _ => exact comp6 a b w h
    · have hl : l.length = 2 := by rw [show arS 7 = 2 from rfl] at ht; omega
      match l, hl with
      | [a, c], _ => exact comp7 a c b w h
    · have hl : l.length = 2 := by rw [show arS 8 = 2 from rfl] at ht; omega
      match l, hl with
      | [a, c], _ => exact comp8 a c b w h
    · have hl : l.length = 2 := by rw [show arS 9 = 2 from rfl] at ht; omega
      match l, hl with
      | [a, c], _ => exact comp9 a c b w h
    · have hl : l.length = 2 := by rw [show arS 10 = 2 from rfl] at ht; omega
      match l, hl with
      | [a, c], _ => exact comp10 a c b w h (hw a (by simp)).1 (hw a (by simp)).2 (hw c (by simp)).1 (hw c (by simp)).2
    · have hl : l.length = 2 := by rw [show arS 11 = 2 from rfl] at ht; omega
      match l, hl with
      | [a, c], _ => exact comp11 a c b w h (hw a (by simp)).1 (hw a (by simp)).2 (hw c (by simp)).1 (hw c (by simp)).2
    · have hl : l.length = 2 := by rw [show arS 12 = 2 from rfl] at ht; omega
      match l, hl with
      | [a, c], _ => exact comp12 a c b w h (hw a (by simp)).1 (hw a (by simp)).2 (hw c (by simp)).1 (hw c (by simp)).2
    · have hl : l.length = 2 := by rw [show arS 13 = 2 from rfl] at ht; omega
      match l, hl with
      | [a, c], _ => exact comp13 a c b w h
    · have hl : l.length = 2 := by rw [show arS 14 = 2 from rfl] at ht; omega
      match l, hl with
      | [a, c], _ => exact comp14 a c b w h
    · have hl : l.length = 2 := by rw [show arS 15 = 2 from rfl] at ht; omega
      match l, hl with
      | [a, c], _ => exact comp15 a c b w h
    · have hl : l.length = 2 := by rw [show arS 16 = 2 from rfl] at ht; omega
      match l, hl with
      | [a, c], _ => exact comp16 a c b w h
    · have hl : l.length = 2 := by rw [show arS 17 = 2 from rfl] at ht; omega
      match l, hl with
      | [a, c], _ => exact comp17 a c b w h
    · have hl : l.length = 2 := by rw [show arS 18 = 2 from rfl] at ht; omega
      match l, hl with
      | [a, c], _ => exact comp18 a c b w h
    · have hl : l.length = 2 := by rw [show arS 19 = 2 from rfl] at ht; omega
      match l, hl with
      | [a, c], _ => exact comp19 a c b w h
    · have hl : l.length = 2 := by rw [show arS 20 = 2 from rfl] at ht; omega
      match l, hl with
      | [a, c], _ => exact comp20 a c b w h
    · have hl : l.length = 2 := by rw [show arS 21 = 2 from rfl] at ht; omega
      match l, hl with
      | [a, c], _ => exact comp21 a c b w h
    · have hl : l.length = 3 := by rw [show arS 22 = 3 from rfl] at ht; omega
      match l, hl with
      | [a, c, d], _ => exact comp22 a c d b w h
    · exact absurd rfl h23
    · exfalso; omega
    · have hl : l.length = 1 := by rw [show arS 25 = 1 from rfl] at ht; omega
      match l, hl with
      | [a], _ => exact comp25 a b w h
theorem reB {P : Program} {f : FuncId} {args : Array Value} {w : World} {v : Value} (C : ∀ W, Below w.heap.size w W → Calls P f args W fun e w' => e = .returned v ∧ Below W.heap.size W w') (d : Nat) (os : Array Obj) :
    Calls P f args (grow (redrawn w d) os) fun e w'' => e = .returned v ∧ ∃ p : Regrown, w'' = grow (redrawn w p.d) p.os :=
  Calls.regrown_of (C _ (below_regrown w d os))
set_option maxRecDepth 100000 in
set_option maxHeartbeats 4000000 in
theorem valueOf_any (env : Env) (ev : Value) (o n : Int) (s : ByteArray) (p : Option Addr) (cap : Nat) (l : List Int) (b : Nat) (w : World) (hE : SigsAt w ev env) (hI : IntsAt w b 0 l) (hw : Wd l) (hf : fltS ⟨0, o, n, s, l.length⟩ = 0) :
    Calls Tryz.prog 47 #[xv o n s (.slice p l.length cap), .slice (some ⟨b, 0, none⟩) l.length 33, ev] w (tIB (valS env o n s l) (knwS env o s) w) := by
  obtain ⟨K, hK⟩ : ∃ K, l.length = K := ⟨_, rfl⟩
  rw [hK] at hf ⊢
  have ht := flt_takes hf
  have ho := takes_op ht
  have HB0 : Hid (Below w.heap.size w (w.alloc (.cells #[.int .i64 o, .int .i64 n, .string s, .slice p K cap] 24))) := Lib.hid ((Below.refl _ _).alloc (Nat.le_refl _) _)
  by_cases h1 : o = 1
  · subst h1
    have EE : Hid (valS env 1 n s l = n ∧ knwS env 1 s = true) := Lib.hid ⟨rfl, rfl⟩
    clear hE hI hf ht ho hw
    go_enter Tryz.func47, Tryz.ntmps47
    go_wp2
    go_ret2
    exact tIB_mk EE.out.1.symm EE.out.2.symm HB0.out
  by_cases h2 : o = 2
  · subst h2
    have EE : Hid (valS env 2 n s l = fnd env s ∧ knwS env 2 s = hasN env s) := Lib.hid ⟨rfl, rfl⟩
    have VC := Lib.hid (variable_any env ev s _ (hE.later HB0.out))
    clear hE hI hf ht ho hw h1
    go_enter Tryz.func47, Tryz.ntmps47
    go_wp2_with (go_at_call 66; ((with_reducible refine VC.out.mono ?_); rintro e w1 ⟨rfl, hb⟩; have HB1 := Lib.hid (HB0.out.then_ hb); clear hb))
    go_ret2
    exact tIB_mk EE.out.1.symm EE.out.2.symm HB1.out
  by_cases h3 : o = 3
  · subst h3
    have hs := flt_name hf (.inl rfl)
    obtain rfl : K = 1 := by
      unfold takesS at ht
      rw [if_neg (by decide), decide_eq_true_eq, show arS 3 = 1 from rfl] at ht
      omega
    match l, hK with
    | [a], _ =>
      have ha := hw a (by simp)
      have EE : Hid (valS env 3 n s [a] = elS env s a ∧ knwS env 3 s = hasN env (elmN s 0)) := Lib.hid ⟨rfl, rfl⟩
      have E0 := Lib.hid (element_any env ev s 0 _ (hE.later HB0.out) hs (by omega))
      have EA : Hid (∀ W, Below w.heap.size w W → Calls Tryz.prog 67 #[ev, .string s, .int .i64 a] W (tIB (elS env s a) (decide (a ≤ 7) && hasN env (elmN s a.toNat)) W)) := Lib.hid fun W hb => element_any env ev s a W (hE.later hb) hs ha.1
      have c0 : w.cell? ⟨b, 0, none⟩ = some (.int .i64 a) := by simpa using hI.cell 0 a rfl
      have hbl := hI.lt
      have four := Four.new w (.int .i64 3) (.int .i64 n) (.string s) (.slice p 1 cap) 24
      generalize (decide (a ≤ 7) && hasN env (elmN s a.toNat)) = q at *
      clear hE hI hf ht ho hw ha h1 h2
      go_enter Tryz.func47, Tryz.ntmps47
      go_wp2_with (go_at_call 67; ((with_reducible refine E0.out.mono ?_); rintro e w1 ⟨rfl, hb⟩; have HB1 := Lib.hid hb; clear hb))
      have f1 := four.stay HB1.out
      have hb2 := HB0.out.then_ HB1.out
      have HB2 := Lib.hid hb2
      have k0 := cell_regrown f1.c0
      have k2 := cell_regrown f1.c2
      have k4 := cell_regrown ((hb2.cell (p := ⟨b, 0, none⟩) hbl).trans c0)
      have EC := reB (v := .tuple #[.int .i64 (elS env s a), .bool q]) (fun W hW => EA.out W (HB2.out.then_ hW))
      clear four f1 hb2
      refine wp_region_quiet_below (by kernel_rfl) (by kernel_rfl) ?_
      repeat (first | go_big_quiet_step (exact EC _ _) | quiet_step (exact EC _ _))
      refine wpQuiet_nil ?_
      intro w4 hw'
      obtain ⟨pq, hw''⟩ := hw'
      have HX : Hid (Below w1.heap.size w1 w4) := Lib.hid (by rw [hw'']; exact below_regrown _ _ _)
      clear hw'' k0 k2 k4 EC
      go_wp2
      go_ret2
      exact tIB_mk EE.out.1.symm EE.out.2.symm (HB2.out.then_ HX.out)
  by_cases h24 : o = 24
  · subst h24
    have hs := flt_name hf (.inr rfl)
    have EE : Hid (valS env 24 n s l = sumK env s 8 ∧ knwS env 24 s = hasN env (elmN s 0)) := Lib.hid ⟨rfl, rfl⟩
    have E0 := Lib.hid (element_any env ev s 0 _ (hE.later HB0.out) hs (by omega))
    have SC : Hid (∀ W, Below w.heap.size w W → Calls Tryz.prog 68 #[ev, .string s] W (tInt (sumK env s 8) W)) := Lib.hid fun W hb => sum_any env ev s W (hE.later hb) hs
    have four := Four.new w (.int .i64 24) (.int .i64 n) (.string s) (.slice p K cap) 24
    clear hE hI hf ht ho hw h1 h2 h3
    go_enter Tryz.func47, Tryz.ntmps47
    go_wp2_with (first
      | (go_at_call 67; ((with_reducible refine E0.out.mono ?_); rintro e w1 ⟨rfl, hb⟩; have f1 := four.stay hb; have hc2 := f1.c2; have HB1 := Lib.hid (HB0.out.then_ hb); clear hb f1))
      | (go_at_call 68; ((with_reducible refine (SC.out _ HB1.out).mono ?_); rintro e w2 ⟨rfl, hb⟩; have HB2 := Lib.hid (HB1.out.then_ hb); clear hb)))
    go_ret2
    exact tIB_mk EE.out.1.symm EE.out.2.symm HB2.out
  have ha : asksB o = false := by
    unfold asksB isVr isAr
    simp [h1, h2, h3, h24]
  have EE : Hid (valS env o n s l = opS o l ∧ knwS env o s = true) := Lib.hid ⟨by unfold ExM.valS; rw [if_neg h1, if_neg h2, if_neg h3, if_neg h24], by unfold knwS; rw [if_neg h2, if_neg (by omega)]⟩
  have CC : Hid (Calls Tryz.prog 69 #[.int .i64 o, .slice (some ⟨b, 0, none⟩) K 33] (w.alloc (.cells #[.int .i64 o, .int .i64 n, .string s, .slice p K cap] 24)) (tInt (opS o l) (w.alloc (.cells #[.int .i64 o, .int .i64 n, .string s, .slice p K cap] 24)))) :=
    Lib.hid (by rw [← hK] at ht ⊢; exact comp_any o l b _ (hI.later (by rw [hK]; exact HB0.out)) hw ht ha)
  have f1 : (o == 1) = false := by rw [beq_eq_false_iff_ne]; exact h1
  have f2 : (o == 2) = false := by rw [beq_eq_false_iff_ne]; exact h2
  have f3 : (o == 3) = false := by rw [beq_eq_false_iff_ne]; exact h3
  have f24 : (o == 24) = false := by rw [beq_eq_false_iff_ne]; exact h24
  clear hE hI hf ht ho hw h1 h2 h3 h24 ha hK
  go_enter Tryz.func47, Tryz.ntmps47
  go_wp2_with (go_at_call 69; ((with_reducible refine CC.out.mono ?_); rintro e w1 ⟨rfl, hb⟩; have HB1 := Lib.hid (HB0.out.then_ hb); clear hb))
  go_ret2
  exact tIB_mk EE.out.1.symm EE.out.2.symm HB1.out
end Go.Proofs.YtdiackcefojfkaaGreatDoor.ExW
