/-
  The law PackCanonical, walked.
-/
import Derived.Test.YtpfnameeoadbkaaDoorPackLaws
import Derived.Deep.RegionHeld3
import Derived.Lib.QuietBelow
namespace Go.Proofs.YtpfnameeoadbkaaDoor.PackW
open Go Go.Sort Go.RowKit Go.Proofs.YtpfnameeoadbkaaDoor.NumM Go.Proofs.YtpfnameeoadbkaaDoor.PackM

theorem Tab.drew {w : World} (h : Tab w) : Tab w.drew := h.later ((Below.refl _ _).drew)
theorem ext_pre {s : ByteArray} {j c : Nat} {l q : List UInt8} (h : s.data.toList.drop j = l ++ q) (hc : c = j + l.length) : s.extract j c = bs l := by
  refine bs_inj ?_
  rw [ext_data, h, hc, show j + l.length - j = l.length by omega, List.take_left]
theorem tx_form {s : ByteArray} {k : Nat} (hk : k ≤ s.size) (h : (tx s k).2.2 = 0) : ∃ c : Nat, txO s k = c ∧ c ≤ s.size ∧ k ≤ c ∧ s.extract k c = bs (textP (tx s k).1) ∧ (tx s k).1.length ≤ s.size := by
  obtain ⟨c, h1, h2, h3, h4⟩ := tx_len hk h
  obtain ⟨q, e, l⟩ := textL_ok h
  have l' : (tx s k).2.1 = (textP (tx s k).1).length := l
  refine ⟨c, h1, h3, by omega, ext_pre e (by rw [← h2, l']), ?_⟩
  have hl := congrArg List.length e
  rw [drop_len, List.length_append] at hl
  have : (textP (tx s k).1).length = (Lib.itoa ((tx s k).1.length : Int)).length + ((tx s k).1.length + 1) := by unfold textP; rw [List.length_append, List.length_cons]
  have e2 : (textL (s.data.toList.drop k)).1 = (tx s k).1 := rfl
  rw [e2] at hl
  omega
theorem nx_form {s : ByteArray} {k : Nat} (hk : k ≤ s.size) (h : (nx s k).2.2 = 0) : ∃ c : Nat, nxO s k = c ∧ c ≤ s.size ∧ k ≤ c ∧ s.extract k c = bs (numP (nx s k).1) ∧ -9223372036854775808 ≤ (nx s k).1 ∧ (nx s k).1 ≤ 9223372036854775807 := by
  obtain ⟨c, h1, h2, h3, h4, h5⟩ := nx_size hk h
  obtain ⟨q, e, l, _, _⟩ := numL_ok h
  have l' : (nx s k).2.1 = (numP (nx s k).1).length := l
  exact ⟨c, h1, h3, by omega, ext_pre e (by rw [← h2, l']), h4, h5⟩
theorem part_len {xs : List (List UInt8)} {y : List UInt8} (h : y ∈ xs) : y.length ≤ (listP xs).length := by
  have h2 : ∀ zs : List (List UInt8), y ∈ zs → y.length ≤ ((zs.map textP).flatten).length := by
    intro zs
    induction zs with
    | nil => intro h; cases h
    | cons z r ih =>
      intro h
      have e : (((z :: r).map textP).flatten).length = (textP z).length + ((r.map textP).flatten).length := by simp
      rw [e]
      rcases List.mem_cons.1 h with e2 | e2
      · have : (textP z).length = (Lib.itoa (z.length : Int)).length + (z.length + 1) := by unfold textP; rw [List.length_append, List.length_cons]
        rw [e2]; omega
      · have := ih e2; omega
  have := h2 xs h
  unfold listP
  rw [List.length_append]; omega
theorem lx_form {s : ByteArray} {k : Nat} {most : Int} (hk : k ≤ s.size) (h : (lx s k most).2.2 = 0) :
    ∃ c : Nat, lxO s k most = c ∧ c ≤ s.size ∧ k ≤ c ∧ s.extract k c = bs (listP (lx s k most).1) ∧ ((lx s k most).1.length : Int) ≤ most ∧ (listP (lx s k most).1).length ≤ s.size := by
  obtain ⟨q, e, l, hm⟩ := listL_ok h
  have l' : (lx s k most).2.1 = k + (listP (lx s k most).1).length := l
  have hl := congrArg List.length e
  rw [drop_len, List.length_append] at hl
  have e2 : (listL (s.data.toList.drop k) most k).1 = (lx s k most).1 := rfl
  rw [e2] at hl
  exact ⟨(lx s k most).2.1, by unfold lxO; rw [if_pos h], by omega, by omega, ext_pre e l', hm, by omega⟩
/-- A later world of the call: what the listed variables give, and below the heap's old size nothing has turned. -/
structure Good (w w' : World) : Prop where
  tab : Tab w'
  bel : Below w.heap.size w w'
theorem Good.refl {w : World} (h : Tab w) : Good w w := ⟨h, Below.refl _ _⟩
theorem Good.drew {w w' : World} (h : Good w w') : Good w w'.drew := ⟨h.tab.drew, h.bel.drew⟩
theorem Good.step {w w1 w2 : World} (h : Good w w1) (hb : Below w1.heap.size w1 w2) : Good w w2 := ⟨h.tab.later hb, h.bel.trans (hb.mono h.bel.size)⟩
theorem Good.alloc {w w1 : World} (h : Good w w1) (o : Obj) : Good w (w1.alloc o) := h.step ((Below.refl _ _).alloc (Nat.le_refl _) _)
theorem text_good {w0 : World} (s : ByteArray) (w : World) (hs : s.size ≤ 140737488351232) (h : Good w0 w) :
    Calls Tryd.prog 11 #[.string s] w fun e w' => e = .returned (.string (bs (textP s.data.toList))) ∧ Good w0 w' :=
  (text_any s w hs h.tab).mono fun _ _ ⟨he, hb⟩ => ⟨he, h.step hb⟩
theorem number_good {w0 : World} (n : Int) (w : World) (h0 : -9223372036854775808 ≤ n) (h1 : n ≤ 9223372036854775807) (h : Good w0 w) :
    Calls Tryd.prog 13 #[.int .i64 n] w fun e w' => e = .returned (.string (bs (numP n))) ∧ Good w0 w' :=
  (number_any n w h0 h1 h.tab).mono fun _ _ ⟨he, hb⟩ => ⟨he, h.step hb⟩
theorem awake_good {w0 : World} (w : World) (h : Good w0 w) : Calls Tryd.prog 17 #[] w fun e w' => e = .returned (.bool true) ∧ Good w0 w' :=
  (awake_any w h.tab).mono fun _ _ ⟨he, hb⟩ => ⟨he, h.step hb⟩
theorem list_good {w0 : World} (w : World) (v : Value) (ys : List (List UInt8)) (hsz : ∀ y ∈ ys, y.length ≤ 140737488351232) (hn : ys.length ≤ 1000000) (hl : (listP ys).length ≤ 281474976710656) (h : Good w0 w ∧ StrsAt w v ys) :
    Calls Tryd.prog 15 #[v] w fun e w' => e = .returned (.string (bs (listP ys))) ∧ Good w0 w' ∧ StrsAt w' v ys :=
  (list_any w v ys h.2 hsz hn hl h.1.tab).mono fun _ _ ⟨he, hb⟩ => ⟨he, h.1.step hb, h.2.later hb⟩
theorem awake_strs {w0 : World} (w : World) (v : Value) (ys : List (List UInt8)) (h : Good w0 w ∧ StrsAt w v ys) : Calls Tryd.prog 17 #[] w fun e w' => e = .returned (.bool true) ∧ Good w0 w' ∧ StrsAt w' v ys :=
  (awake_any w h.1.tab).mono fun _ _ ⟨he, hb⟩ => ⟨he, h.1.step hb, h.2.later hb⟩
theorem both_drew {w0 w : World} {v : Value} {ys : List (List UInt8)} (h : Good w0 w) (hs : StrsAt w v ys) : Good w0 w.drew ∧ StrsAt w.drew v ys := ⟨h.drew, hs.later ((Below.refl _ _).drew)⟩
theorem canon_sizes {s : ByteArray} {k : Nat} (hs : s.size ≤ 140737488351232) (h : ((lx s k 1000).1.length : Int) ≤ 1000 ∧ (listP (lx s k 1000).1).length ≤ s.size) :
    (∀ y ∈ (lx s k 1000).1, y.length ≤ 140737488351232) ∧ (lx s k 1000).1.length ≤ 1000000 ∧ (listP (lx s k 1000).1).length ≤ 281474976710656 :=
  ⟨fun y hy => by have := part_len hy; omega, by omega, by omega⟩
theorem awake_q (w : World) (h : Tab w) (d : Nat) (os : Array Obj) : Calls Tryd.prog 17 #[] (grow (redrawn w d) os) fun e w'' => e = .returned (.bool true) ∧ ∃ p : Regrown, w'' = grow (redrawn w p.d) p.os :=
  Calls.regrown_of (awake_any _ (h.later (below_regrown w d os)))
set_option maxHeartbeats 2000000 in
theorem canon_111 (s : ByteArray) (k : Nat) (w : World) (hs : s.size ≤ 140737488351232) (hk : k ≤ s.size) (ht : Tab w) (g1 : (tx s k).2.2 = 0) (g2 : (nx s k).2.2 = 0) (g3 : (lx s k 1000).2.2 = 0) :
    Calls Tryd.prog 8 #[.string s, .int .i64 k] w fun e w' => e = .returned (.bool true) ∧ Below w.heap.size w w' := by
  have G0 := Lib.hid (Good.refl ht)
  clear ht
  obtain ⟨c1, t1, t2, t3, t4, t5⟩ := tx_form hk g1
  have h1 : ((tx s k).2.2 == 0) = true := by rw [g1]; rfl
  have T5 : (bs (tx s k).1).size ≤ 140737488351232 := by rw [← len_data]; show (tx s k).1.length ≤ _; omega
  have i1 : ¬ (c1 : Int) < (k : Int) := by omega
  have i1' : decide ((c1 : Int) < (k : Int)) = false := decide_eq_false i1
  have i1n : decide (c1 < k) = false := decide_eq_false (by omega)
  have i2n : decide (s.size < c1) = false := decide_eq_false (by omega)
  have i2 : ¬ (s.size : Int) < (c1 : Int) := by omega
  have i2' : decide ((s.size : Int) < (c1 : Int)) = false := decide_eq_false i2
  obtain ⟨c2, n1, n2, n3, n4, n5, n6⟩ := nx_form hk g2
  have h2 : ((nx s k).2.2 == 0) = true := by rw [g2]; rfl
  have j1 : ¬ (c2 : Int) < (k : Int) := by omega
  have j1' : decide ((c2 : Int) < (k : Int)) = false := decide_eq_false j1
  have j1n : decide (c2 < k) = false := decide_eq_false (by omega)
  have j2n : decide (s.size < c2) = false := decide_eq_false (by omega)
  have j2 : ¬ (s.size : Int) < (c2 : Int) := by omega
  have j2' : decide ((s.size : Int) < (c2 : Int)) = false := decide_eq_false j2
  obtain ⟨c3, l1, l2, l3, l4, l5, l6⟩ := lx_form hk g3
  have h3 : ((lx s k 1000).2.2 != 0) = false := by rw [g3]; rfl
  have m1 : (k : Int) ≤ (c3 : Int) := by omega
  have m1' : decide ((k : Int) ≤ (c3 : Int)) = true := decide_eq_true m1
  have m1n : decide (k ≤ c3) = true := decide_eq_true (by omega)
  have m2n : decide (c3 ≤ s.size) = true := decide_eq_true (by omega)
  have m2 : (c3 : Int) ≤ (s.size : Int) := by omega
  have m2' : decide ((c3 : Int) ≤ (s.size : Int)) = true := decide_eq_true m2
  have L := Lib.hid (And.intro l5 l6)
  clear l5 l6
  clear g1 g2 g3
  go_enter Tryd.func8, Tryd.ntmps8
  go_wp2_with (first
    | (go_at_call 18; refine (takeText_in s k _ hs hk G0.out.tab).mono ?_; rintro e w1 ⟨rfl, hb1⟩; have G1 : Hid (Good w w1) := Lib.hid (G0.out.step hb1))
    | fail)
  go_region_held3 (fun w' => Good w w') (first | assumption | exact G1.out.drew)
    (first | (go_at_call 11; refine (text_good (w0 := w) (bs (tx s k).1) _ T5 ?_).mono ?_; (first | assumption | exact G1.out.drew); rintro e w2 ⟨rfl, hg2⟩))
  have G2 : Hid (Good w w2) := Lib.hid hg2
  go_wp2_with (first
    | (go_at_call 20; refine (takeNum_in s k _ hs hk G2.out.tab).mono ?_; rintro e w3 ⟨rfl, hb3⟩; have G3 : Hid (Good w w3) := Lib.hid (G2.out.step hb3))
    | fail)
  go_region_held3 (fun w' => Good w w') (first | assumption | exact G3.out.drew)
    (first | (go_at_call 13; refine (number_good (w0 := w) (nx s k).1 _ n5 n6 ?_).mono ?_; (first | assumption | exact G3.out.drew); rintro e w4 ⟨rfl, hg4⟩))
  have G4 : Hid (Good w w4) := Lib.hid hg4
  go_wp2_with (first
    | (go_at_call 22; refine (takeList_in s k 1000 _ hs hk (by decide) (by decide) (.inr (by decide)) G4.out.tab).mono ?_; rintro e w5 ⟨v5, rfl, hv5, hb5⟩; have HV := Lib.hid hv5; clear hv5; have G5 : Hid (Good w w5) := Lib.hid (G4.out.step hb5))
    | fail)
  have SZ := Lib.hid (canon_sizes hs L.out)
  go_region_held3 (fun w' => Good w w' ∧ StrsAt w' v5 (lx s k 1000).1) (first | assumption | exact both_drew G5.out HV.out)
    (first
      | (go_at_call 15; refine (list_good (w0 := w) _ v5 (lx s k 1000).1 SZ.out.1 SZ.out.2.1 SZ.out.2.2 ?_).mono ?_; (first | assumption | exact both_drew G5.out HV.out); rintro e w6 ⟨rfl, hg6⟩)
      | (go_at_call 17; refine (awake_strs (w0 := w) _ v5 (lx s k 1000).1 ?_).mono ?_; (first | assumption | exact both_drew G5.out HV.out); rintro e w7 ⟨rfl, hg7⟩))
  go_wp2
  go_ret
  exact ⟨rfl, hg7.1.bel⟩
set_option maxHeartbeats 2000000 in
theorem canon_110 (s : ByteArray) (k : Nat) (w : World) (hs : s.size ≤ 140737488351232) (hk : k ≤ s.size) (ht : Tab w) (g1 : (tx s k).2.2 = 0) (g2 : (nx s k).2.2 = 0) (g3 : ¬ (lx s k 1000).2.2 = 0) :
    Calls Tryd.prog 8 #[.string s, .int .i64 k] w fun e w' => e = .returned (.bool true) ∧ Below w.heap.size w w' := by
  have G0 := Lib.hid (Good.refl ht)
  clear ht
  obtain ⟨c1, t1, t2, t3, t4, t5⟩ := tx_form hk g1
  have h1 : ((tx s k).2.2 == 0) = true := by rw [g1]; rfl
  have T5 : (bs (tx s k).1).size ≤ 140737488351232 := by rw [← len_data]; show (tx s k).1.length ≤ _; omega
  have i1 : ¬ (c1 : Int) < (k : Int) := by omega
  have i1' : decide ((c1 : Int) < (k : Int)) = false := decide_eq_false i1
  have i1n : decide (c1 < k) = false := decide_eq_false (by omega)
  have i2n : decide (s.size < c1) = false := decide_eq_false (by omega)
  have i2 : ¬ (s.size : Int) < (c1 : Int) := by omega
  have i2' : decide ((s.size : Int) < (c1 : Int)) = false := decide_eq_false i2
  obtain ⟨c2, n1, n2, n3, n4, n5, n6⟩ := nx_form hk g2
  have h2 : ((nx s k).2.2 == 0) = true := by rw [g2]; rfl
  have j1 : ¬ (c2 : Int) < (k : Int) := by omega
  have j1' : decide ((c2 : Int) < (k : Int)) = false := decide_eq_false j1
  have j1n : decide (c2 < k) = false := decide_eq_false (by omega)
  have j2n : decide (s.size < c2) = false := decide_eq_false (by omega)
  have j2 : ¬ (s.size : Int) < (c2 : Int) := by omega
  have j2' : decide ((s.size : Int) < (c2 : Int)) = false := decide_eq_false j2
  have h3 : ((lx s k 1000).2.2 != 0) = true := by simpa using g3
  clear g1 g2 g3
  go_enter Tryd.func8, Tryd.ntmps8
  go_wp2_with (first
    | (go_at_call 18; refine (takeText_in s k _ hs hk G0.out.tab).mono ?_; rintro e w1 ⟨rfl, hb1⟩; have G1 : Hid (Good w w1) := Lib.hid (G0.out.step hb1))
    | fail)
  go_region_held3 (fun w' => Good w w') (first | assumption | exact G1.out.drew)
    (first | (go_at_call 11; refine (text_good (w0 := w) (bs (tx s k).1) _ T5 ?_).mono ?_; (first | assumption | exact G1.out.drew); rintro e w2 ⟨rfl, hg2⟩))
  have G2 : Hid (Good w w2) := Lib.hid hg2
  go_wp2_with (first
    | (go_at_call 20; refine (takeNum_in s k _ hs hk G2.out.tab).mono ?_; rintro e w3 ⟨rfl, hb3⟩; have G3 : Hid (Good w w3) := Lib.hid (G2.out.step hb3))
    | fail)
  go_region_held3 (fun w' => Good w w') (first | assumption | exact G3.out.drew)
    (first | (go_at_call 13; refine (number_good (w0 := w) (nx s k).1 _ n5 n6 ?_).mono ?_; (first | assumption | exact G3.out.drew); rintro e w4 ⟨rfl, hg4⟩))
  have G4 : Hid (Good w w4) := Lib.hid hg4
  go_wp2_with (first
    | (go_at_call 22; refine (takeList_in s k 1000 _ hs hk (by decide) (by decide) (.inr (by decide)) G4.out.tab).mono ?_; rintro e w5 ⟨v5, rfl, hv5, hb5⟩; have HV := Lib.hid hv5; clear hv5; have G5 : Hid (Good w w5) := Lib.hid (G4.out.step hb5))
    | fail)
  have cA := awake_q w5 G5.out.tab
  refine wp_region_quiet_below (by kernel_rfl) (by kernel_rfl) ?_
  repeat (first | go_big_quiet_step (exact cA _ _) | quiet_step (exact cA _ _))
  refine wpQuiet_nil ?_
  intro _ hw'
  obtain ⟨⟨dq, osq⟩, hw''⟩ := hw'
  subst hw''
  go_wp2
  go_ret
  exact ⟨rfl, (G5.out.step (below_regrown w5 dq osq)).bel⟩
set_option maxHeartbeats 2000000 in
theorem canon_101 (s : ByteArray) (k : Nat) (w : World) (hs : s.size ≤ 140737488351232) (hk : k ≤ s.size) (ht : Tab w) (g1 : (tx s k).2.2 = 0) (g2 : ¬ (nx s k).2.2 = 0) (g3 : (lx s k 1000).2.2 = 0) :
    Calls Tryd.prog 8 #[.string s, .int .i64 k] w fun e w' => e = .returned (.bool true) ∧ Below w.heap.size w w' := by
  have G0 := Lib.hid (Good.refl ht)
  clear ht
  obtain ⟨c1, t1, t2, t3, t4, t5⟩ := tx_form hk g1
  have h1 : ((tx s k).2.2 == 0) = true := by rw [g1]; rfl
  have T5 : (bs (tx s k).1).size ≤ 140737488351232 := by rw [← len_data]; show (tx s k).1.length ≤ _; omega
  have i1 : ¬ (c1 : Int) < (k : Int) := by omega
  have i1' : decide ((c1 : Int) < (k : Int)) = false := decide_eq_false i1
  have i1n : decide (c1 < k) = false := decide_eq_false (by omega)
  have i2n : decide (s.size < c1) = false := decide_eq_false (by omega)
  have i2 : ¬ (s.size : Int) < (c1 : Int) := by omega
  have i2' : decide ((s.size : Int) < (c1 : Int)) = false := decide_eq_false i2
  have h2 : ((nx s k).2.2 == 0) = false := by simpa using g2
  obtain ⟨c3, l1, l2, l3, l4, l5, l6⟩ := lx_form hk g3
  have h3 : ((lx s k 1000).2.2 != 0) = false := by rw [g3]; rfl
  have m1 : (k : Int) ≤ (c3 : Int) := by omega
  have m1' : decide ((k : Int) ≤ (c3 : Int)) = true := decide_eq_true m1
  have m1n : decide (k ≤ c3) = true := decide_eq_true (by omega)
  have m2n : decide (c3 ≤ s.size) = true := decide_eq_true (by omega)
  have m2 : (c3 : Int) ≤ (s.size : Int) := by omega
  have m2' : decide ((c3 : Int) ≤ (s.size : Int)) = true := decide_eq_true m2
  have L := Lib.hid (And.intro l5 l6)
  clear l5 l6
  clear g1 g2 g3
  go_enter Tryd.func8, Tryd.ntmps8
  go_wp2_with (first
    | (go_at_call 18; refine (takeText_in s k _ hs hk G0.out.tab).mono ?_; rintro e w1 ⟨rfl, hb1⟩; have G1 : Hid (Good w w1) := Lib.hid (G0.out.step hb1))
    | fail)
  go_region_held3 (fun w' => Good w w') (first | assumption | exact G1.out.drew)
    (first | (go_at_call 11; refine (text_good (w0 := w) (bs (tx s k).1) _ T5 ?_).mono ?_; (first | assumption | exact G1.out.drew); rintro e w2 ⟨rfl, hg2⟩))
  have G2 : Hid (Good w w2) := Lib.hid hg2
  go_wp2_with (first
    | (go_at_call 20; refine (takeNum_in s k _ hs hk G2.out.tab).mono ?_; rintro e w3 ⟨rfl, hb3⟩; have G3 : Hid (Good w w3) := Lib.hid (G2.out.step hb3))
    | fail)
  go_quiet (fail)
  have G4 : Hid (Good w (w3.drewN nq)) := Lib.hid (G3.out.step (below_drewN _ _))
  go_wp2_with (first
    | (go_at_call 22; refine (takeList_in s k 1000 _ hs hk (by decide) (by decide) (.inr (by decide)) G4.out.tab).mono ?_; rintro e w5 ⟨v5, rfl, hv5, hb5⟩; have HV := Lib.hid hv5; clear hv5; have G5 : Hid (Good w w5) := Lib.hid (G4.out.step hb5))
    | fail)
  have SZ := Lib.hid (canon_sizes hs L.out)
  go_region_held3 (fun w' => Good w w' ∧ StrsAt w' v5 (lx s k 1000).1) (first | assumption | exact both_drew G5.out HV.out)
    (first
      | (go_at_call 15; refine (list_good (w0 := w) _ v5 (lx s k 1000).1 SZ.out.1 SZ.out.2.1 SZ.out.2.2 ?_).mono ?_; (first | assumption | exact both_drew G5.out HV.out); rintro e w6 ⟨rfl, hg6⟩)
      | (go_at_call 17; refine (awake_strs (w0 := w) _ v5 (lx s k 1000).1 ?_).mono ?_; (first | assumption | exact both_drew G5.out HV.out); rintro e w7 ⟨rfl, hg7⟩))
  go_wp2
  go_ret
  exact ⟨rfl, hg7.1.bel⟩
set_option maxHeartbeats 2000000 in
theorem canon_100 (s : ByteArray) (k : Nat) (w : World) (hs : s.size ≤ 140737488351232) (hk : k ≤ s.size) (ht : Tab w) (g1 : (tx s k).2.2 = 0) (g2 : ¬ (nx s k).2.2 = 0) (g3 : ¬ (lx s k 1000).2.2 = 0) :
    Calls Tryd.prog 8 #[.string s, .int .i64 k] w fun e w' => e = .returned (.bool true) ∧ Below w.heap.size w w' := by
  have G0 := Lib.hid (Good.refl ht)
  clear ht
  obtain ⟨c1, t1, t2, t3, t4, t5⟩ := tx_form hk g1
  have h1 : ((tx s k).2.2 == 0) = true := by rw [g1]; rfl
  have T5 : (bs (tx s k).1).size ≤ 140737488351232 := by rw [← len_data]; show (tx s k).1.length ≤ _; omega
  have i1 : ¬ (c1 : Int) < (k : Int) := by omega
  have i1' : decide ((c1 : Int) < (k : Int)) = false := decide_eq_false i1
  have i1n : decide (c1 < k) = false := decide_eq_false (by omega)
  have i2n : decide (s.size < c1) = false := decide_eq_false (by omega)
  have i2 : ¬ (s.size : Int) < (c1 : Int) := by omega
  have i2' : decide ((s.size : Int) < (c1 : Int)) = false := decide_eq_false i2
  have h2 : ((nx s k).2.2 == 0) = false := by simpa using g2
  have h3 : ((lx s k 1000).2.2 != 0) = true := by simpa using g3
  clear g1 g2 g3
  go_enter Tryd.func8, Tryd.ntmps8
  go_wp2_with (first
    | (go_at_call 18; refine (takeText_in s k _ hs hk G0.out.tab).mono ?_; rintro e w1 ⟨rfl, hb1⟩; have G1 : Hid (Good w w1) := Lib.hid (G0.out.step hb1))
    | fail)
  go_region_held3 (fun w' => Good w w') (first | assumption | exact G1.out.drew)
    (first | (go_at_call 11; refine (text_good (w0 := w) (bs (tx s k).1) _ T5 ?_).mono ?_; (first | assumption | exact G1.out.drew); rintro e w2 ⟨rfl, hg2⟩))
  have G2 : Hid (Good w w2) := Lib.hid hg2
  go_wp2_with (first
    | (go_at_call 20; refine (takeNum_in s k _ hs hk G2.out.tab).mono ?_; rintro e w3 ⟨rfl, hb3⟩; have G3 : Hid (Good w w3) := Lib.hid (G2.out.step hb3))
    | fail)
  go_quiet (fail)
  have G4 : Hid (Good w (w3.drewN nq)) := Lib.hid (G3.out.step (below_drewN _ _))
  go_wp2_with (first
    | (go_at_call 22; refine (takeList_in s k 1000 _ hs hk (by decide) (by decide) (.inr (by decide)) G4.out.tab).mono ?_; rintro e w5 ⟨v5, rfl, hv5, hb5⟩; have HV := Lib.hid hv5; clear hv5; have G5 : Hid (Good w w5) := Lib.hid (G4.out.step hb5))
    | fail)
  have cA := awake_q w5 G5.out.tab
  refine wp_region_quiet_below (by kernel_rfl) (by kernel_rfl) ?_
  repeat (first | go_big_quiet_step (exact cA _ _) | quiet_step (exact cA _ _))
  refine wpQuiet_nil ?_
  intro _ hw'
  obtain ⟨⟨dq, osq⟩, hw''⟩ := hw'
  subst hw''
  go_wp2
  go_ret
  exact ⟨rfl, (G5.out.step (below_regrown w5 dq osq)).bel⟩
set_option maxHeartbeats 2000000 in
theorem canon_011 (s : ByteArray) (k : Nat) (w : World) (hs : s.size ≤ 140737488351232) (hk : k ≤ s.size) (ht : Tab w) (g1 : ¬ (tx s k).2.2 = 0) (g2 : (nx s k).2.2 = 0) (g3 : (lx s k 1000).2.2 = 0) :
    Calls Tryd.prog 8 #[.string s, .int .i64 k] w fun e w' => e = .returned (.bool true) ∧ Below w.heap.size w w' := by
  have G0 := Lib.hid (Good.refl ht)
  clear ht
  have h1 : ((tx s k).2.2 == 0) = false := by simpa using g1
  obtain ⟨c2, n1, n2, n3, n4, n5, n6⟩ := nx_form hk g2
  have h2 : ((nx s k).2.2 == 0) = true := by rw [g2]; rfl
  have j1 : ¬ (c2 : Int) < (k : Int) := by omega
  have j1' : decide ((c2 : Int) < (k : Int)) = false := decide_eq_false j1
  have j1n : decide (c2 < k) = false := decide_eq_false (by omega)
  have j2n : decide (s.size < c2) = false := decide_eq_false (by omega)
  have j2 : ¬ (s.size : Int) < (c2 : Int) := by omega
  have j2' : decide ((s.size : Int) < (c2 : Int)) = false := decide_eq_false j2
  obtain ⟨c3, l1, l2, l3, l4, l5, l6⟩ := lx_form hk g3
  have h3 : ((lx s k 1000).2.2 != 0) = false := by rw [g3]; rfl
  have m1 : (k : Int) ≤ (c3 : Int) := by omega
  have m1' : decide ((k : Int) ≤ (c3 : Int)) = true := decide_eq_true m1
  have m1n : decide (k ≤ c3) = true := decide_eq_true (by omega)
  have m2n : decide (c3 ≤ s.size) = true := decide_eq_true (by omega)
  have m2 : (c3 : Int) ≤ (s.size : Int) := by omega
  have m2' : decide ((c3 : Int) ≤ (s.size : Int)) = true := decide_eq_true m2
  have L := Lib.hid (And.intro l5 l6)
  clear l5 l6
  clear g1 g2 g3
  go_enter Tryd.func8, Tryd.ntmps8
  go_wp2_with (first
    | (go_at_call 18; refine (takeText_in s k _ hs hk G0.out.tab).mono ?_; rintro e w1 ⟨rfl, hb1⟩; have G1 : Hid (Good w w1) := Lib.hid (G0.out.step hb1))
    | fail)
  go_quiet (fail)
  have G2 : Hid (Good w (w1.drewN nq)) := Lib.hid (G1.out.step (below_drewN _ _))
  go_wp2_with (first
    | (go_at_call 20; refine (takeNum_in s k _ hs hk G2.out.tab).mono ?_; rintro e w3 ⟨rfl, hb3⟩; have G3 : Hid (Good w w3) := Lib.hid (G2.out.step hb3))
    | fail)
  go_region_held3 (fun w' => Good w w') (first | assumption | exact G3.out.drew)
    (first | (go_at_call 13; refine (number_good (w0 := w) (nx s k).1 _ n5 n6 ?_).mono ?_; (first | assumption | exact G3.out.drew); rintro e w4 ⟨rfl, hg4⟩))
  have G4 : Hid (Good w w4) := Lib.hid hg4
  go_wp2_with (first
    | (go_at_call 22; refine (takeList_in s k 1000 _ hs hk (by decide) (by decide) (.inr (by decide)) G4.out.tab).mono ?_; rintro e w5 ⟨v5, rfl, hv5, hb5⟩; have HV := Lib.hid hv5; clear hv5; have G5 : Hid (Good w w5) := Lib.hid (G4.out.step hb5))
    | fail)
  have SZ := Lib.hid (canon_sizes hs L.out)
  go_region_held3 (fun w' => Good w w' ∧ StrsAt w' v5 (lx s k 1000).1) (first | assumption | exact both_drew G5.out HV.out)
    (first
      | (go_at_call 15; refine (list_good (w0 := w) _ v5 (lx s k 1000).1 SZ.out.1 SZ.out.2.1 SZ.out.2.2 ?_).mono ?_; (first | assumption | exact both_drew G5.out HV.out); rintro e w6 ⟨rfl, hg6⟩)
      | (go_at_call 17; refine (awake_strs (w0 := w) _ v5 (lx s k 1000).1 ?_).mono ?_; (first | assumption | exact both_drew G5.out HV.out); rintro e w7 ⟨rfl, hg7⟩))
  go_wp2
  go_ret
  exact ⟨rfl, hg7.1.bel⟩
set_option maxHeartbeats 2000000 in
theorem canon_010 (s : ByteArray) (k : Nat) (w : World) (hs : s.size ≤ 140737488351232) (hk : k ≤ s.size) (ht : Tab w) (g1 : ¬ (tx s k).2.2 = 0) (g2 : (nx s k).2.2 = 0) (g3 : ¬ (lx s k 1000).2.2 = 0) :
    Calls Tryd.prog 8 #[.string s, .int .i64 k] w fun e w' => e = .returned (.bool true) ∧ Below w.heap.size w w' := by
  have G0 := Lib.hid (Good.refl ht)
  clear ht
  have h1 : ((tx s k).2.2 == 0) = false := by simpa using g1
  obtain ⟨c2, n1, n2, n3, n4, n5, n6⟩ := nx_form hk g2
  have h2 : ((nx s k).2.2 == 0) = true := by rw [g2]; rfl
  have j1 : ¬ (c2 : Int) < (k : Int) := by omega
  have j1' : decide ((c2 : Int) < (k : Int)) = false := decide_eq_false j1
  have j1n : decide (c2 < k) = false := decide_eq_false (by omega)
  have j2n : decide (s.size < c2) = false := decide_eq_false (by omega)
  have j2 : ¬ (s.size : Int) < (c2 : Int) := by omega
  have j2' : decide ((s.size : Int) < (c2 : Int)) = false := decide_eq_false j2
  have h3 : ((lx s k 1000).2.2 != 0) = true := by simpa using g3
  clear g1 g2 g3
  go_enter Tryd.func8, Tryd.ntmps8
  go_wp2_with (first
    | (go_at_call 18; refine (takeText_in s k _ hs hk G0.out.tab).mono ?_; rintro e w1 ⟨rfl, hb1⟩; have G1 : Hid (Good w w1) := Lib.hid (G0.out.step hb1))
    | fail)
  go_quiet (fail)
  have G2 : Hid (Good w (w1.drewN nq)) := Lib.hid (G1.out.step (below_drewN _ _))
  go_wp2_with (first
    | (go_at_call 20; refine (takeNum_in s k _ hs hk G2.out.tab).mono ?_; rintro e w3 ⟨rfl, hb3⟩; have G3 : Hid (Good w w3) := Lib.hid (G2.out.step hb3))
    | fail)
  go_region_held3 (fun w' => Good w w') (first | assumption | exact G3.out.drew)
    (first | (go_at_call 13; refine (number_good (w0 := w) (nx s k).1 _ n5 n6 ?_).mono ?_; (first | assumption | exact G3.out.drew); rintro e w4 ⟨rfl, hg4⟩))
  have G4 : Hid (Good w w4) := Lib.hid hg4
  go_wp2_with (first
    | (go_at_call 22; refine (takeList_in s k 1000 _ hs hk (by decide) (by decide) (.inr (by decide)) G4.out.tab).mono ?_; rintro e w5 ⟨v5, rfl, hv5, hb5⟩; have HV := Lib.hid hv5; clear hv5; have G5 : Hid (Good w w5) := Lib.hid (G4.out.step hb5))
    | fail)
  have cA := awake_q w5 G5.out.tab
  refine wp_region_quiet_below (by kernel_rfl) (by kernel_rfl) ?_
  repeat (first | go_big_quiet_step (exact cA _ _) | quiet_step (exact cA _ _))
  refine wpQuiet_nil ?_
  intro _ hw'
  obtain ⟨⟨dq, osq⟩, hw''⟩ := hw'
  subst hw''
  go_wp2
  go_ret
  exact ⟨rfl, (G5.out.step (below_regrown w5 dq osq)).bel⟩
set_option maxHeartbeats 2000000 in
theorem canon_001 (s : ByteArray) (k : Nat) (w : World) (hs : s.size ≤ 140737488351232) (hk : k ≤ s.size) (ht : Tab w) (g1 : ¬ (tx s k).2.2 = 0) (g2 : ¬ (nx s k).2.2 = 0) (g3 : (lx s k 1000).2.2 = 0) :
    Calls Tryd.prog 8 #[.string s, .int .i64 k] w fun e w' => e = .returned (.bool true) ∧ Below w.heap.size w w' := by
  have G0 := Lib.hid (Good.refl ht)
  clear ht
  have h1 : ((tx s k).2.2 == 0) = false := by simpa using g1
  have h2 : ((nx s k).2.2 == 0) = false := by simpa using g2
  obtain ⟨c3, l1, l2, l3, l4, l5, l6⟩ := lx_form hk g3
  have h3 : ((lx s k 1000).2.2 != 0) = false := by rw [g3]; rfl
  have m1 : (k : Int) ≤ (c3 : Int) := by omega
  have m1' : decide ((k : Int) ≤ (c3 : Int)) = true := decide_eq_true m1
  have m1n : decide (k ≤ c3) = true := decide_eq_true (by omega)
  have m2n : decide (c3 ≤ s.size) = true := decide_eq_true (by omega)
  have m2 : (c3 : Int) ≤ (s.size : Int) := by omega
  have m2' : decide ((c3 : Int) ≤ (s.size : Int)) = true := decide_eq_true m2
  have L := Lib.hid (And.intro l5 l6)
  clear l5 l6
  clear g1 g2 g3
  go_enter Tryd.func8, Tryd.ntmps8
  go_wp2_with (first
    | (go_at_call 18; refine (takeText_in s k _ hs hk G0.out.tab).mono ?_; rintro e w1 ⟨rfl, hb1⟩; have G1 : Hid (Good w w1) := Lib.hid (G0.out.step hb1))
    | fail)
  go_quiet (fail)
  have G2 : Hid (Good w (w1.drewN nq)) := Lib.hid (G1.out.step (below_drewN _ _))
  go_wp2_with (first
    | (go_at_call 20; refine (takeNum_in s k _ hs hk G2.out.tab).mono ?_; rintro e w3 ⟨rfl, hb3⟩; have G3 : Hid (Good w w3) := Lib.hid (G2.out.step hb3))
    | fail)
  go_quiet (fail)
  have G4 : Hid (Good w (w3.drewN nq)) := Lib.hid (G3.out.step (below_drewN _ _))
  go_wp2_with (first
    | (go_at_call 22; refine (takeList_in s k 1000 _ hs hk (by decide) (by decide) (.inr (by decide)) G4.out.tab).mono ?_; rintro e w5 ⟨v5, rfl, hv5, hb5⟩; have HV := Lib.hid hv5; clear hv5; have G5 : Hid (Good w w5) := Lib.hid (G4.out.step hb5))
    | fail)
  have SZ := Lib.hid (canon_sizes hs L.out)
  go_region_held3 (fun w' => Good w w' ∧ StrsAt w' v5 (lx s k 1000).1) (first | assumption | exact both_drew G5.out HV.out)
    (first
      | (go_at_call 15; refine (list_good (w0 := w) _ v5 (lx s k 1000).1 SZ.out.1 SZ.out.2.1 SZ.out.2.2 ?_).mono ?_; (first | assumption | exact both_drew G5.out HV.out); rintro e w6 ⟨rfl, hg6⟩)
      | (go_at_call 17; refine (awake_strs (w0 := w) _ v5 (lx s k 1000).1 ?_).mono ?_; (first | assumption | exact both_drew G5.out HV.out); rintro e w7 ⟨rfl, hg7⟩))
  go_wp2
  go_ret
  exact ⟨rfl, hg7.1.bel⟩
set_option maxHeartbeats 2000000 in
theorem canon_000 (s : ByteArray) (k : Nat) (w : World) (hs : s.size ≤ 140737488351232) (hk : k ≤ s.size) (ht : Tab w) (g1 : ¬ (tx s k).2.2 = 0) (g2 : ¬ (nx s k).2.2 = 0) (g3 : ¬ (lx s k 1000).2.2 = 0) :
    Calls Tryd.prog 8 #[.string s, .int .i64 k] w fun e w' => e = .returned (.bool true) ∧ Below w.heap.size w w' := by
  have G0 := Lib.hid (Good.refl ht)
  clear ht
  have h1 : ((tx s k).2.2 == 0) = false := by simpa using g1
  have h2 : ((nx s k).2.2 == 0) = false := by simpa using g2
  have h3 : ((lx s k 1000).2.2 != 0) = true := by simpa using g3
  clear g1 g2 g3
  go_enter Tryd.func8, Tryd.ntmps8
  go_wp2_with (first
    | (go_at_call 18; refine (takeText_in s k _ hs hk G0.out.tab).mono ?_; rintro e w1 ⟨rfl, hb1⟩; have G1 : Hid (Good w w1) := Lib.hid (G0.out.step hb1))
    | fail)
  go_quiet (fail)
  have G2 : Hid (Good w (w1.drewN nq)) := Lib.hid (G1.out.step (below_drewN _ _))
  go_wp2_with (first
    | (go_at_call 20; refine (takeNum_in s k _ hs hk G2.out.tab).mono ?_; rintro e w3 ⟨rfl, hb3⟩; have G3 : Hid (Good w w3) := Lib.hid (G2.out.step hb3))
    | fail)
  go_quiet (fail)
  have G4 : Hid (Good w (w3.drewN nq)) := Lib.hid (G3.out.step (below_drewN _ _))
  go_wp2_with (first
    | (go_at_call 22; refine (takeList_in s k 1000 _ hs hk (by decide) (by decide) (.inr (by decide)) G4.out.tab).mono ?_; rintro e w5 ⟨v5, rfl, hv5, hb5⟩; have HV := Lib.hid hv5; clear hv5; have G5 : Hid (Good w w5) := Lib.hid (G4.out.step hb5))
    | fail)
  have cA := awake_q w5 G5.out.tab
  refine wp_region_quiet_below (by kernel_rfl) (by kernel_rfl) ?_
  repeat (first | go_big_quiet_step (exact cA _ _) | quiet_step (exact cA _ _))
  refine wpQuiet_nil ?_
  intro _ hw'
  obtain ⟨⟨dq, osq⟩, hw''⟩ := hw'
  subst hw''
  go_wp2
  go_ret
  exact ⟨rfl, (G5.out.step (below_regrown w5 dq osq)).bel⟩
set_option maxHeartbeats 400000 in
theorem packCanonical_any (s : ByteArray) (k : Int) (w : World) (hs : s.size ≤ 140737488351232) (_h0 : -9223372036854775808 ≤ k) (_h1 : k ≤ 9223372036854775807) (ht : Tab w) :
    Calls Tryd.prog 8 #[.string s, .int .i64 k] w fun e w' => e = .returned (.bool true) ∧ Below w.heap.size w w' := by
  by_cases hk : k < 0
  · have HT := Lib.hid ht
    clear ht
    go_enter Tryd.func8, Tryd.ntmps8
    go_wp2_with (first | (go_at_call 17; refine (awake_any _ HT.out).mono ?_; rintro e w1 ⟨rfl, hb1⟩) | fail)
    go_ret
    exact ⟨rfl, by assumption⟩
  · by_cases hk2 : (s.size : Int) < k
    · have HT := Lib.hid ht
      clear ht
      go_enter Tryd.func8, Tryd.ntmps8
      go_wp2_with (first | (go_at_call 17; refine (awake_any _ HT.out).mono ?_; rintro e w1 ⟨rfl, hb1⟩) | fail)
      go_ret
      exact ⟨rfl, by assumption⟩
    · obtain ⟨j, rfl⟩ : ∃ j : Nat, k = j := ⟨k.toNat, by omega⟩
      have hj : j ≤ s.size := by omega
      by_cases g1 : (tx s j).2.2 = 0
      · by_cases g2 : (nx s j).2.2 = 0
        · by_cases g3 : (lx s j 1000).2.2 = 0
          · exact canon_111 s j w hs hj ht g1 g2 g3
          · exact canon_110 s j w hs hj ht g1 g2 g3
        · by_cases g3 : (lx s j 1000).2.2 = 0
          · exact canon_101 s j w hs hj ht g1 g2 g3
          · exact canon_100 s j w hs hj ht g1 g2 g3
      · by_cases g2 : (nx s j).2.2 = 0
        · by_cases g3 : (lx s j 1000).2.2 = 0
          · exact canon_011 s j w hs hj ht g1 g2 g3
          · exact canon_010 s j w hs hj ht g1 g2 g3
        · by_cases g3 : (lx s j 1000).2.2 = 0
          · exact canon_001 s j w hs hj ht g1 g2 g3
          · exact canon_000 s j w hs hj ht g1 g2 g3
end Go.Proofs.YtpfnameeoadbkaaDoor.PackW
