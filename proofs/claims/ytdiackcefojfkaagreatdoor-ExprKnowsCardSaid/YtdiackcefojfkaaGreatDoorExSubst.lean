/-
  What Fold and Subst return.
-/
import Derived.Test.YtdiackcefojfkaaGreatDoorExFolded
namespace Go.Proofs.YtdiackcefojfkaaGreatDoor.ExW
open Go Go.RowKit Go.Proofs.YtdiackcefojfkaaGreatDoor.NumM Go.Proofs.YtdiackcefojfkaaGreatDoor.LexW Go.Proofs.YtdiackcefojfkaaGreatDoor.LexM Go.Proofs.YtdiackcefojfkaaGreatDoor.ExM

/-- What Fold returns. -/
noncomputable def foldS (e : Ex) : Ex := if vld e = 0 then fo e else e
theorem vld_ne {e : Ex} (h : vld e ≠ 0) : (vld e != 0) = true := by rw [bne_iff_ne]; exact h
theorem put_fr {x : Ex} {w W : World} {v : Value} (h : Fr (w.heap.size + 2) W v x) (x0 x1 x2 x3 : Value) : Fr w.heap.size ((((W.setCell ⟨w.heap.size + 1, 0, none⟩ x0).setCell ⟨w.heap.size + 1, 1, none⟩ x1).setCell ⟨w.heap.size + 1, 2, none⟩ x2).setCell ⟨w.heap.size + 1, 3, none⟩ x3) v x :=
  ((((h.set (g := w.heap.size + 1) (by omega)).set (by omega)).set (by omega)).set (by omega)).low (by omega)
set_option maxRecDepth 100000 in
set_option maxHeartbeats 8000000 in
theorem foldCode_any (e : Ex) (N : Nat) (w : World) (v : Value) (hx : ExAt N w v e) (hN : N ≤ w.heap.size) (hsz : sz e ≤ 10000) (ht : Tab w) : Calls Tryz.prog 29 #[v] w (tFr (foldS e) w) := by
  obtain ⟨p, cap, pl, cl, rfl, hs, _⟩ := hx.form
  have hb1 : Below w.heap.size w ((w.alloc (.cells #[.int .i64 e.op, .int .i64 e.n, .string e.nm, .slice p e.args.length cap] 24)).alloc (.cells #[.int .i64 0, .int .i64 0, .string ⟨#[]⟩, .slice none 0 0] 24)) := ((Below.refl _ _).alloc (Nat.le_refl _) _).alloc (by simp) _
  have four1 := (Four.new w (.int .i64 e.op) (.int .i64 e.n) (.string e.nm) (.slice p e.args.length cap) 24).alloc (.cells #[.int .i64 0, .int .i64 0, .string ⟨#[]⟩, .slice none 0 0] 24)
  have four2 := Four.new (w.alloc (.cells #[.int .i64 e.op, .int .i64 e.n, .string e.nm, .slice p e.args.length cap] 24)) (.int .i64 0) (.int .i64 0) (.string ⟨#[]⟩) (.slice none 0 0) 24
  rw [World.size_alloc] at four2
  have hws := hb1.size
  simp only [World.size_alloc] at hws
  have VC := Lib.hid (valid_any e _ _ ((hx.under (hb1.mono hN)).wide (by simp only [World.size_alloc]; omega)) hsz (ht.later hb1))
  have HX := Lib.hid hx
  have HT := Lib.hid ht
  have HB1 := Lib.hid hb1
  have HF1 := Lib.hid four1
  have HF2 := Lib.hid four2
  have d0 := four1.c0
  have d1 := four1.c1
  have d2 := four1.c2
  have d3 := four1.c3
  by_cases hv : vld e = 0
  · have CC : Hid (∀ W, Below w.heap.size w W → Calls Tryz.prog 50 #[xv e.op e.n e.nm (.slice p e.args.length cap)] W (tFr (fo e) W)) := Lib.hid fun W hb => folded_any e N W _ (HX.out.under (hb.mono hN)) (by have := hb.size; omega) hsz ((vld_zero e).1 hv).1 (HT.out.later hb)
    have EE : Hid (foldS e = fo e) := Lib.hid (if_pos hv)
    rw [hv] at VC
    rw [EE.out]
    clear hx hs hb1 four1 four2 ht hv hsz EE
    generalize fo e = E at *
    generalize e.op = o at *
    generalize e.n = n at *
    generalize e.nm = s at *
    generalize e.args.length = K at *
    go_enter Tryz.func29, Tryz.ntmps29
    go_wp2_with (first
      | (go_at_call 24; ((with_reducible refine VC.out.mono ?_); rintro e w2 ⟨rfl, hb⟩; have f4 := HF1.out.stay hb; have s0 := f4.c0; have s1 := f4.c1; have s2 := f4.c2; have s3 := f4.c3; have HF4 := Lib.hid (HF2.out.stay hb); have HB2 := Lib.hid (HB1.out.then_ hb); clear d0 d1 d2 d3 f4 hb))
      | (go_at_call 50; ((with_reducible refine (CC.out _ HB2.out).mono ?_); rintro e w3 ⟨v3, rfl, hfr, hb⟩; obtain ⟨p3, c3, rfl, hs3, hc3⟩ := hfr.form; have f5 := HF4.out.stay hb; have u4 := f5.f0; have u5 := f5.f1; have u6 := f5.f2; have u7 := f5.f3; have u0 := f5.c0; have u1 := f5.c1; have u2 := f5.c2; have u3 := f5.c3; have HF5 := Lib.hid f5; have HFR := Lib.hid (hfr.low (lo' := w.heap.size + 2) (by have := hb.size; have := HB2.out.size; have := HF4.out.lt; omega)); have HB3 := Lib.hid (HB2.out.then_ hb); clear f5 hfr hb)))
    have hp := HF5.out.put (.int .i64 E.op) (.int .i64 E.n) (.string E.nm) (.slice p3 E.args.length c3)
    have p0 := hp.c0
    have p1 := hp.c1
    have p2' := hp.c2
    have p3' := hp.c3
    refine bodyPost_ret (v := xv E.op E.n E.nm (.slice p3 E.args.length c3)) (by simp [results, Tryz.results29, go_sem, p0, p1, p2', p3']) rfl ⟨_, rfl, put_fr HFR.out _ _ _ _, below_put HB3.out (by omega) _ _ _ _⟩
  · have CC : Hid (∀ W, Below w.heap.size w W → Calls Tryz.prog 49 #[xv e.op e.n e.nm (.slice p e.args.length cap)] W (tFr e W)) := Lib.hid fun W hb => clone_any e N W _ (HX.out.under (hb.mono hN)) (by have := hb.size; omega) hsz
    have EE : Hid (foldS e = e) := Lib.hid (if_neg hv)
    have h0 := vld_ne hv
    rw [EE.out]
    clear hx hs hb1 four1 four2 ht hv hsz EE
    generalize vld e = vv at *
    generalize e.op = o at *
    generalize e.n = n at *
    generalize e.nm = s at *
    generalize e.args.length = K at *
    go_enter Tryz.func29, Tryz.ntmps29
    go_wp2_with (first
      | (go_at_call 24; ((with_reducible refine VC.out.mono ?_); rintro ee w2 ⟨rfl, hb⟩; have f4 := HF1.out.stay hb; have s0 := f4.c0; have s1 := f4.c1; have s2 := f4.c2; have s3 := f4.c3; have HF4 := Lib.hid (HF2.out.stay hb); have HB2 := Lib.hid (HB1.out.then_ hb); clear d0 d1 d2 d3 f4 hb))
      | (go_at_call 49; ((with_reducible refine (CC.out _ HB2.out).mono ?_); rintro ee w3 ⟨v3, rfl, hfr, hb⟩; obtain ⟨p3, c3, rfl, hs3, hc3⟩ := hfr.form; have f5 := HF4.out.stay hb; have u4 := f5.f0; have u5 := f5.f1; have u6 := f5.f2; have u7 := f5.f3; have u0 := f5.c0; have u1 := f5.c1; have u2 := f5.c2; have u3 := f5.c3; have HF5 := Lib.hid f5; have HFR := Lib.hid (hfr.low (lo' := w.heap.size + 2) (by have := hb.size; have := HB2.out.size; have := HF4.out.lt; omega)); have HB3 := Lib.hid (HB2.out.then_ hb); clear f5 hfr hb)))
    have hp := HF5.out.put (.int .i64 e.op) (.int .i64 e.n) (.string e.nm) (.slice p3 e.args.length c3)
    have p0 := hp.c0
    have p1 := hp.c1
    have p2' := hp.c2
    have p3' := hp.c3
    refine bodyPost_ret (v := xv e.op e.n e.nm (.slice p3 e.args.length c3)) (by simp [results, Tryz.results29, go_sem, p0, p1, p2', p3']) rfl ⟨_, rfl, put_fr HFR.out _ _ _ _, below_put HB3.out (by omega) _ _ _ _⟩
theorem su_eq (nm : ByteArray) (b : Ex) (o n : Int) (s : ByteArray) (ks : List Ex) : su nm b (.mk o n s ks) = if isVr o && (s.toList == nm.toList) then b else .mk o n s (ks.map (su nm b)) := by
  rw [su_mk, Lib.toList_data, Lib.toList_data]
  by_cases h : isVr o = true ∧ s.data.toList = nm.data.toList
  · rw [if_pos h, if_pos]; simp [h.1, h.2]
  · rw [if_neg h, if_neg]; simpa using h
/-- What Subst keeps in memory: the name, the expression and its own closure. -/
structure Held (w : World) (nb bb rb : Nat) (nm : ByteArray) (bv : Value) : Prop where
  name : Boxed w nb 9 (.string nm)
  self : Boxed w rb 40 (.func (.func 53) #[] #[.pointer (some ⟨nb, 0, none⟩), .pointer (some ⟨bb, 0, none⟩), .pointer (some ⟨rb, 0, none⟩)])
  four : ∃ o n s x, bv = xv o n s x ∧ Four w bb (.int .i64 o) (.int .i64 n) (.string s) x
theorem Held.stay {w w' : World} {nb bb rb : Nat} {nm : ByteArray} {bv : Value} (h : Held w nb bb rb nm bv) (hb : Below w.heap.size w w') : Held w' nb bb rb nm bv :=
  ⟨bxStay h.name hb, bxStay h.self hb, by obtain ⟨o, n, s, x, e, f⟩ := h.four; exact ⟨o, n, s, x, e, f.stay hb⟩⟩
set_option maxRecDepth 100000 in
set_option maxHeartbeats 16000000 in
theorem subst1_any (nb bb rb : Nat) (nm : ByteArray) (b : Ex) (bv : Value) (M : Nat) (hbs : sz b ≤ 10000) (e : Ex) : ∀ (N : Nat) (w : World) (v : Value), ExAt N w v e → N ≤ w.heap.size → sz e ≤ 10000 → ExAt M w bv b → M ≤ w.heap.size → Held w nb bb rb nm bv →
    Calls Tryz.prog 53 #[v, .pointer (some ⟨nb, 0, none⟩), .pointer (some ⟨bb, 0, none⟩), .pointer (some ⟨rb, 0, none⟩)] w (tFr (su nm b e) w) := by
  induction e using Ex.ind with
  | h o n s ks ih =>
    intro N w v hx hN hsz hby hM hh
    obtain ⟨p, cap, pl, cl, rfl, hs, ha⟩ := at_form hx
    have hl := len_szs ks
    have hb1 : Below w.heap.size w ((w.alloc (.cells #[.int .i64 o, .int .i64 n, .string s, .slice p ks.length cap] 24)).alloc (.cells #[.int .i64 0, .int .i64 0, .string ⟨#[]⟩, .slice none 0 0] 24)) := ((Below.refl _ _).alloc (Nat.le_refl _) _).alloc (by simp) _
    have hws := hb1.size
    simp only [World.size_alloc] at hws
    have hh1 := hh.stay hb1
    rw [sz_mk] at hsz
    have RC := Lib.hid (rebuilt_subst (su nm b) ks pl cl o n s p cap N _ nb bb rb (ha.under (hb1.mono hN)) (by simp only [World.size_alloc]; omega) (by omega) hs (fun a ha' W v hW hx' => ih a ha' N W v hx' (by have := hW.size; simp only [World.size_alloc] at this; omega) (by have := sz_mem ha'; omega) ((hby.under (hb1.mono hM)).under (hW.mono (by simp only [World.size_alloc]; omega))) (by have := hW.size; simp only [World.size_alloc] at this; omega) (hh1.stay hW)))
    have CL := Lib.hid (clone_any b M _ bv (hby.under (hb1.mono hM)) (by simp only [World.size_alloc]; omega) hbs)
    have four1 := (Four.new w (.int .i64 o) (.int .i64 n) (.string s) (.slice p ks.length cap) 24).alloc (.cells #[.int .i64 0, .int .i64 0, .string ⟨#[]⟩, .slice none 0 0] 24)
    have four2 := Four.new (w.alloc (.cells #[.int .i64 o, .int .i64 n, .string s, .slice p ks.length cap] 24)) (.int .i64 0) (.int .i64 0) (.string ⟨#[]⟩) (.slice none 0 0) 24
    rw [World.size_alloc] at four2
    obtain ⟨bo, bn, bs', bx, rfl, fb⟩ := hh1.four
    have m0 := fb.c0
    have m1 := fb.c1
    have m2 := fb.c2
    have m3 := fb.c3
    have m4 := hh1.name.cell
    have m5 := hh1.self.cell
    have d0 := four1.c0
    have d1 := four1.c1
    have d2 := four1.c2
    have d3 := four1.c3
    have HB1 := Lib.hid hb1
    have HF2 := Lib.hid four2
    have VC : Hid (∀ W, Calls Tryz.prog 43 #[.int .i64 o] W fun e w' => e = .returned (.bool (isVr o)) ∧ W = w') := Lib.hid fun W => isVr_any o W
    rw [su_eq]
    clear ha hx ih hb1 four1 four2 hh hh1 fb hs hsz hl hby hbs hN hM
    generalize ks.length = K at *
    generalize (Ex.mk o n s (ks.map (su nm b))) = E at *
    generalize isVr o = q at *
    have FIN : Hid (∀ (x : Ex) W v, Fr (w.heap.size + 2) W v x → ∀ x0 x1 x2 x3, Fr w.heap.size ((((W.setCell ⟨w.heap.size + 1, 0, none⟩ x0).setCell ⟨w.heap.size + 1, 1, none⟩ x1).setCell ⟨w.heap.size + 1, 2, none⟩ x2).setCell ⟨w.heap.size + 1, 3, none⟩ x3) v x) := Lib.hid fun x W v h => put_fr h
    cases q <;> cases h3 : (s.toList == nm.toList)
    all_goals
      go_enter Tryz.func53, Tryz.ntmps53
      go_wp2_with (first
        | (go_at_call 43; ((with_reducible refine (VC.out _).mono ?_); rintro e w1 ⟨rfl, rfl⟩))
        | (go_at_call 54; ((with_reducible refine RC.out.mono ?_); rintro e w3 ⟨v3, rfl, hfr, hb⟩; obtain ⟨p3, c3, rfl, hs3, hc3⟩ := hfr.form; have f5 := HF2.out.stay hb; have u4 := f5.f0; have u5 := f5.f1; have u6 := f5.f2; have u7 := f5.f3; have u0 := f5.c0; have u1 := f5.c1; have u2 := f5.c2; have u3 := f5.c3; have HF5 := Lib.hid f5; have HFR := Lib.hid hfr; have HB3 := Lib.hid (HB1.out.then_ hb); clear f5 hfr hb))
        | (go_at_call 49; ((with_reducible refine CL.out.mono ?_); rintro e w3 ⟨v3, rfl, hfr, hb⟩; obtain ⟨p3, c3, rfl, hs3, hc3⟩ := hfr.form; have f5 := HF2.out.stay hb; have u4 := f5.f0; have u5 := f5.f1; have u6 := f5.f2; have u7 := f5.f3; have u0 := f5.c0; have u1 := f5.c1; have u2 := f5.c2; have u3 := f5.c3; have HF5 := Lib.hid f5; have HFR := Lib.hid hfr; have HB3 := Lib.hid (HB1.out.then_ hb); clear f5 hfr hb)))
      first
        | (have hp := HF5.out.put (.int .i64 E.op) (.int .i64 E.n) (.string E.nm) (.slice p3 E.args.length c3)
           have p0 := hp.c0
           have p1 := hp.c1
           have p2' := hp.c2
           have p3' := hp.c3
           refine bodyPost_ret (v := xv E.op E.n E.nm (.slice p3 E.args.length c3)) (by simp [results, Tryz.results53, go_sem, p0, p1, p2', p3']) rfl ⟨_, rfl, FIN.out _ _ _ (by have := HFR.out; simp only [World.size_alloc] at this; exact this) _ _ _ _, below_put HB3.out (by omega) _ _ _ _⟩)
        | (have hp := HF5.out.put (.int .i64 b.op) (.int .i64 b.n) (.string b.nm) (.slice p3 b.args.length c3)
           have p0 := hp.c0
           have p1 := hp.c1
           have p2' := hp.c2
           have p3' := hp.c3
           refine bodyPost_ret (v := xv b.op b.n b.nm (.slice p3 b.args.length c3)) (by simp [results, Tryz.results53, go_sem, p0, p1, p2', p3']) rfl ⟨_, rfl, FIN.out _ _ _ (by have := HFR.out; simp only [World.size_alloc] at this; exact this) _ _ _ _, below_put HB3.out (by omega) _ _ _ _⟩)
end Go.Proofs.YtdiackcefojfkaaGreatDoor.ExW
