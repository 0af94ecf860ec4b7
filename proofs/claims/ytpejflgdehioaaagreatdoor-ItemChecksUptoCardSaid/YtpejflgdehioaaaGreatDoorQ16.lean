/-
  Laws that the card uses; no conditions beside those that each states (ExEval ExClone ExFolded ExSubst ExSubstC ItFix ExRefA ExRefB ExRefC).
-/
import Derived.Test.YtpejflgdehioaaaGreatDoorQ15
namespace Go.Proofs.YtpejflgdehioaaaGreatDoor.ExW
open Go Go.RowKit Go.Proofs.YtpejflgdehioaaaGreatDoor.NumM Go.Proofs.YtpejflgdehioaaaGreatDoor.LexW Go.Proofs.YtpejflgdehioaaaGreatDoor.LexM Go.Proofs.YtpejflgdehioaaaGreatDoor.ExM
structure Upd (b : Nat) (w w' : World) : Prop where
  os : w'.os = w.os
  tape : w'.tape = w.tape
  output : w'.output = w.output
  size : w.heap.size ≤ w'.heap.size
  block : ∀ j, j < w.heap.size → j ≠ b → w'.heap[j]? = w.heap[j]?
theorem Upd.of {b : Nat} {w w' : World} (h : Below w.heap.size w w') : Upd b w w' := ⟨h.os, h.tape, h.output, h.size, fun j hj _ => h.block j hj⟩
theorem Upd.refl (b : Nat) (w : World) : Upd b w w := Upd.of (Below.refl _ _)
theorem Upd.trans {b : Nat} {w w' w'' : World} (h : Upd b w w') (k : Upd b w' w'') : Upd b w w'' :=
  ⟨k.os.trans h.os, k.tape.trans h.tape, k.output.trans h.output, Nat.le_trans h.size k.size, fun j hj hn => (k.block j (Nat.lt_of_lt_of_le hj h.size) hn).trans (h.block j hj hn)⟩
theorem Upd.below {b N : Nat} {w w' : World} (h : Upd b w w') (hN : N ≤ b) (hs : N ≤ w.heap.size) : Below N w w' := ⟨h.os, h.tape, h.output, h.size, fun j hj => h.block j (by omega) (by omega)⟩
theorem Upd.set {b : Nat} {w w' : World} (h : Upd b w w') (v : Value) : Upd b w (w'.setCell ⟨b, 0, none⟩ v) :=
  h.trans ⟨rfl, rfl, rfl, by simp [World.setCell], fun j _ hn => Below.heap_setCell _ _ _ _ hn⟩
theorem Upd.four {b g : Nat} {w w' : World} {x0 x1 x2 x3 : Value} (h : Upd b w w') (hf : Four w g x0 x1 x2 x3) (hn : g ≠ b) : Four w' g x0 x1 x2 x3 := by
  have hb := h.block g hf.lt hn; exact ⟨Nat.lt_of_lt_of_le hf.lt h.size, (World.cell?_of_block (w := w) hb).trans hf.c0, (World.cell?_of_block (w := w) hb).trans hf.c1, (World.cell?_of_block (w := w) hb).trans hf.c2, (World.cell?_of_block (w := w) hb).trans hf.c3,
    (World.frozen?_of_block (w := w) hb).trans hf.f0, (World.frozen?_of_block (w := w) hb).trans hf.f1, (World.frozen?_of_block (w := w) hb).trans hf.f2, (World.frozen?_of_block (w := w) hb).trans hf.f3⟩
set_option maxRecDepth 100000 in
set_option maxHeartbeats 8000000 in
theorem clone_any (e : Ex) : ∀ (N : Nat) (w : World) (v : Value), ExAt N w v e → N ≤ w.heap.size → sz e ≤ 10000 → Calls Tryz.prog 169 #[v] w (tFr e w) := by
  induction e using Ex.ind with
  | h o n s ks ih =>
    intro N w v hx hN hsz; obtain ⟨p, cap, pl, cl, rfl, hs, ha⟩ := hx.form; simp only [Ex.op, Ex.n, Ex.nm, Ex.args] at hs ha ⊢; rw [sz_mk] at hsz; have hl := len_szs ks; have hb1 : Below w.heap.size w ((w.alloc (.cells #[.int .i64 o, .int .i64 n, .string s, .slice p ks.length cap] 43)).alloc (.cells #[.int .i64 0, .int .i64 0, .string ⟨#[]⟩, .slice none 0 0] 43)) := ((Below.refl _ _).alloc (Nat.le_refl _) _).alloc (by simp) _; have RC := rebuilt_clone id ks pl cl o n s p cap N _ (ha.under (hb1.mono hN)) (by have := hb1.size; omega) (by omega) hs (fun a ha' W v hW hx' => ih a ha' N W v hx' (by have := hW.size; have := hb1.size; omega) (by have := sz_mem ha'; omega)); rw [List.map_id] at RC; have RC := Lib.hid RC; have HB1 := Lib.hid hb1; have four2 := Four.new (w.alloc (.cells #[.int .i64 o, .int .i64 n, .string s, .slice p ks.length cap] 43)) (.int .i64 0) (.int .i64 0) (.string ⟨#[]⟩) (.slice none 0 0) 43; rw [World.size_alloc] at four2; have HF2 := Lib.hid four2; clear ha hx ih hb1 four2; generalize ks.length = K at *
    go_enter Tryz.func169, Tryz.ntmps169
    go_wp2_with (go_at_call 170; ((with_reducible refine RC.out.mono ?_); rintro e w2 ⟨v2, rfl, hfr, hb2⟩; obtain ⟨p2, c2, rfl, hs2, hc2⟩ := hfr.form; have f5 := HF2.out.stay hb2; have s0 := f5.c0; have s1 := f5.c1; have s2 := f5.c2; have s3 := f5.c3; have s4 := f5.f0; have s5 := f5.f1; have s6 := f5.f2; have s7 := f5.f3; have HF5 := Lib.hid f5; have HFR := Lib.hid hfr; have HB2 := Lib.hid (HB1.out.then_ hb2); clear hfr hb2 f5))
    have hp := HF5.out.put (.int .i64 (Ex.mk o n s ks).op) (.int .i64 (Ex.mk o n s ks).n) (.string (Ex.mk o n s ks).nm) (.slice p2 (Ex.mk o n s ks).args.length c2); have p0 := hp.c0; have p1 := hp.c1; have p2' := hp.c2; have p3 := hp.c3; have hws := HB1.out.size; simp only [World.size_alloc] at hws; refine bodyPost_ret (v := xv (Ex.mk o n s ks).op (Ex.mk o n s ks).n (Ex.mk o n s ks).nm (.slice p2 (Ex.mk o n s ks).args.length c2)) (by simp [results, Tryz.results169, go_sem, p0, p1, p2', p3]) rfl ⟨_, rfl, ?_, below_put HB2.out (by omega) _ _ _ _⟩; have := HFR.out; simp only [World.size_alloc] at this; exact ((((this.set (g := w.heap.size + 1) (by omega)).set (by omega)).set (by omega)).set (by omega)).low (by omega)
theorem at_form {N : Nat} {w : World} {v : Value} {o n : Int} {s : ByteArray} {ks : List Ex} (h : ExAt N w v (.mk o n s ks)) : ∃ p cap pl cl, v = xv o n s (.slice p ks.length cap) ∧ s.size ≤ 140737488351232 ∧ ArgsAt N w p cap pl cl ks := h.form
theorem put_fr {x : Ex} {w W : World} {v : Value} (h : Fr (w.heap.size + 2) W v x) (x0 x1 x2 x3 : Value) : Fr w.heap.size ((((W.setCell ⟨w.heap.size + 1, 0, none⟩ x0).setCell ⟨w.heap.size + 1, 1, none⟩ x1).setCell ⟨w.heap.size + 1, 2, none⟩ x2).setCell ⟨w.heap.size + 1, 3, none⟩ x3) v x :=
  ((((h.set (g := w.heap.size + 1) (by omega)).set (by omega)).set (by omega)).set (by omega)).low (by omega)
theorem su_eq (nm : ByteArray) (b : Ex) (o n : Int) (s : ByteArray) (ks : List Ex) : su nm b (.mk o n s ks) = if isVr o && (s.toList == nm.toList) then b else .mk o n s (ks.map (su nm b)) := by
  rw [su_mk, Lib.toList_data, Lib.toList_data]; by_cases h : isVr o = true ∧ s.data.toList = nm.data.toList
  · rw [if_pos h, if_pos]; simp [h.1, h.2]
  · rw [if_neg h, if_neg]; simpa using h
structure Held (w : World) (nb bb rb : Nat) (nm : ByteArray) (bv : Value) : Prop where
  name : Boxed w nb 9 (.string nm)
  self : Boxed w rb 122 (.func (.func 168) #[] #[.pointer (some ⟨nb, 0, none⟩), .pointer (some ⟨bb, 0, none⟩), .pointer (some ⟨rb, 0, none⟩)])
  four : ∃ o n s x, bv = xv o n s x ∧ Four w bb (.int .i64 o) (.int .i64 n) (.string s) x
theorem Held.stay {w w' : World} {nb bb rb : Nat} {nm : ByteArray} {bv : Value} (h : Held w nb bb rb nm bv) (hb : Below w.heap.size w w') : Held w' nb bb rb nm bv :=
  ⟨bxStay h.name hb, bxStay h.self hb, by obtain ⟨o, n, s, x, e, f⟩ := h.four; exact ⟨o, n, s, x, e, f.stay hb⟩⟩
set_option maxRecDepth 100000 in
set_option maxHeartbeats 16000000 in
theorem subst1_any (nb bb rb : Nat) (nm : ByteArray) (b : Ex) (bv : Value) (M : Nat) (hbs : sz b ≤ 10000) (e : Ex) : ∀ (N : Nat) (w : World) (v : Value), ExAt N w v e → N ≤ w.heap.size → sz e ≤ 10000 → ExAt M w bv b → M ≤ w.heap.size → Held w nb bb rb nm bv →
    Calls Tryz.prog 168 #[v, .pointer (some ⟨nb, 0, none⟩), .pointer (some ⟨bb, 0, none⟩), .pointer (some ⟨rb, 0, none⟩)] w (tFr (su nm b e) w) := by
  induction e using Ex.ind with
  | h o n s ks ih =>
    intro N w v hx hN hsz hby hM hh; obtain ⟨p, cap, pl, cl, rfl, hs, ha⟩ := at_form hx; have hl := len_szs ks; have hb1 : Below w.heap.size w ((w.alloc (.cells #[.int .i64 o, .int .i64 n, .string s, .slice p ks.length cap] 43)).alloc (.cells #[.int .i64 0, .int .i64 0, .string ⟨#[]⟩, .slice none 0 0] 43)) := ((Below.refl _ _).alloc (Nat.le_refl _) _).alloc (by simp) _; have hws := hb1.size; simp only [World.size_alloc] at hws; have hh1 := hh.stay hb1; rw [sz_mk] at hsz; have RC := Lib.hid (rebuilt_subst (su nm b) ks pl cl o n s p cap N _ nb bb rb (ha.under (hb1.mono hN)) (by simp only [World.size_alloc]; omega) (by omega) hs (fun a ha' W v hW hx' => ih a ha' N W v hx' (by have := hW.size; simp only [World.size_alloc] at this; omega) (by have := sz_mem ha'; omega) ((hby.under (hb1.mono hM)).under (hW.mono (by simp only [World.size_alloc]; omega))) (by have := hW.size; simp only [World.size_alloc] at this; omega) (hh1.stay hW))); have CL := Lib.hid (clone_any b M _ bv (hby.under (hb1.mono hM)) (by simp only [World.size_alloc]; omega) hbs); have four1 := (Four.new w (.int .i64 o) (.int .i64 n) (.string s) (.slice p ks.length cap) 43).alloc (.cells #[.int .i64 0, .int .i64 0, .string ⟨#[]⟩, .slice none 0 0] 43); have four2 := Four.new (w.alloc (.cells #[.int .i64 o, .int .i64 n, .string s, .slice p ks.length cap] 43)) (.int .i64 0) (.int .i64 0) (.string ⟨#[]⟩) (.slice none 0 0) 43; rw [World.size_alloc] at four2; obtain ⟨bo, bn, bs', bx, rfl, fb⟩ := hh1.four; have m0 := fb.c0; have m1 := fb.c1; have m2 := fb.c2; have m3 := fb.c3; have m4 := hh1.name.cell; have m5 := hh1.self.cell; have d0 := four1.c0; have d1 := four1.c1; have d2 := four1.c2; have d3 := four1.c3; have HB1 := Lib.hid hb1; have HF2 := Lib.hid four2; have VC : Hid (∀ W, Calls Tryz.prog 144 #[.int .i64 o] W fun e w' => e = .returned (.bool (isVr o)) ∧ W = w') := (Lib.hid fun W => isVr_any o W); rw [su_eq]; clear ha hx ih hb1 four1 four2 hh hh1 fb hs hsz hl hby hbs hN hM; generalize ks.length = K at *
    generalize (Ex.mk o n s (ks.map (su nm b))) = E at *
    generalize isVr o = q at *
    have FIN : Hid (∀ (x : Ex) W v, Fr (w.heap.size + 2) W v x → ∀ x0 x1 x2 x3, Fr w.heap.size ((((W.setCell ⟨w.heap.size + 1, 0, none⟩ x0).setCell ⟨w.heap.size + 1, 1, none⟩ x1).setCell ⟨w.heap.size + 1, 2, none⟩ x2).setCell ⟨w.heap.size + 1, 3, none⟩ x3) v x) := (Lib.hid fun x W v h => put_fr h); cases q <;> cases h3 : (s.toList == nm.toList)
    all_goals
      go_enter Tryz.func168, Tryz.ntmps168
      go_wp2_with (first
        | (go_at_call 144; ((with_reducible refine (VC.out _).mono ?_); rintro e w1 ⟨rfl, rfl⟩))
        | (go_at_call 170; ((with_reducible refine RC.out.mono ?_); rintro e w3 ⟨v3, rfl, hfr, hb⟩; obtain ⟨p3, c3, rfl, hs3, hc3⟩ := hfr.form; have f5 := HF2.out.stay hb; have u4 := f5.f0; have u5 := f5.f1; have u6 := f5.f2; have u7 := f5.f3; have u0 := f5.c0; have u1 := f5.c1; have u2 := f5.c2; have u3 := f5.c3; have HF5 := Lib.hid f5; have HFR := Lib.hid hfr; have HB3 := Lib.hid (HB1.out.then_ hb); clear f5 hfr hb))
        | (go_at_call 169; ((with_reducible refine CL.out.mono ?_); rintro e w3 ⟨v3, rfl, hfr, hb⟩; obtain ⟨p3, c3, rfl, hs3, hc3⟩ := hfr.form; have f5 := HF2.out.stay hb; have u4 := f5.f0; have u5 := f5.f1; have u6 := f5.f2; have u7 := f5.f3; have u0 := f5.c0; have u1 := f5.c1; have u2 := f5.c2; have u3 := f5.c3; have HF5 := Lib.hid f5; have HFR := Lib.hid hfr; have HB3 := Lib.hid (HB1.out.then_ hb); clear f5 hfr hb)))
      first
        | (have hp := HF5.out.put (.int .i64 E.op) (.int .i64 E.n) (.string E.nm) (.slice p3 E.args.length c3)
           have p0 := hp.c0; have p1 := hp.c1; have p2' := hp.c2; have p3' := hp.c3; refine bodyPost_ret (v := xv E.op E.n E.nm (.slice p3 E.args.length c3)) (by simp [results, Tryz.results168, go_sem, p0, p1, p2', p3']) rfl ⟨_, rfl, FIN.out _ _ _ (by have := HFR.out; simp only [World.size_alloc] at this; exact this) _ _ _ _, below_put HB3.out (by omega) _ _ _ _⟩)
        | (have hp := HF5.out.put (.int .i64 b.op) (.int .i64 b.n) (.string b.nm) (.slice p3 b.args.length c3)
           have p0 := hp.c0; have p1 := hp.c1; have p2' := hp.c2; have p3' := hp.c3; refine bodyPost_ret (v := xv b.op b.n b.nm (.slice p3 b.args.length c3)) (by simp [results, Tryz.results168, go_sem, p0, p1, p2', p3']) rfl ⟨_, rfl, FIN.out _ _ _ (by have := HFR.out; simp only [World.size_alloc] at this; exact this) _ _ _ _, below_put HB3.out (by omega) _ _ _ _⟩)
set_option maxRecDepth 100000 in
set_option maxHeartbeats 8000000 in
theorem substCode_any (e b : Ex) (nm : ByteArray) (N : Nat) (w : World) (v bv : Value) (hx : ExAt N w v e) (hy : ExAt N w bv b) (hN : N ≤ w.heap.size) (hsz : sz e ≤ 10000) (hbs : sz b ≤ 10000) : Calls Tryz.prog 134 #[v, .string nm, bv] w (tFr (su nm b e) w) := by
  obtain ⟨p, cap, pl, cl, rfl, hs, _⟩ := hx.form; obtain ⟨p', cap', pl', cl', rfl, hs', _⟩ := hy.form; have hb5 : Below w.heap.size w (((((w.alloc (.cells #[.int .i64 e.op, .int .i64 e.n, .string e.nm, .slice p e.args.length cap] 43)).alloc (.cells #[.string nm] 9)).alloc (.cells #[.int .i64 b.op, .int .i64 b.n, .string b.nm, .slice p' b.args.length cap'] 43)).alloc (.cells #[.int .i64 0, .int .i64 0, .string ⟨#[]⟩, .slice none 0 0] 43)).alloc (.cells #[.func (.func 168) #[] #[.pointer (some ⟨w.heap.size + 1, 0, none⟩), .pointer (some ⟨w.heap.size + 1 + 1, 0, none⟩), .pointer (some ⟨w.heap.size + 1 + 1 + 1 + 1, 0, none⟩)]] 122)) := (((((Below.refl _ _).alloc (Nat.le_refl _) _).alloc (by simp) _).alloc (by simp only [World.size_alloc]; omega) _).alloc (by simp only [World.size_alloc]; omega) _).alloc (by simp only [World.size_alloc]; omega) _; have f1 := ((((Four.new w (.int .i64 e.op) (.int .i64 e.n) (.string e.nm) (.slice p e.args.length cap) 43).alloc (.cells #[.string nm] 9)).alloc (.cells #[.int .i64 b.op, .int .i64 b.n, .string b.nm, .slice p' b.args.length cap'] 43)).alloc (.cells #[.int .i64 0, .int .i64 0, .string ⟨#[]⟩, .slice none 0 0] 43)).alloc (.cells #[.func (.func 168) #[] #[.pointer (some ⟨w.heap.size + 1, 0, none⟩), .pointer (some ⟨w.heap.size + 1 + 1, 0, none⟩), .pointer (some ⟨w.heap.size + 1 + 1 + 1 + 1, 0, none⟩)]] 122); have g1 := (((Boxed.new (w.alloc (.cells #[.int .i64 e.op, .int .i64 e.n, .string e.nm, .slice p e.args.length cap] 43)) 9 (.string nm)).alloc (.cells #[.int .i64 b.op, .int .i64 b.n, .string b.nm, .slice p' b.args.length cap'] 43)).alloc (.cells #[.int .i64 0, .int .i64 0, .string ⟨#[]⟩, .slice none 0 0] 43)).alloc (.cells #[.func (.func 168) #[] #[.pointer (some ⟨w.heap.size + 1, 0, none⟩), .pointer (some ⟨w.heap.size + 1 + 1, 0, none⟩), .pointer (some ⟨w.heap.size + 1 + 1 + 1 + 1, 0, none⟩)]] 122); have f2 := ((Four.new ((w.alloc (.cells #[.int .i64 e.op, .int .i64 e.n, .string e.nm, .slice p e.args.length cap] 43)).alloc (.cells #[.string nm] 9)) (.int .i64 b.op) (.int .i64 b.n) (.string b.nm) (.slice p' b.args.length cap') 43).alloc (.cells #[.int .i64 0, .int .i64 0, .string ⟨#[]⟩, .slice none 0 0] 43)).alloc (.cells #[.func (.func 168) #[] #[.pointer (some ⟨w.heap.size + 1, 0, none⟩), .pointer (some ⟨w.heap.size + 1 + 1, 0, none⟩), .pointer (some ⟨w.heap.size + 1 + 1 + 1 + 1, 0, none⟩)]] 122); have f3 := (Four.new (((w.alloc (.cells #[.int .i64 e.op, .int .i64 e.n, .string e.nm, .slice p e.args.length cap] 43)).alloc (.cells #[.string nm] 9)).alloc (.cells #[.int .i64 b.op, .int .i64 b.n, .string b.nm, .slice p' b.args.length cap'] 43)) (.int .i64 0) (.int .i64 0) (.string ⟨#[]⟩) (.slice none 0 0) 43).alloc (.cells #[.func (.func 168) #[] #[.pointer (some ⟨w.heap.size + 1, 0, none⟩), .pointer (some ⟨w.heap.size + 1 + 1, 0, none⟩), .pointer (some ⟨w.heap.size + 1 + 1 + 1 + 1, 0, none⟩)]] 122); have g2 := Boxed.new ((((w.alloc (.cells #[.int .i64 e.op, .int .i64 e.n, .string e.nm, .slice p e.args.length cap] 43)).alloc (.cells #[.string nm] 9)).alloc (.cells #[.int .i64 b.op, .int .i64 b.n, .string b.nm, .slice p' b.args.length cap'] 43)).alloc (.cells #[.int .i64 0, .int .i64 0, .string ⟨#[]⟩, .slice none 0 0] 43)) 122 (.func (.func 168) #[] #[.pointer (some ⟨w.heap.size + 1, 0, none⟩), .pointer (some ⟨w.heap.size + 1 + 1, 0, none⟩), .pointer (some ⟨w.heap.size + 1 + 1 + 1 + 1, 0, none⟩)]); simp only [World.size_alloc] at f1 g1 f2 f3 g2; have hws := hb5.size; simp only [World.size_alloc] at hws; have hh : Held (((((w.alloc (.cells #[.int .i64 e.op, .int .i64 e.n, .string e.nm, .slice p e.args.length cap] 43)).alloc (.cells #[.string nm] 9)).alloc (.cells #[.int .i64 b.op, .int .i64 b.n, .string b.nm, .slice p' b.args.length cap'] 43)).alloc (.cells #[.int .i64 0, .int .i64 0, .string ⟨#[]⟩, .slice none 0 0] 43)).alloc (.cells #[.func (.func 168) #[] #[.pointer (some ⟨w.heap.size + 1, 0, none⟩), .pointer (some ⟨w.heap.size + 1 + 1, 0, none⟩), .pointer (some ⟨w.heap.size + 1 + 1 + 1 + 1, 0, none⟩)]] 122)) (w.heap.size + 1) (w.heap.size + 1 + 1) (w.heap.size + 1 + 1 + 1 + 1) nm (xv b.op b.n b.nm (.slice p' b.args.length cap')) := ⟨g1, g2, _, _, _, _, rfl, f2⟩; have CC := Lib.hid (subst1_any (w.heap.size + 1) (w.heap.size + 1 + 1) (w.heap.size + 1 + 1 + 1 + 1) nm b _ N hbs e N _ _ (hx.under (hb5.mono hN)) (by simp only [World.size_alloc]; omega) hsz (hy.under (hb5.mono hN)) (by simp only [World.size_alloc]; omega) hh); have d0 := f1.c0; have d1 := f1.c1; have d2 := f1.c2; have d3 := f1.c3; have d4 := g2.cell; have HB5 := Lib.hid hb5; have HF3 := Lib.hid f3; clear hx hy hs hs' hb5 f1 g1 f2 f3 hh hsz hbs; generalize su nm b e = E at *
  generalize e.op = o at *
  generalize e.n = n at *
  generalize e.nm = s at *
  generalize e.args.length = K at *
  generalize b.op = bo at *
  generalize b.n = bn at *
  generalize b.nm = bs at *
  generalize b.args.length = bK at *
  go_enter Tryz.func134, Tryz.ntmps134
  go_wp2_with (go_at_call 168; ((with_reducible refine CC.out.mono ?_); rintro e w6 ⟨v6, rfl, hfr, hb6⟩; obtain ⟨p6, c6, rfl, hs6, hc6⟩ := hfr.form; have f5 := HF3.out.stay hb6; have u4 := f5.f0; have u5 := f5.f1; have u6 := f5.f2; have u7 := f5.f3; have u0 := f5.c0; have u1 := f5.c1; have u2 := f5.c2; have u3 := f5.c3; have HF5 := Lib.hid f5; have HFR := Lib.hid hfr; have HB6 := Lib.hid (HB5.out.then_ hb6); clear f5 hfr hb6))
  have hp := HF5.out.put (.int .i64 E.op) (.int .i64 E.n) (.string E.nm) (.slice p6 E.args.length c6); have p0 := hp.c0; have p1 := hp.c1; have p2' := hp.c2; have p3' := hp.c3; refine bodyPost_ret (v := xv E.op E.n E.nm (.slice p6 E.args.length c6)) (by simp [results, Tryz.results134, go_sem, p0, p1, p2', p3']) rfl ⟨_, rfl, ?_, below_put HB6.out (by omega) _ _ _ _⟩; have := HFR.out; simp only [World.size_alloc] at this; exact ((((this.set (by omega)).set (by omega)).set (by omega)).set (by omega)).low (by omega)
end Go.Proofs.YtpejflgdehioaaaGreatDoor.ExW
namespace Go.Proofs.YtpejflgdehioaaaGreatDoor.ItW
open Go Go.RowKit Go.Proofs.YtpejflgdehioaaaGreatDoor.NumM Go.Proofs.YtpejflgdehioaaaGreatDoor.LexW Go.Proofs.YtpejflgdehioaaaGreatDoor.LexM Go.Proofs.YtpejflgdehioaaaGreatDoor.ExM Go.Proofs.YtpejflgdehioaaaGreatDoor.ExW Go.Proofs.YtpejflgdehioaaaGreatDoor.ItM
def ownX (xb : Nat) (W : World) : Option Nat := match W.cell? ⟨xb, 1, none⟩ with | some v => v.ownBlock | none => none
def Av (xb : Nat) (W : World) (b : Nat) : Prop := b < W.heap.size ∧ b ≠ xb ∧ ownX xb W ≠ some b
structure KX (xb : Nat) (W W' : World) : Prop where
  sz : W.heap.size ≤ W'.heap.size
  keep : ∀ b, Av xb W b → Av xb W' b ∧ W'.heap[b]? = W.heap[b]?
theorem KX.refl (xb : Nat) (W : World) : KX xb W W := ⟨Nat.le_refl _, fun _ h => ⟨h, rfl⟩⟩
theorem KX.trans {xb : Nat} {A B C : World} (h : KX xb A B) (k : KX xb B C) : KX xb A C :=
  ⟨Nat.le_trans h.sz k.sz, fun b hb => ⟨(k.keep b (h.keep b hb).1).1, (k.keep b (h.keep b hb).1).2.trans (h.keep b hb).2⟩⟩
theorem ownX_below {xb : Nat} {W W' : World} (hx : xb < W.heap.size) (hb : Below W.heap.size W W') : ownX xb W' = ownX xb W := by
  unfold ownX; rw [hb.cell (p := ⟨xb, 1, none⟩) hx]
theorem KX.of_below {xb : Nat} {W W' : World} (hx : xb < W.heap.size) (hb : Below W.heap.size W W') : KX xb W W' :=
  ⟨hb.size, fun b h => ⟨⟨Nat.lt_of_lt_of_le h.1 hb.size, h.2.1, by rw [ownX_below hx hb]; exact h.2.2⟩, hb.block b h.1⟩⟩
theorem Av.new {xb : Nat} {W W' : World} {b : Nat} (hx : xb < W.heap.size) (ho : ∀ k, ownX xb W = some k → k < W.heap.size) (hb : Below W.heap.size W W') (h0 : W.heap.size ≤ b) (h1 : b < W'.heap.size) : Av xb W' b :=
  ⟨h1, by omega, by rw [ownX_below hx hb]; intro e; have := ho _ e; omega⟩
theorem blk_eq {w w' : World} {b : Nat} {xs : List Value} (h : Blk w b xs) (hb : w'.heap[b]? = w.heap[b]?) : Blk w' b xs := by
  have hl : b < w'.heap.size := by
    have h1 := h.lt; rw [Array.getElem?_eq_getElem h1] at hb; exact (Array.getElem?_eq_some_iff.1 hb).1
  exact ⟨hl, fun i x hx => (World.cell?_of_block (w := w) hb).trans (h.c i x hx), fun o => (World.frozen?_of_block (w := w) hb).trans (h.f o)⟩
structure FixC (xb : Nat) (w : World) (f : FuncId) (caps : Array Value) (σ : Ex → Ex) : Prop where
  en : ∀ (args : Array Value) (W : World), (callFunc f args).run Tryz.prog W = .ok (.enter f args) W
  c : ∀ W, KX xb w W → ∀ (N : Nat) (e : Ex) (v : Value), ExAt N W v e → N ≤ W.heap.size → sz e ≤ 10000 → Calls Tryz.prog f (#[v] ++ caps) W (tFr (σ e) W)
theorem FixC.later {xb : Nat} {w w' : World} {f : FuncId} {caps : Array Value} {σ : Ex → Ex} (h : FixC xb w f caps σ) (k : KX xb w w') : FixC xb w' f caps σ := ⟨h.en, fun W hW => h.c W (k.trans hW)⟩
theorem FixC.clone (xb : Nat) (w : World) : FixC xb w 88 #[] (fun e => e) := ⟨enters_of Tryz.func88 (by kernel_rfl) rfl, fun W _ N e v hx hN hs => by
  rw [Array.append_empty]; exact cloneI_any e N W v hx hN hs⟩
structure Room4 (W : World) (g : Nat) : Prop where
  lt : g < W.heap.size
  f : ∀ o : Nat, W.frozen? ⟨g, o, none⟩ = false
  c : ∀ i : Nat, i < 4 → ∃ v, W.cell? ⟨g, i, none⟩ = some v
theorem Room4.of {W : World} {g : Nat} {x0 x1 x2 x3 : Value} (h : Blk W g [x0, x1, x2, x3]) : Room4 W g := ⟨h.lt, h.f, fun i hi => ⟨_, h.c i _ (List.getElem?_eq_getElem (by simp; omega))⟩⟩
theorem Room4.stay {W W' : World} {g : Nat} (h : Room4 W g) (hb : Below W.heap.size W W') : Room4 W' g :=
  ⟨Nat.lt_of_lt_of_le h.lt hb.size, fun o => (hb.frozen (p := ⟨g, o, none⟩) h.lt).trans (h.f o), fun i hi => by obtain ⟨v, hv⟩ := h.c i hi; exact ⟨v, (hb.cell (p := ⟨g, i, none⟩) h.lt).trans hv⟩⟩
theorem Room4.put {W : World} {g i : Nat} {x : Value} (h : Room4 W g) : Room4 (W.setCell ⟨g, i, none⟩ x) g :=
  ⟨by rw [setCell_size]; exact h.lt, fun o => by rw [World.frozen?_setCell]; exact h.f o, fun j hj => by
    obtain ⟨v, hv⟩ := h.c j hj; by_cases e : i = j
    · subst e; exact ⟨x, cell_set hv⟩
    · exact ⟨v, by rw [other _ _ e]; exact hv⟩⟩
theorem Room4.facts {W : World} {g : Nat} (h : Room4 W g) : W.frozen? ⟨g, 0, none⟩ = false ∧ W.frozen? ⟨g, 1, none⟩ = false ∧ W.frozen? ⟨g, 2, none⟩ = false ∧ W.frozen? ⟨g, 3, none⟩ = false ∧
    (∃ v, W.cell? ⟨g, 0, none⟩ = some v) ∧ (∃ v, W.cell? ⟨g, 1, none⟩ = some v) ∧ (∃ v, W.cell? ⟨g, 2, none⟩ = some v) ∧ (∃ v, W.cell? ⟨g, 3, none⟩ = some v) :=
  ⟨h.f _, h.f _, h.f _, h.f _, h.c 0 (by decide), h.c 1 (by decide), h.c 2 (by decide), h.c 3 (by decide)⟩
theorem Room4.cells {W : World} {g : Nat} (h : Room4 W g) (x0 x1 x2 x3 : Value) : Blk ((((W.setCell ⟨g, 0, none⟩ x0).setCell ⟨g, 1, none⟩ x1).setCell ⟨g, 2, none⟩ x2).setCell ⟨g, 3, none⟩ x3) g [x0, x1, x2, x3] := by
  obtain ⟨v0, h0⟩ := h.c 0 (by decide); obtain ⟨v1, h1⟩ := h.c 1 (by decide); obtain ⟨v2, h2⟩ := h.c 2 (by decide); obtain ⟨v3, h3⟩ := h.c 3 (by decide); have hb : Blk W g [v0, v1, v2, v3] := ⟨h.lt, fun i x hx => by
    rcases i with _ | _ | _ | _ | i <;> simp at hx <;> subst hx <;> assumption, h.f⟩
  exact ((((hb.set 0 _ (by simp)).set 1 _ (by simp)).set 2 _ (by simp)).set 3 _ (by simp))
structure R1 (W : World) (b7 b9 b11 : Nat) (fv : Value) (cs : List Value) (k : Int) (ecs : List Value) (W' : World) : Prop where
  h7 : Blk W' b7 [fv]
  h9 : Blk W' b9 cs
  h11 : Blk W' b11 [.int .i64 k]
  he : Blk W' W.heap.size ecs
  rm : Room4 W' (W.heap.size + 1)
  n7 : b7 < W.heap.size
  n9 : b9 < W.heap.size
  n11 : b11 < W.heap.size
  lo : Below W.heap.size W W'
theorem R1.stay {W V V' : World} {b7 b9 b11 : Nat} {fv : Value} {cs : List Value} {k : Int} {ecs : List Value} (h : R1 W b7 b9 b11 fv cs k ecs V) (hb : Below V.heap.size V V') : R1 W b7 b9 b11 fv cs k ecs V' :=
  ⟨h.h7.stay hb, h.h9.stay hb, h.h11.stay hb, h.he.stay hb, h.rm.stay hb, h.n7, h.n9, h.n11, h.lo.trans (hb.mono h.lo.size)⟩
theorem R1.put {W V : World} {b7 b9 b11 i : Nat} {fv x : Value} {cs : List Value} {k : Int} {ecs : List Value} (h : R1 W b7 b9 b11 fv cs k ecs V) : R1 W b7 b9 b11 fv cs k ecs (V.setCell ⟨W.heap.size + 1, i, none⟩ x) :=
  ⟨h.h7.far (by have := h.n7; omega), h.h9.far (by have := h.n9; omega), h.h11.far (by have := h.n11; omega), h.he.far (by omega), h.rm.put, h.n7, h.n9, h.n11, h.lo.setCell (p := ⟨W.heap.size + 1, i, none⟩) (by show W.heap.size ≤ W.heap.size + 1; omega) _⟩
theorem R1.put4 {W V : World} {b7 b9 b11 : Nat} {fv : Value} {cs : List Value} {k : Int} {ecs : List Value} (h : R1 W b7 b9 b11 fv cs k ecs V) (x0 x1 x2 x3 : Value) : R1 W b7 b9 b11 fv cs k ecs ((((V.setCell ⟨W.heap.size + 1, 0, none⟩ x0).setCell ⟨W.heap.size + 1, 1, none⟩ x1).setCell ⟨W.heap.size + 1, 2, none⟩ x2).setCell ⟨W.heap.size + 1, 3, none⟩ x3) := h.put.put.put.put
abbrev S1 (W : World) (b7 b9 b11 : Nat) (f : FuncId) (caps : Array Value) (ix : ByteArray) (cs : List Value) (k o n : Int) (en : ByteArray) (x : Value) (W' : World) : Prop :=
  W'.cell? ⟨b7, 0, none⟩ = some (.func (.func f) #[] caps) ∧ W'.cell? ⟨b9, 6, none⟩ = some (.string ix) ∧ W'.cell? ⟨b11, 0, none⟩ = some (.int .i64 k) ∧
    W'.cell? ⟨W.heap.size, 0, none⟩ = some (.int .i64 o) ∧ W'.cell? ⟨W.heap.size, 1, none⟩ = some (.int .i64 n) ∧ W'.cell? ⟨W.heap.size, 2, none⟩ = some (.string en) ∧ W'.cell? ⟨W.heap.size, 3, none⟩ = some x ∧
    R1 W b7 b9 b11 (.func (.func f) #[] caps) cs k [.int .i64 o, .int .i64 n, .string en, x] W'
theorem S1.r {W : World} {b7 b9 b11 : Nat} {f : FuncId} {caps : Array Value} {ix : ByteArray} {cs : List Value} {k o n : Int} {en : ByteArray} {x : Value} {W' : World} (h : S1 W b7 b9 b11 f caps ix cs k o n en x W') : R1 W b7 b9 b11 (.func (.func f) #[] caps) cs k [.int .i64 o, .int .i64 n, .string en, x] W' := h.2.2.2.2.2.2.2
theorem S1.of {W : World} {b7 b9 b11 : Nat} {f : FuncId} {caps : Array Value} {ix : ByteArray} {cs : List Value} {k o n : Int} {en : ByteArray} {x : Value} {W' : World} (hc : cs[6]? = some (.string ix)) (h : R1 W b7 b9 b11 (.func (.func f) #[] caps) cs k [.int .i64 o, .int .i64 n, .string en, x] W') : S1 W b7 b9 b11 f caps ix cs k o n en x W' :=
  ⟨h.h7.c 0 _ rfl, h.h9.c 6 _ hc, h.h11.c 0 _ rfl, h.he.c 0 _ rfl, h.he.c 1 _ rfl, h.he.c 2 _ rfl, h.he.c 3 _ rfl, h⟩
theorem fr_put4 {w : World} {v : Value} {e : Ex} {g : Nat} (h : Fr (g + 1) w v e) (x0 x1 x2 x3 : Value) : Fr (g + 1) ((((w.setCell ⟨g, 0, none⟩ x0).setCell ⟨g, 1, none⟩ x1).setCell ⟨g, 2, none⟩ x2).setCell ⟨g, 3, none⟩ x3) v e := (((h.set (by omega)).set (by omega)).set (by omega)).set (by omega)
set_option maxRecDepth 100000 in
set_option maxHeartbeats 16000000 in
theorem FixC.step {xb : Nat} {w : World} {f : FuncId} {caps : Array Value} {σ : Ex → Ex} (hf : FixC xb w f caps σ) (hσ : ∀ e, sz (σ e) ≤ sz e) (hx : xb < w.heap.size) {b7 b9 b11 : Nat} {cs : List Value} {ix : ByteArray} {k : Int}
    (h7 : Blk w b7 [.func (.func f) #[] caps]) (h9 : Blk w b9 cs) (hc : cs[6]? = some (.string ix)) (h11 : Blk w b11 [.int .i64 k]) (a7 : Av xb w b7) (a9 : Av xb w b9) (a11 : Av xb w b11) :
    FixC xb w 133 #[.pointer (some ⟨b7, 0, none⟩), .pointer (some ⟨b9, 0, none⟩), .pointer (some ⟨b11, 0, none⟩)] (fun a => su ix (cst k) (σ a)) := by
  refine ⟨enters_of Tryz.func133 (by kernel_rfl) rfl, ?_⟩; intro W hW N e v hx' hN hsz; have hen := hf.en; obtain ⟨p, cap, pl, cl, rfl, hs, ha⟩ := hx'.form; have HF : Hid (∀ V, Below W.heap.size W V → Calls Tryz.prog f (#[xv e.op e.n e.nm (.slice p e.args.length cap)] ++ caps) V (tFr (σ e) V)) := (Lib.hid fun V hV => hf.c V (hW.trans (KX.of_below (by have := hW.sz; omega) hV)) N e _ (hx'.under (hV.mono hN)) (by have := hV.size; omega) hsz); have SU : Hid (∀ V v, ExAt V.heap.size V v (σ e) → Calls Tryz.prog 134 #[v, .string ix, xv 1 k ⟨#[]⟩ (.slice none 0 0)] V (tFr (su ix (cst k) (σ e)) V)) := (Lib.hid fun V v h => substCode_any (σ e) (cst k) ix _ V v _ h (ExAt.mk (N := V.heap.size) (w := V) (o := 1) (n := k) (s := ⟨#[]⟩) (ks := []) (p := none) (cap := 0) (fun _ => none) (fun _ => 0) (by decide) (by decide) (by decide) (fun h => absurd h (by decide)) (fun i a h => by rw [List.getElem?_nil] at h; cases h)) (Nat.le_refl _) (Nat.le_trans (hσ e) hsz) (by unfold cst; simp [sz, szs])); have B7 := blk_eq h7 (hW.keep b7 a7).2; have B9 := blk_eq h9 (hW.keep b9 a9).2; have B11 := blk_eq h11 (hW.keep b11 a11).2; have b12 := (ba W (.cells #[.int .i64 e.op, .int .i64 e.n, .string e.nm, .slice p e.args.length cap] 43)).then_ (ba _ (.cells #[.int .i64 0, .int .i64 0, .string ⟨#[]⟩, .slice none 0 0] 43)); have E0 := (Blk.new W [.int .i64 e.op, .int .i64 e.n, .string e.nm, .slice p e.args.length cap] 43).alloc (.cells #[.int .i64 0, .int .i64 0, .string ⟨#[]⟩, .slice none 0 0] 43); have E1 := Blk.new (W.alloc (.cells #[.int .i64 e.op, .int .i64 e.n, .string e.nm, .slice p e.args.length cap] 43)) [.int .i64 0, .int .i64 0, .string ⟨#[]⟩, .slice none 0 0] 43; rw [World.size_alloc] at E1; have KP := S1.of hc (R1.mk (B7.stay b12) (B9.stay b12) (B11.stay b12) E0 (.of E1) B7.lt B9.lt B11.lt b12); have EC : Hid (∀ V V', S1 W b7 b9 b11 f caps ix cs k e.op e.n e.nm (.slice p e.args.length cap) V → Below V.heap.size V V' → S1 W b7 b9 b11 f caps ix cs k e.op e.n e.nm (.slice p e.args.length cap) V') := (Lib.hid fun V V' h hb => S1.of hc (h.r.stay hb)); have EC2 : Hid (∀ V x0 x1 x2 x3, S1 W b7 b9 b11 f caps ix cs k e.op e.n e.nm (.slice p e.args.length cap) V → S1 W b7 b9 b11 f caps ix cs k e.op e.n e.nm (.slice p e.args.length cap) ((((V.setCell ⟨W.heap.size + 1, 0, none⟩ x0).setCell ⟨W.heap.size + 1, 1, none⟩ x1).setCell ⟨W.heap.size + 1, 2, none⟩ x2).setCell ⟨W.heap.size + 1, 3, none⟩ x3)) := (Lib.hid fun V x0 x1 x2 x3 h => S1.of hc (h.r.put4 _ _ _ _)); clear hf hσ h7 h9 h11 B7 B9 B11 b12 E0 E1 hx' ha hs hsz a7 a9 a11 hx hW hN hc; simp only [List.toArray] at KP; generalize su ix (cst k) (σ e) = E at *
  generalize σ e = F at *
  generalize e.op = o at *
  generalize e.n = n at *
  generalize e.nm = en at *
  generalize e.args.length = K at *
  go_enter Tryz.func133, Tryz.ntmps133
  go_wp2; obtain ⟨W0, hW0⟩ : ∃ W0, (W.alloc (.cells #[.int .i64 o, .int .i64 n, .string en, .slice p K cap] 43)).alloc (.cells #[.int .i64 0, .int .i64 0, .string ⟨#[]⟩, .slice none 0 0] 43) = W0 := ⟨_, rfl⟩; rw [hW0] at KP ⊢; clear hW0; have k1 := EC.out _ W0.drew KP (Below.refl _ _).drew
  have K1 : Hid (∀ V, S1 W b7 b9 b11 f caps ix cs k o n en (.slice p K cap) V → Calls Tryz.prog f (#[xv o n en (.slice p K cap)] ++ caps) V fun x w' => ∃ q c, x = .returned (xv F.op F.n F.nm (.slice q F.args.length c)) ∧ S1 W b7 b9 b11 f caps ix cs k o n en (.slice p K cap) w' ∧ Hid (ExAt w'.heap.size w' (xv F.op F.n F.nm (.slice q F.args.length c)) F)) :=
    Lib.hid fun V h => (HF.out V h.r.lo).mono fun x w' ⟨v, h1, h2, h3⟩ => by
      obtain ⟨q, c, rfl, _⟩ := h2.form; exact ⟨q, c, h1, EC.out _ _ h h3, Lib.hid h2.at_⟩
  have K2 : Hid (∀ V, S1 W b7 b9 b11 f caps ix cs k o n en (.slice p K cap) V → Calls Tryz.prog 135 #[.int .i64 k] V fun x w' => x = .returned (xv 1 k ⟨#[]⟩ (.slice none 0 0)) ∧ S1 W b7 b9 b11 f caps ix cs k o n en (.slice p K cap) w' ∧ Hid (Below V.heap.size V w')) :=
    Lib.hid fun V h => (constant_any k V).mono fun x w' ⟨h1, h2⟩ => ⟨h1, EC.out _ _ h h2, Lib.hid h2⟩
  have K3 : Hid (∀ V v, S1 W b7 b9 b11 f caps ix cs k o n en (.slice p K cap) V → Hid (ExAt V.heap.size V v F) → Calls Tryz.prog 134 #[v, .string ix, xv 1 k ⟨#[]⟩ (.slice none 0 0)] V fun x w' => ∃ q c, x = .returned (xv E.op E.n E.nm (.slice q E.args.length c)) ∧ S1 W b7 b9 b11 f caps ix cs k o n en (.slice p K cap) w' ∧ Hid (Fr (W.heap.size + 2) w' (xv E.op E.n E.nm (.slice q E.args.length c)) E)) :=
    Lib.hid fun V v h hv => (SU.out V v hv.out).mono fun x w' ⟨v, h1, h2, h3⟩ => by
      obtain ⟨q, c, rfl, _⟩ := h2.form; exact ⟨q, c, h1, EC.out _ _ h h3, Lib.hid (h2.low (by have := h.r.rm.lt; omega))⟩
  have UP : Hid (∀ V V' v, Hid (ExAt V.heap.size V v F) → Hid (Below V.heap.size V V') → Hid (ExAt V'.heap.size V' v F)) := (Lib.hid fun V V' v h hb => Lib.hid ((h.out.under hb.out).wide hb.out.size)); clear SU HF EC
  go_region_held3 (fun V => V.cell? ⟨b7, 0, none⟩ = some (.func (.func f) #[] caps) ∧ V.cell? ⟨b9, 6, none⟩ = some (.string ix) ∧ V.cell? ⟨b11, 0, none⟩ = some (.int .i64 k) ∧
    V.cell? ⟨W.heap.size, 0, none⟩ = some (.int .i64 o) ∧ V.cell? ⟨W.heap.size, 1, none⟩ = some (.int .i64 n) ∧ V.cell? ⟨W.heap.size, 2, none⟩ = some (.string en) ∧ V.cell? ⟨W.heap.size, 3, none⟩ = some (.slice p K cap) ∧
    R1 W b7 b9 b11 (.func (.func f) #[] caps) cs k [.int .i64 o, .int .i64 n, .string en, .slice p K cap] V)
    (first | with_reducible assumption | (refine EC2.out _ _ _ _ _ ?_; with_reducible assumption) | fail)
    (first
      | (go_at_call 135; (with_reducible refine (K2.out _ ?_).mono ?_); assumption; rintro x w6 ⟨rfl, hg6, hb6⟩)
      | (go_at_call 134; (with_reducible refine (K3.out _ _ ?_ ?_).mono ?_); assumption; (first | with_reducible exact hs5 | with_reducible exact UP.out _ _ _ hs5 hb6); rintro x w7 ⟨q7, c7, rfl, hg7, hs7⟩; obtain ⟨z0, z1, z2, z3, ⟨_, y0⟩, ⟨_, y1⟩, ⟨_, y2⟩, ⟨_, y3⟩⟩ := hg7.r.rm.facts)
      | ((with_reducible refine (K1.out _ ?_).mono ?_); assumption; rintro x w5 ⟨q5, c5, rfl, hg5, hs5⟩))
  all_goals
    have HP := hg7.r.rm.cells (.int .i64 E.op) (.int .i64 E.n) (.string E.nm) (.slice q7 E.args.length c7); have p0 := HP.c 0 _ rfl; have p1 := HP.c 1 _ rfl; have p2 := HP.c 2 _ rfl; have p3 := HP.c 3 _ rfl; have hl := (hg7.r.put4 (.int .i64 E.op) (.int .i64 E.n) (.string E.nm) (.slice q7 E.args.length c7)).lo; have hr := (fr_put4 (g := W.heap.size + 1) hs7.out (.int .i64 E.op) (.int .i64 E.n) (.string E.nm) (.slice q7 E.args.length c7)).low (lo' := W.heap.size) (by omega); clear K1 K2 K3 UP EC2 KP k1 HP hg5 hg6 hg7 hs5 hs7; go_wp2; exact bodyPost_ret (v := xv E.op E.n E.nm (.slice q7 E.args.length c7)) (by simp [results, Tryz.results133, go_sem, p0, p1, p2, p3]) rfl ⟨_, rfl, hr, hl⟩
end Go.Proofs.YtpejflgdehioaaaGreatDoor.ItW
namespace Go.Proofs.YtpejflgdehioaaaGreatDoor.ExW
open Go Go.RowKit Go.Proofs.YtpejflgdehioaaaGreatDoor.NumM Go.Proofs.YtpejflgdehioaaaGreatDoor.LexW Go.Proofs.YtpejflgdehioaaaGreatDoor.LexM Go.Proofs.YtpejflgdehioaaaGreatDoor.ExM
theorem named_any (o : Int) (w : World) : Calls Tryz.prog 157 #[.int .i64 o] w fun e w' => e = .returned (.bool (isVr o || isAr o)) ∧ w = w' := by
  by_cases h2 : o = 2
  · subst h2
    go_enter Tryz.func157, Tryz.ntmps157
    go_wp2; go_ret; exact ⟨rfl, rfl⟩
  · by_cases h3 : o = 3
    · subst h3
      go_enter Tryz.func157, Tryz.ntmps157
      go_wp2; go_ret; exact ⟨rfl, rfl⟩
    · have e2 : (o == 2) = false := (by rw [beq_eq_false_iff_ne]; exact h2); have e3 : (o == 3) = false := (by rw [beq_eq_false_iff_ne]; exact h3); have EE : Hid ((isVr o || isAr o) = (o == 24)) := Lib.hid (by unfold isVr isAr; rw [decide_eq_false h2, decide_eq_false h3, Bool.eq_iff_iff]; simp); clear h2 h3
      go_enter Tryz.func157, Tryz.ntmps157
      go_wp2; go_ret; exact ⟨retb (by rw [EE.out]), rfl⟩
def StrsA (w : World) (v : Value) (l : List ByteArray) : Prop :=
  ∃ p cap, v = .slice p l.length cap ∧ l.length ≤ cap ∧ (0 < l.length → ∃ b off, p = some ⟨b, off, none⟩ ∧ ∀ i s, l[i]? = some s → w.cell? ⟨b, off + i, none⟩ = some (.string s))
open Classical in
noncomputable def inL (s : ByteArray) (l : List ByteArray) : Bool := decide (s ∈ l)
open Classical in
theorem inL_yes {s : ByteArray} {l : List ByteArray} {i : Nat} {t : ByteArray} (h : l[i]? = some t) (e : t.data.toList = s.data.toList) : inL s l = true := by
  unfold inL; obtain rfl := bs_inj e; exact decide_eq_true (List.mem_of_getElem? h)
open Classical in
theorem inL_no {s : ByteArray} {l : List ByteArray} (h : ∀ (i : Nat) t, i < l.length → l[i]? = some t → t.data.toList ≠ s.data.toList) : inL s l = false := by
  unfold inL; refine (decide_eq_false fun hm => ?_); obtain ⟨i, hi, e⟩ := List.mem_iff_getElem.1 hm; exact h i s hi (by rw [List.getElem?_eq_getElem hi, e]) rfl
set_option maxRecDepth 100000 in
set_option maxHeartbeats 2000000 in
theorem has_any (l : List ByteArray) (v : Value) (s : ByteArray) (w : World) (h : StrsA w v l) (hl : l.length ≤ 100000) :
    Calls Tryz.prog 156 #[v, .string s] w fun e w' => e = .returned (.bool (inL s l)) ∧ w = w' := by
  obtain ⟨p, cap, rfl, hcap, hx⟩ := h; have HX := Lib.hid hx; clear hx hcap; obtain ⟨n, hnn⟩ : ∃ n, l.length = n := ⟨_, rfl⟩; have HN := Lib.hid hnn; rw [hnn] at hl ⊢; clear hnn
  go_enter Tryz.func156, Tryz.ntmps156
  go_wp2; go_loop [5] (fun i => ∃ k : Nat, k ≤ n ∧ i = .int .i64 k ∧ Hid (∀ (j : Nat) t, j < k → l[j]? = some t → t.data.toList ≠ s.data.toList)) (fun i => n - (intOf i).toNat)
  case atStart => exact ⟨0, Nat.zero_le _, rfl, Lib.hid fun j _ h => by omega⟩
  case round =>
    obtain ⟨k, hk, rfl, NO⟩ := hrel; by_cases hlt : k < n
    · obtain ⟨b, off, rfl, hcell⟩ := HX.out (by rw [HN.out]; omega); obtain ⟨y, hyk⟩ : ∃ y, l[k]? = some y := ⟨_, List.getElem?_eq_getElem (by rw [HN.out]; exact hlt)⟩; have ca0 := hcell k y hyk; have HY := Lib.hid hyk; clear hcell hyk; by_cases e : y.data.toList = s.data.toList
      · have e1 : (y.toList == s.toList) = true := (by rw [Lib.toList_data, Lib.toList_data, e]; simp); have EE := Lib.hid (inL_yes HY.out e); clear e; go_wp2; go_ret; exact ⟨retb EE.out.symm, rfl⟩
      · have e1 : (y.toList == s.toList) = false := (by rw [Lib.toList_data, Lib.toList_data]; simpa using e); have NO2 : Hid (∀ (j : Nat) t, j < k + 1 → l[j]? = some t → t.data.toList ≠ s.data.toList) := Lib.hid fun j t hj ht => by
          rcases Nat.lt_or_ge j k with h | h
          · exact NO.out j t h ht
          · obtain rfl : j = k := (by omega); rw [HY.out] at ht; cases ht; exact e
        clear e; go_wp2; go_round
        case rel => exact ⟨k + 1, by omega, by go_num, NO2⟩
        case measure => simp [intOf]; omega
    · have EE := Lib.hid (inL_no (s := s) (l := l) (fun i t hi ht => NO.out i t (by rw [HN.out] at hi; omega) ht)); go_wp2; go_ret; exact ⟨retb EE.out.symm, rfl⟩
theorem last3 (s : ByteArray) (m : Nat) (h : s.size = m + 3) (h1 : m < s.size) (h2 : m + 1 < s.size) (h3 : m + 2 < s.size) : s.data.toList = (s.extract 0 m).data.toList ++ [s[m], s[m + 1], s[m + 2]] := by
  rw [ext_list]; apply List.ext_getElem
  · simp; omega
  · intro i a b; rw [List.getElem_append]; have hl : s.data.toList.length = m + 3 := (by rw [len_data]; exact h); split
    · rename_i g; simp
    · rename_i g; simp at g; have : i = m ∨ i = m + 1 ∨ i = m + 2 := (by omega); rcases this with rfl | rfl | rfl
      all_goals simp [hl]
      all_goals rfl
theorem elm_last {r : List UInt8} {b d c : UInt8} : elmB (r ++ [b, d, c]) = (decide (c = 93) && (decide (b = 91) && (decide (48 ≤ d.toNat ∧ d.toNat ≤ 55) && nmB r))) := by
  unfold elmB; simp
def tSplit (x : Bool) (w : World) (e : Ending) (w' : World) : Prop := ∃ t i, e = .returned (.tuple #[.string t, .int .i64 i, .bool x]) ∧ Below w.heap.size w w'
theorem tSplit_mk {x y : Bool} {t : ByteArray} {i : Int} {w w' : World} (h : x = y) (hb : Below w.heap.size w w') : tSplit y w (.returned (.tuple #[.string t, .int .i64 i, .bool x])) w' := by subst h; exact ⟨t, i, rfl, hb⟩
set_option maxRecDepth 100000 in
set_option maxHeartbeats 4000000 in
theorem split_any (s : ByteArray) (w : World) (hs : s.size ≤ 140737488351232) : Calls Tryz.prog 154 #[.string s] w (tSplit (elmB s.data.toList) w) := by
  have HB0 := Lib.hid (Below.refl w.heap.size w); by_cases h4 : s.size < 4
  · have EE : Hid (false = elmB s.data.toList) := Lib.hid (by
      rw [eq_comm, Bool.eq_false_iff]; intro h; obtain ⟨r, d, e, _, hn⟩ := elm_iff.1 h; have := congrArg List.length e; rw [len_data] at this; have : r = [] := List.length_eq_zero_iff.1 (by simp at this; omega); subst this; simp [nmB] at hn)
    have h4' : (s.size : Int) < 4 := by omega
    go_enter Tryz.func154, Tryz.ntmps154
    go_wp2; refine bodyPost_ret (v := .tuple #[.string ⟨#[]⟩, .int .i64 0, .bool false]) (by simp [results, Tryz.results154, go_sem]) rfl ?_; exact tSplit_mk EE.out HB0.out
  · obtain ⟨m, hm⟩ : ∃ m, s.size = m + 3 := ⟨s.size - 3, by omega⟩; have hL := last3 s m hm (by omega) (by omega) (by omega); obtain ⟨t, ht⟩ : ∃ t, s.extract 0 m = t := ⟨_, rfl⟩; have hts : t.size ≤ 140737488351232 := (by rw [← ht]; simp; omega); have hm0 : m < s.size := (by omega); have hm1 : m + 1 < s.size := (by omega); have hm2 : m + 2 < s.size := (by omega); have EV : Hid (elmB s.data.toList = (decide (s[m + 2] = 93) && (decide (s[m] = 91) && (decide (48 ≤ s[m + 1].toNat ∧ s[m + 1].toNat ≤ 55) && nmB t.data.toList)))) := Lib.hid (by rw [hL, elm_last, ht]); have NC : Hid (∀ W, Calls Tryz.prog 42 #[.string t] W (tBool (nmB t.data.toList) W)) := (Lib.hid fun W => nameR_any t W hts); have i1 : ((s.size : Int) - 1).toNat = m + 2 := (by omega); have i2 : ((s.size : Int) - 2).toNat = m + 1 := (by omega); have i3 : ((s.size : Int) - 3).toNat = m := (by omega); have j1 : (s.size : Int) - 1 < (s.size : Int) := (by omega); have j2 : (s.size : Int) - 2 < (s.size : Int) := (by omega); have j3 : (s.size : Int) - 3 < (s.size : Int) := (by omega); have h4' : ¬ (s.size : Int) < 4 := (by omega); clear hL; by_cases g1 : (s[m + 2].toNat : Int) = 93
    · by_cases g2 : (s[m].toNat : Int) = 91
      · have s1 : s[m + 2] = 93 := UInt8.toNat_inj.1 (by show s[m + 2].toNat = 93; omega); have s2 : s[m] = 91 := UInt8.toNat_inj.1 (by show s[m].toNat = 91; omega); have EV2 : Hid (elmB s.data.toList = (decide (48 ≤ s[m + 1].toNat ∧ s[m + 1].toNat ≤ 55) && nmB t.data.toList)) := Lib.hid (by rw [EV.out, decide_eq_true s1, decide_eq_true s2]; rfl); clear s1 s2 EV; obtain ⟨d, hd⟩ : ∃ d : Nat, s[m + 1].toNat = d := ⟨_, rfl⟩; have hd2 : (d : Int) ≤ 255 := (by have := s[m + 1].toNat_lt; omega); rw [hd] at EV2; by_cases g3 : (48 : Int) ≤ d
        · by_cases g4 : (d : Int) ≤ 55
          · have EV3 : Hid (elmB s.data.toList = nmB t.data.toList) := Lib.hid (by rw [EV2.out, decide_eq_true ⟨by omega, by omega⟩]; rfl); clear EV2; generalize nmB t.data.toList = q at *
            cases q
            · go_enter Tryz.func154, Tryz.ntmps154
              go_wp2_with (go_at_call 42; ((with_reducible refine (NC.out _).mono ?_); rintro e w1 ⟨rfl, hb⟩; have HB1 := Lib.hid hb; clear hb))
              refine bodyPost_ret (v := .tuple #[.string ⟨#[]⟩, .int .i64 0, .bool false]) (by simp [results, Tryz.results154, go_sem]) rfl ?_; exact tSplit_mk EV3.out.symm HB1.out
            · go_enter Tryz.func154, Tryz.ntmps154
              go_wp2_with (go_at_call 42; ((with_reducible refine (NC.out _).mono ?_); rintro e w1 ⟨rfl, hb⟩; have HB1 := Lib.hid hb; clear hb))
              refine bodyPost_ret (v := .tuple #[.string t, .int .i64 ((d : Int) - 48), .bool true]) (by simp [results, Tryz.results154, go_sem]) rfl ?_; exact tSplit_mk EV3.out.symm HB1.out
          · have EE : Hid (false = elmB s.data.toList) := Lib.hid (by rw [EV2.out, decide_eq_false (by omega)]; rfl); clear EV2 NC
            go_enter Tryz.func154, Tryz.ntmps154
            go_wp2; refine bodyPost_ret (v := .tuple #[.string ⟨#[]⟩, .int .i64 0, .bool false]) (by simp [results, Tryz.results154, go_sem]) rfl ?_; exact tSplit_mk EE.out HB0.out
        · have EE : Hid (false = elmB s.data.toList) := Lib.hid (by rw [EV2.out, decide_eq_false (by omega)]; rfl); clear EV2 NC
          go_enter Tryz.func154, Tryz.ntmps154
          go_wp2; refine bodyPost_ret (v := .tuple #[.string ⟨#[]⟩, .int .i64 0, .bool false]) (by simp [results, Tryz.results154, go_sem]) rfl ?_; exact tSplit_mk EE.out HB0.out
      · have g2' : ((s[m].toNat : Int) != 91) = true := (by rw [bne_iff_ne]; exact g2); have EE : Hid (false = elmB s.data.toList) := Lib.hid (by
          rw [EV.out, decide_eq_false (fun h : s[m] = 91 => by rw [h] at g2; exact g2 rfl)]; simp)
        clear g2 EV NC
        go_enter Tryz.func154, Tryz.ntmps154
        go_wp2; refine bodyPost_ret (v := .tuple #[.string ⟨#[]⟩, .int .i64 0, .bool false]) (by simp [results, Tryz.results154, go_sem]) rfl ?_; exact tSplit_mk EE.out HB0.out
    · have g1' : ((s[m + 2].toNat : Int) != 93) = true := (by rw [bne_iff_ne]; exact g1); have EE : Hid (false = elmB s.data.toList) := Lib.hid (by
        rw [EV.out, decide_eq_false (by intro h; rw [h] at g1; exact g1 rfl)]; rfl)
      clear g1 EV NC
      go_enter Tryz.func154, Tryz.ntmps154
      go_wp2; refine bodyPost_ret (v := .tuple #[.string ⟨#[]⟩, .int .i64 0, .bool false]) (by simp [results, Tryz.results154, go_sem]) rfl ?_; exact tSplit_mk EE.out HB0.out
theorem isVarR_any (s : ByteArray) (w : World) (hs : s.size ≤ 140737488351232) : Calls Tryz.prog 166 #[.string s] w (tBool (varB s.data.toList) w) := by
  have SC := Lib.hid (split_any s w hs); have NC : Hid (∀ W, Calls Tryz.prog 42 #[.string s] W (tBool (nmB s.data.toList) W)) := (Lib.hid fun W => nameR_any s W hs); have EE : Hid (varB s.data.toList = (elmB s.data.toList || nmB s.data.toList)) := Lib.hid rfl; generalize varB s.data.toList = v at *
  generalize elmB s.data.toList = x at *
  generalize nmB s.data.toList = y at *
  cases x
  all_goals
    go_enter Tryz.func166, Tryz.ntmps166
    go_wp2_with (first
      | (go_at_call 154; ((with_reducible refine SC.out.mono ?_); rintro e w1 ⟨t, i, rfl, hb⟩; have HB1 := Lib.hid hb; clear hb))
      | (go_at_call 42; ((with_reducible refine (NC.out _).mono ?_); rintro e w2 ⟨rfl, hb⟩; have HB2 := Lib.hid (HB1.out.then_ hb); clear hb)))
    go_ret; first
      | exact tBool_mk (by rw [EE.out]; rfl) HB2.out
      | exact tBool_mk (by rw [EE.out]; rfl) HB1.out
theorem takes_out {o : Int} {k : Nat} (h : ¬ (1 ≤ o ∧ o ≤ 25)) : takesS o k = false := by
  unfold takesS; rw [if_neg (by omega), ar_out h]; exact decide_eq_false (by omega)
theorem great_cases (o : Int) : (o = 1 ∧ greatS o = 65535) ∨ (o ≠ 1 ∧ greatS o = 0) := by
  unfold greatS; by_cases h : o = 1
  · exact .inl ⟨h, if_pos h⟩
  · exact .inr ⟨h, if_neg h⟩
theorem flt_eq (o n : Int) (s : ByteArray) (k : Nat) : fltS ⟨0, o, n, s, k⟩ = if (!takesS o k || (decide (n < 0) || (decide (greatS o < n) || (!decide (s.size = 0) && (!isVr o && !isAr o))))) = true then 1 else if ((isVr o && !varB s.data.toList) || (isAr o && !nmB s.data.toList)) = true then 7 else 0 := rfl
set_option maxRecDepth 100000 in
set_option maxHeartbeats 8000000 in
theorem wrong_any (o n : Int) (s : ByteArray) (p : Option Addr) (k cap : Nat) (w : World) (hs : s.size ≤ 140737488351232) (hk : k ≤ 140737488351232) :
    Calls Tryz.prog 155 #[xv o n s (.slice p k cap)] w (tInt (fltS ⟨0, o, n, s, k⟩) w) := by
  have NC : Hid (∀ W, Calls Tryz.prog 157 #[.int .i64 o] W fun e w' => e = .returned (.bool (isVr o || isAr o)) ∧ W = w') := (Lib.hid fun W => named_any o W); have AC : Hid (∀ W, Calls Tryz.prog 177 #[.int .i64 o] W fun e w' => e = .returned (.int .i64 (arS o)) ∧ W = w') := (Lib.hid fun W => arityR_any o W); have VC : Hid (∀ W, Calls Tryz.prog 166 #[.string s] W (tBool (varB s.data.toList) W)) := (Lib.hid fun W => isVarR_any s W hs); have IC : Hid (∀ W, Calls Tryz.prog 42 #[.string s] W (tBool (nmB s.data.toList) W)) := (Lib.hid fun W => nameR_any s W hs); have FF := Lib.hid (flt_eq o n s k); have HB0 : Hid (Below w.heap.size w (w.alloc (.cells #[.int .i64 o, .int .i64 n, .string s, .slice p k cap] 43))) := Lib.hid ((Below.refl _ _).alloc (Nat.le_refl _) _); have four := Four.new w (.int .i64 o) (.int .i64 n) (.string s) (.slice p k cap) 43; have c0 := four.c0; have c1 := four.c1; have c2 := four.c2; have c3 := four.c3; have hse := str_empty s; clear hs four; by_cases ho : 1 ≤ o ∧ o ≤ 25
  · obtain ⟨ho1, ho2⟩ := ho; by_cases hn : n < 0
    · have FE : Hid (fltS ⟨0, o, n, s, k⟩ = 1) := Lib.hid (by rw [FF.out, decide_eq_true hn]; simp); clear FF hse
      go_enter Tryz.func155, Tryz.ntmps155
      go_wp2_with (first
        | (go_at_call 157; ((with_reducible refine (NC.out _).mono ?_); rintro e w1 ⟨rfl, rfl⟩))
        | (go_at_call 177; ((with_reducible refine (AC.out _).mono ?_); rintro e w1 ⟨rfl, rfl⟩))
        | (go_at_call 166; ((with_reducible refine (VC.out _).mono ?_); rintro e w1 ⟨rfl, hb⟩; have k0 := (hb.cell (p := ⟨w.heap.size, 0, none⟩) (by simp)).trans c0; have k2 := (hb.cell (p := ⟨w.heap.size, 2, none⟩) (by simp)).trans c2; have HB1 := Lib.hid (HB0.out.then_ hb); clear hb))
        | (go_at_call 42; ((with_reducible refine (IC.out _).mono ?_); rintro e w1 ⟨rfl, hb⟩; have HB1 := Lib.hid (HB0.out.then_ hb); clear hb)))
      go_ret; first
        | exact tInt_mk (FE.out.symm) HB1.out
        | exact tInt_mk (FE.out.symm) HB0.out
    · by_cases hg : 65535 < n
      · have FE : Hid (fltS ⟨0, o, n, s, k⟩ = 1) := Lib.hid (by rw [FF.out, decide_eq_true (show greatS o < n by rcases great_cases o with ⟨_, h⟩ | ⟨_, h⟩ <;> omega)]; simp); clear FF hse
        go_enter Tryz.func155, Tryz.ntmps155
        go_wp2_with (first
          | (go_at_call 157; ((with_reducible refine (NC.out _).mono ?_); rintro e w1 ⟨rfl, rfl⟩))
          | (go_at_call 177; ((with_reducible refine (AC.out _).mono ?_); rintro e w1 ⟨rfl, rfl⟩))
          | (go_at_call 166; ((with_reducible refine (VC.out _).mono ?_); rintro e w1 ⟨rfl, hb⟩; have k0 := (hb.cell (p := ⟨w.heap.size, 0, none⟩) (by simp)).trans c0; have k2 := (hb.cell (p := ⟨w.heap.size, 2, none⟩) (by simp)).trans c2; have HB1 := Lib.hid (HB0.out.then_ hb); clear hb))
          | (go_at_call 42; ((with_reducible refine (IC.out _).mono ?_); rintro e w1 ⟨rfl, hb⟩; have HB1 := Lib.hid (HB0.out.then_ hb); clear hb)))
        go_ret; first
          | exact tInt_mk (FE.out.symm) HB1.out
          | exact tInt_mk (FE.out.symm) HB0.out
      · by_cases h1 : n ≠ 0 ∧ o ≠ 1
        · have FE : Hid (fltS ⟨0, o, n, s, k⟩ = 1) := Lib.hid (by rw [FF.out, decide_eq_true (show greatS o < n by rcases great_cases o with ⟨h, _⟩ | ⟨_, h⟩ <;> omega)]; simp); have e1 : (n != 0) = true := (by rw [bne_iff_ne]; exact h1.1); have e2 : (o != 1) = true := (by rw [bne_iff_ne]; exact h1.2); clear FF hse h1
          go_enter Tryz.func155, Tryz.ntmps155
          go_wp2_with (first
            | (go_at_call 157; ((with_reducible refine (NC.out _).mono ?_); rintro e w1 ⟨rfl, rfl⟩))
            | (go_at_call 177; ((with_reducible refine (AC.out _).mono ?_); rintro e w1 ⟨rfl, rfl⟩))
            | (go_at_call 166; ((with_reducible refine (VC.out _).mono ?_); rintro e w1 ⟨rfl, hb⟩; have k0 := (hb.cell (p := ⟨w.heap.size, 0, none⟩) (by simp)).trans c0; have k2 := (hb.cell (p := ⟨w.heap.size, 2, none⟩) (by simp)).trans c2; have HB1 := Lib.hid (HB0.out.then_ hb); clear hb))
            | (go_at_call 42; ((with_reducible refine (IC.out _).mono ?_); rintro e w1 ⟨rfl, hb⟩; have HB1 := Lib.hid (HB0.out.then_ hb); clear hb)))
          go_ret; first
            | exact tInt_mk (FE.out.symm) HB1.out
            | exact tInt_mk (FE.out.symm) HB0.out
        · have FF2 : Hid (fltS ⟨0, o, n, s, k⟩ = if (!takesS o k || (!decide (s.size = 0) && (!isVr o && !isAr o))) = true then 1 else if ((isVr o && !varB s.data.toList) || (isAr o && !nmB s.data.toList)) = true then 7 else 0) := Lib.hid (by
            rw [FF.out, decide_eq_false hn, decide_eq_false (show ¬ greatS o < n by rcases great_cases o with ⟨_, h⟩ | ⟨_, h⟩ <;> omega)]; rfl)
          have e1 : (n != 0) = true → (o != 1) = false := by
            intro a; rw [bne_iff_ne] at a; by_cases g : o = 1
            · rw [g]; rfl
            · exact absurd ⟨a, g⟩ h1
          have e3 : ((n != 0) = false) ∨ ((n != 0) = true ∧ (o != 1) = false) := by
            cases g : (n != 0)
            · exact .inl rfl
            · exact .inr ⟨rfl, e1 g⟩
          clear FF h1 e1; by_cases hz : s.size ≠ 0 ∧ (isVr o || isAr o) = false
          · have FE : Hid (fltS ⟨0, o, n, s, k⟩ = 1) := Lib.hid (by
              have : (!isVr o && !isAr o) = true := (by rw [← Bool.not_or, hz.2]; rfl); rw [FF2.out, decide_eq_false hz.1, this]; simp)
            rw [decide_eq_false hz.1] at hse; rw [hz.2] at NC; clear FF2 hz; rcases e3 with e3 | ⟨e3, e4⟩
            all_goals
              go_enter Tryz.func155, Tryz.ntmps155
              go_wp2_with (first
                | (go_at_call 157; ((with_reducible refine (NC.out _).mono ?_); rintro e w1 ⟨rfl, rfl⟩))
                | (go_at_call 177; ((with_reducible refine (AC.out _).mono ?_); rintro e w1 ⟨rfl, rfl⟩))
                | (go_at_call 166; ((with_reducible refine (VC.out _).mono ?_); rintro e w1 ⟨rfl, hb⟩; have k0 := (hb.cell (p := ⟨w.heap.size, 0, none⟩) (by simp)).trans c0; have k2 := (hb.cell (p := ⟨w.heap.size, 2, none⟩) (by simp)).trans c2; have HB1 := Lib.hid (HB0.out.then_ hb); clear hb))
                | (go_at_call 42; ((with_reducible refine (IC.out _).mono ?_); rintro e w1 ⟨rfl, hb⟩; have HB1 := Lib.hid (HB0.out.then_ hb); clear hb)))
              go_ret; first
                | exact tInt_mk (FE.out.symm) HB1.out
                | exact tInt_mk (FE.out.symm) HB0.out
          · have e5 : s.toList.isEmpty = true ∨ (s.toList.isEmpty = false ∧ (isVr o || isAr o) = true) := by
              by_cases g : s.size = 0
              · exact .inl (by rw [hse, decide_eq_true g])
              · refine .inr ⟨by rw [hse, decide_eq_false g], ?_⟩; cases q : (isVr o || isAr o)
                · exact absurd ⟨g, q⟩ hz
                · rfl
            have FF3 : Hid (fltS ⟨0, o, n, s, k⟩ = if (!takesS o k) = true then 1 else if ((isVr o && !varB s.data.toList) || (isAr o && !nmB s.data.toList)) = true then 7 else 0) := Lib.hid (by
              rw [FF2.out]; have : (!decide (s.size = 0) && (!isVr o && !isAr o)) = false := by
                rw [← hse, ← Bool.not_or]; rcases e5 with e | ⟨e, f⟩
                · rw [e]; rfl
                · rw [e, f]; rfl
              rw [this, Bool.or_false])
            clear FF2 hz hse; by_cases h23 : o = 23
            · subst h23; have e6 : s.toList.isEmpty = true := by
                rcases e5 with e | ⟨_, f⟩
                · exact e
                · cases f
              have e7 : (n != 0) = false := by
                rcases e3 with e | ⟨_, f⟩
                · exact e
                · cases f
              clear e3 e5; by_cases k3 : (k : Int) < 3
              · have FE : Hid (fltS ⟨0, 23, n, s, k⟩ = 1) := Lib.hid (by rw [FF3.out, show takesS 23 k = false by simp [takesS]; omega]; rfl); clear FF3
                go_enter Tryz.func155, Tryz.ntmps155
                go_wp2_with (first
                  | (go_at_call 157; ((with_reducible refine (NC.out _).mono ?_); rintro e w1 ⟨rfl, rfl⟩))
                  | (go_at_call 177; ((with_reducible refine (AC.out _).mono ?_); rintro e w1 ⟨rfl, rfl⟩))
                  | (go_at_call 166; ((with_reducible refine (VC.out _).mono ?_); rintro e w1 ⟨rfl, hb⟩; have k0 := (hb.cell (p := ⟨w.heap.size, 0, none⟩) (by simp)).trans c0; have k2 := (hb.cell (p := ⟨w.heap.size, 2, none⟩) (by simp)).trans c2; have HB1 := Lib.hid (HB0.out.then_ hb); clear hb))
                  | (go_at_call 42; ((with_reducible refine (IC.out _).mono ?_); rintro e w1 ⟨rfl, hb⟩; have HB1 := Lib.hid (HB0.out.then_ hb); clear hb)))
                go_ret; first
                  | exact tInt_mk (FE.out.symm) HB1.out
                  | exact tInt_mk (FE.out.symm) HB0.out
              · by_cases k33 : 33 < (k : Int)
                · have FE : Hid (fltS ⟨0, 23, n, s, k⟩ = 1) := Lib.hid (by rw [FF3.out, show takesS 23 k = false by simp [takesS]; omega]; rfl); clear FF3
                  go_enter Tryz.func155, Tryz.ntmps155
                  go_wp2_with (first
                    | (go_at_call 157; ((with_reducible refine (NC.out _).mono ?_); rintro e w1 ⟨rfl, rfl⟩))
                    | (go_at_call 177; ((with_reducible refine (AC.out _).mono ?_); rintro e w1 ⟨rfl, rfl⟩))
                    | (go_at_call 166; ((with_reducible refine (VC.out _).mono ?_); rintro e w1 ⟨rfl, hb⟩; have k0 := (hb.cell (p := ⟨w.heap.size, 0, none⟩) (by simp)).trans c0; have k2 := (hb.cell (p := ⟨w.heap.size, 2, none⟩) (by simp)).trans c2; have HB1 := Lib.hid (HB0.out.then_ hb); clear hb))
                    | (go_at_call 42; ((with_reducible refine (IC.out _).mono ?_); rintro e w1 ⟨rfl, hb⟩; have HB1 := Lib.hid (HB0.out.then_ hb); clear hb)))
                  go_ret; first
                    | exact tInt_mk (FE.out.symm) HB1.out
                    | exact tInt_mk (FE.out.symm) HB0.out
                · by_cases k2 : k % 2 = 0
                  · have FE : Hid (fltS ⟨0, 23, n, s, k⟩ = 1) := Lib.hid (by rw [FF3.out, show takesS 23 k = false by simp [takesS]; omega]; rfl); have k2' : (k : Int).tmod 2 = 0 := (by rw [Int.tmod_eq_emod_of_nonneg (by omega)]; omega); clear FF3 k2
                    go_enter Tryz.func155, Tryz.ntmps155
                    go_wp2_with (first
                      | (go_at_call 157; ((with_reducible refine (NC.out _).mono ?_); rintro e w1 ⟨rfl, rfl⟩))
                      | (go_at_call 177; ((with_reducible refine (AC.out _).mono ?_); rintro e w1 ⟨rfl, rfl⟩))
                      | (go_at_call 166; ((with_reducible refine (VC.out _).mono ?_); rintro e w1 ⟨rfl, hb⟩; have k0 := (hb.cell (p := ⟨w.heap.size, 0, none⟩) (by simp)).trans c0; have k2 := (hb.cell (p := ⟨w.heap.size, 2, none⟩) (by simp)).trans c2; have HB1 := Lib.hid (HB0.out.then_ hb); clear hb))
                      | (go_at_call 42; ((with_reducible refine (IC.out _).mono ?_); rintro e w1 ⟨rfl, hb⟩; have HB1 := Lib.hid (HB0.out.then_ hb); clear hb)))
                    go_ret; first
                      | exact tInt_mk (FE.out.symm) HB1.out
                      | exact tInt_mk (FE.out.symm) HB0.out
                  · have FE : Hid (fltS ⟨0, 23, n, s, k⟩ = 0) := Lib.hid (by rw [FF3.out, show takesS 23 k = true by simp [takesS]; omega]; rfl); have k2' : (k : Int).tmod 2 = 1 := (by rw [Int.tmod_eq_emod_of_nonneg (by omega)]; omega); clear FF3 k2
                    go_enter Tryz.func155, Tryz.ntmps155
                    go_wp2_with (first
                      | (go_at_call 157; ((with_reducible refine (NC.out _).mono ?_); rintro e w1 ⟨rfl, rfl⟩))
                      | (go_at_call 177; ((with_reducible refine (AC.out _).mono ?_); rintro e w1 ⟨rfl, rfl⟩))
                      | (go_at_call 166; ((with_reducible refine (VC.out _).mono ?_); rintro e w1 ⟨rfl, hb⟩; have k0 := (hb.cell (p := ⟨w.heap.size, 0, none⟩) (by simp)).trans c0; have k2 := (hb.cell (p := ⟨w.heap.size, 2, none⟩) (by simp)).trans c2; have HB1 := Lib.hid (HB0.out.then_ hb); clear hb))
                      | (go_at_call 42; ((with_reducible refine (IC.out _).mono ?_); rintro e w1 ⟨rfl, hb⟩; have HB1 := Lib.hid (HB0.out.then_ hb); clear hb)))
                    go_ret; first
                      | exact tInt_mk (FE.out.symm) HB1.out
                      | exact tInt_mk (FE.out.symm) HB0.out
            · have TT : takesS o k = decide ((k : Int) = arS o) := if_neg h23; have h23' : (o == 23) = false := (by rw [beq_eq_false_iff_ne]; exact h23); have h23'' : (o != 23) = true := (by rw [bne_iff_ne]; exact h23); by_cases hkk : (k : Int) = arS o
              · have FF4 : Hid (fltS ⟨0, o, n, s, k⟩ = if ((isVr o && !varB s.data.toList) || (isAr o && !nmB s.data.toList)) = true then 7 else 0) := Lib.hid (by rw [FF3.out, TT, decide_eq_true hkk]; rfl); have hk2 : ((k : Int) != arS o) = false := (by rw [hkk]; simp); clear FF3 TT h23 hkk; generalize arS o = G at *
                generalize varB s.data.toList = B at *
                generalize nmB s.data.toList = C at *
                rcases e3 with e3 | ⟨e3, e4⟩ <;> rcases e5 with e5 | ⟨e5, e6⟩
                all_goals
                  by_cases o2 : o = 2
                  · subst o2; rw [show (isVr 2 || isAr 2) = true from rfl] at NC; first
                      | exact absurd e4 (by decide)
                      | (cases B
                         all_goals
                           go_enter Tryz.func155, Tryz.ntmps155
                           go_wp2_with (first
                             | (go_at_call 157; ((with_reducible refine (NC.out _).mono ?_); rintro e w1 ⟨rfl, rfl⟩))
                             | (go_at_call 177; ((with_reducible refine (AC.out _).mono ?_); rintro e w1 ⟨rfl, rfl⟩))
                             | (go_at_call 166; ((with_reducible refine (VC.out _).mono ?_); rintro e w1 ⟨rfl, hb⟩; have k0 := (hb.cell (p := ⟨w.heap.size, 0, none⟩) (by simp)).trans c0; have k2 := (hb.cell (p := ⟨w.heap.size, 2, none⟩) (by simp)).trans c2; have HB1 := Lib.hid (HB0.out.then_ hb); clear hb))
                             | (go_at_call 42; ((with_reducible refine (IC.out _).mono ?_); rintro e w1 ⟨rfl, hb⟩; have HB1 := Lib.hid (HB0.out.then_ hb); clear hb)))
                           go_ret; first
                             | exact tInt_mk (by rw [FF4.out]; rfl) HB1.out
                             | exact tInt_mk (by rw [FF4.out]; rfl) HB0.out)
                  · by_cases o3 : o = 3
                    · subst o3; first
                        | exact absurd e4 (by decide)
                        | (cases C
                           all_goals
                             go_enter Tryz.func155, Tryz.ntmps155
                             go_wp2_with (first
                               | (go_at_call 157; ((with_reducible refine (NC.out _).mono ?_); rintro e w1 ⟨rfl, rfl⟩))
                               | (go_at_call 177; ((with_reducible refine (AC.out _).mono ?_); rintro e w1 ⟨rfl, rfl⟩))
                               | (go_at_call 166; ((with_reducible refine (VC.out _).mono ?_); rintro e w1 ⟨rfl, hb⟩; have k0 := (hb.cell (p := ⟨w.heap.size, 0, none⟩) (by simp)).trans c0; have k2 := (hb.cell (p := ⟨w.heap.size, 2, none⟩) (by simp)).trans c2; have HB1 := Lib.hid (HB0.out.then_ hb); clear hb))
                               | (go_at_call 42; ((with_reducible refine (IC.out _).mono ?_); rintro e w1 ⟨rfl, hb⟩; have HB1 := Lib.hid (HB0.out.then_ hb); clear hb)))
                             go_ret; first
                               | exact tInt_mk (by rw [FF4.out]; rfl) HB1.out
                               | exact tInt_mk (by rw [FF4.out]; rfl) HB0.out)
                    · by_cases o24 : o = 24
                      · subst o24; first
                          | exact absurd e4 (by decide)
                          | (cases C
                             all_goals
                               go_enter Tryz.func155, Tryz.ntmps155
                               go_wp2_with (first
                                 | (go_at_call 157; ((with_reducible refine (NC.out _).mono ?_); rintro e w1 ⟨rfl, rfl⟩))
                                 | (go_at_call 177; ((with_reducible refine (AC.out _).mono ?_); rintro e w1 ⟨rfl, rfl⟩))
                                 | (go_at_call 166; ((with_reducible refine (VC.out _).mono ?_); rintro e w1 ⟨rfl, hb⟩; have k0 := (hb.cell (p := ⟨w.heap.size, 0, none⟩) (by simp)).trans c0; have k2 := (hb.cell (p := ⟨w.heap.size, 2, none⟩) (by simp)).trans c2; have HB1 := Lib.hid (HB0.out.then_ hb); clear hb))
                                 | (go_at_call 42; ((with_reducible refine (IC.out _).mono ?_); rintro e w1 ⟨rfl, hb⟩; have HB1 := Lib.hid (HB0.out.then_ hb); clear hb)))
                               go_ret; first
                                 | exact tInt_mk (by rw [FF4.out]; rfl) HB1.out
                                 | exact tInt_mk (by rw [FF4.out]; rfl) HB0.out)
                      · have e2 : isVr o = false := decide_eq_false o2; have e3' : isAr o = false := (by unfold isAr; rw [decide_eq_false o3, decide_eq_false o24]; rfl); have o2' : (o == 2) = false := (by rw [beq_eq_false_iff_ne]; exact o2); rw [e2, e3'] at NC FF4; first
                          | (rw [e2, e3'] at e6; cases e6; done)
                          | (clear o2 o3 o24 e2 e3'
                             go_enter Tryz.func155, Tryz.ntmps155
                             go_wp2_with (first
                               | (go_at_call 157; ((with_reducible refine (NC.out _).mono ?_); rintro e w1 ⟨rfl, rfl⟩))
                               | (go_at_call 177; ((with_reducible refine (AC.out _).mono ?_); rintro e w1 ⟨rfl, rfl⟩))
                               | (go_at_call 166; ((with_reducible refine (VC.out _).mono ?_); rintro e w1 ⟨rfl, hb⟩; have k0 := (hb.cell (p := ⟨w.heap.size, 0, none⟩) (by simp)).trans c0; have k2 := (hb.cell (p := ⟨w.heap.size, 2, none⟩) (by simp)).trans c2; have HB1 := Lib.hid (HB0.out.then_ hb); clear hb))
                               | (go_at_call 42; ((with_reducible refine (IC.out _).mono ?_); rintro e w1 ⟨rfl, hb⟩; have HB1 := Lib.hid (HB0.out.then_ hb); clear hb)))
                             go_ret; first
                               | exact tInt_mk (by rw [FF4.out]; rfl) HB1.out
                               | exact tInt_mk (by rw [FF4.out]; rfl) HB0.out)
              · have FE : Hid (fltS ⟨0, o, n, s, k⟩ = 1) := Lib.hid (by rw [FF3.out, TT, decide_eq_false hkk]; rfl); have hk2 : ((k : Int) != arS o) = true := (by rw [bne_iff_ne]; exact hkk); clear FF3 TT h23 hkk; generalize arS o = G at *
                rcases e3 with e3 | ⟨e3, e4⟩ <;> rcases e5 with e5 | ⟨e5, e6⟩
                all_goals
                  go_enter Tryz.func155, Tryz.ntmps155
                  go_wp2_with (first
                    | (go_at_call 157; ((with_reducible refine (NC.out _).mono ?_); rintro e w1 ⟨rfl, rfl⟩))
                    | (go_at_call 177; ((with_reducible refine (AC.out _).mono ?_); rintro e w1 ⟨rfl, rfl⟩))
                    | (go_at_call 166; ((with_reducible refine (VC.out _).mono ?_); rintro e w1 ⟨rfl, hb⟩; have k0 := (hb.cell (p := ⟨w.heap.size, 0, none⟩) (by simp)).trans c0; have k2 := (hb.cell (p := ⟨w.heap.size, 2, none⟩) (by simp)).trans c2; have HB1 := Lib.hid (HB0.out.then_ hb); clear hb))
                    | (go_at_call 42; ((with_reducible refine (IC.out _).mono ?_); rintro e w1 ⟨rfl, hb⟩; have HB1 := Lib.hid (HB0.out.then_ hb); clear hb)))
                  go_ret; first
                    | exact tInt_mk (FE.out.symm) HB1.out
                    | exact tInt_mk (FE.out.symm) HB0.out
  · have FE : Hid (fltS ⟨0, o, n, s, k⟩ = 1) := Lib.hid (by rw [FF.out, takes_out ho]; rfl); have ho2 : o < 1 ∨ (1 ≤ o ∧ 25 < o) := (by omega); clear FF hse ho; rcases ho2 with h | ⟨h, h'⟩
    all_goals
      go_enter Tryz.func155, Tryz.ntmps155
      go_wp2_with (first
        | (go_at_call 157; ((with_reducible refine (NC.out _).mono ?_); rintro e w1 ⟨rfl, rfl⟩))
        | (go_at_call 177; ((with_reducible refine (AC.out _).mono ?_); rintro e w1 ⟨rfl, rfl⟩))
        | (go_at_call 166; ((with_reducible refine (VC.out _).mono ?_); rintro e w1 ⟨rfl, hb⟩; have k0 := (hb.cell (p := ⟨w.heap.size, 0, none⟩) (by simp)).trans c0; have k2 := (hb.cell (p := ⟨w.heap.size, 2, none⟩) (by simp)).trans c2; have HB1 := Lib.hid (HB0.out.then_ hb); clear hb))
        | (go_at_call 42; ((with_reducible refine (IC.out _).mono ?_); rintro e w1 ⟨rfl, hb⟩; have HB1 := Lib.hid (HB0.out.then_ hb); clear hb)))
      go_ret; first
        | exact tInt_mk (FE.out.symm) HB1.out
        | exact tInt_mk (FE.out.symm) HB0.out
end Go.Proofs.YtpejflgdehioaaaGreatDoor.ExW
