/-
  Laws that the card uses; no conditions beside those that each states (ExFolded ExSubst ExSubstC ItFix ExBrief ExKids ItAddM ItCount2 ItAdd0 ItAwM).
-/
import Derived.Laws.OwnMore
import Derived.Test.YtpejflgdehioaaaGreatDoorR17
namespace Go.Proofs.YtpejflgdehioaaaGreatDoor.ExW
open Go Go.RowKit Go.Proofs.YtpejflgdehioaaaGreatDoor.NumM Go.Proofs.YtpejflgdehioaaaGreatDoor.LexW Go.Proofs.YtpejflgdehioaaaGreatDoor.LexM Go.Proofs.YtpejflgdehioaaaGreatDoor.ExM
theorem at_form {N : Nat} {w : World} {v : Value} {o n : Int} {s : ByteArray} {ks : List Ex} (h : ExAt N w v (.mk o n s ks)) : ∃ p cap pl cl, v = xv o n s (.slice p ks.length cap) ∧ s.size ≤ 140737488351232 ∧ ArgsAt N w p cap pl cl ks := h.form
theorem put_fr {x : Ex} {w W : World} {v : Value} (h : Fr (w.heap.size + 2) W v x) (x0 x1 x2 x3 : Value) : Fr w.heap.size ((((W.setCell ⟨w.heap.size + 1, 0, none⟩ x0).setCell ⟨w.heap.size + 1, 1, none⟩ x1).setCell ⟨w.heap.size + 1, 2, none⟩ x2).setCell ⟨w.heap.size + 1, 3, none⟩ x3) v x :=
  ((((h.set (g := w.heap.size + 1) (by omega)).set (by omega)).set (by omega)).set (by omega)).low (by omega)
theorem su_eq (nm : ByteArray) (b : Ex) (o n : Int) (s : ByteArray) (ks : List Ex) : su nm b (.mk o n s ks) = if isVr o && (s.toList == nm.toList) then b else .mk o n s (ks.map (su nm b)) := by
  rw [su_mk, Lib.toList_data, Lib.toList_data]; by_cases h : isVr o = true ∧ s.data.toList = nm.data.toList
  · rw [if_pos h, if_pos]; simp [h.1, h.2]
  · rw [if_neg h, if_neg]; simpa using h
structure Held (w : World) (nb bb rb : Nat) (nm : ByteArray) (bv : Value) : Prop where
  name : Boxed w nb 9 (.string nm)
  self : Boxed w rb 122 (.func (.func 168) #[] #[.pointer (some ⟨nb, 0, none⟩), .pointer (some ⟨bb, 0, none⟩), .pointer (some ⟨rb, 0, none⟩)])
  four : ∃ o n s x, bv = xv o n s x ∧ Four w bb (.int .i64 o) (.int .i64 n) (.string s) x
theorem Held.stay {w w' : World} {nb bb rb : Nat} {nm : ByteArray} {bv : Value} (h : Held w nb bb rb nm bv) (hb : Below w.heap.size w w') : Held w' nb bb rb nm bv :=
  ⟨bxStay h.name hb, bxStay h.self hb, by obtain ⟨o, n, s, x, e, f⟩ := h.four; exact ⟨o, n, s, x, e, f.stay hb⟩⟩
set_option maxRecDepth 100000 in
set_option maxHeartbeats 16000000 in
theorem subst1_any (nb bb rb : Nat) (nm : ByteArray) (b : Ex) (bv : Value) (M : Nat) (hbs : sz b ≤ 10000) (e : Ex) : ∀ (N : Nat) (w : World) (v : Value), ExAt N w v e → N ≤ w.heap.size → sz e ≤ 10000 → ExAt M w bv b → M ≤ w.heap.size → Held w nb bb rb nm bv →
    Calls Tryz.prog 168 #[v, .pointer (some ⟨nb, 0, none⟩), .pointer (some ⟨bb, 0, none⟩), .pointer (some ⟨rb, 0, none⟩)] w (tFr (su nm b e) w) := by
  induction e using Ex.ind with
  | h o n s ks ih =>
    intro N w v hx hN hsz hby hM hh; obtain ⟨p, cap, pl, cl, rfl, hs, ha⟩ := at_form hx; have hl := len_szs ks; have hb1 : Below w.heap.size w ((w.alloc (.cells #[.int .i64 o, .int .i64 n, .string s, .slice p ks.length cap] 43)).alloc (.cells #[.int .i64 0, .int .i64 0, .string ⟨#[]⟩, .slice none 0 0] 43)) := ((Below.refl _ _).alloc (Nat.le_refl _) _).alloc (by simp) _; have hws := hb1.size; simp only [World.size_alloc] at hws; have hh1 := hh.stay hb1; rw [sz_mk] at hsz; have RC := Lib.hid (rebuilt_subst (su nm b) ks pl cl o n s p cap N _ nb bb rb (ha.under (hb1.mono hN)) (by simp only [World.size_alloc]; omega) (by omega) hs (fun a ha' W v hW hx' => ih a ha' N W v hx' (by have := hW.size; simp only [World.size_alloc] at this; omega) (by have := sz_mem ha'; omega) ((hby.under (hb1.mono hM)).under (hW.mono (by simp only [World.size_alloc]; omega))) (by have := hW.size; simp only [World.size_alloc] at this; omega) (hh1.stay hW))); have CL := Lib.hid (clone_any b M _ bv (hby.under (hb1.mono hM)) (by simp only [World.size_alloc]; omega) hbs); have four1 := (Four.new w (.int .i64 o) (.int .i64 n) (.string s) (.slice p ks.length cap) 43).alloc (.cells #[.int .i64 0, .int .i64 0, .string ⟨#[]⟩, .slice none 0 0] 43); have four2 := Four.new (w.alloc (.cells #[.int .i64 o, .int .i64 n, .string s, .slice p ks.length cap] 43)) (.int .i64 0) (.int .i64 0) (.string ⟨#[]⟩) (.slice none 0 0) 43; rw [World.size_alloc] at four2; obtain ⟨bo, bn, bs', bx, rfl, fb⟩ := hh1.four; have m0 := fb.c0; have m1 := fb.c1; have m2 := fb.c2; have m3 := fb.c3; have m4 := hh1.name.cell; have m5 := hh1.self.cell; have d0 := four1.c0; have d1 := four1.c1; have d2 := four1.c2; have d3 := four1.c3; have HB1 := Lib.hid hb1; have HF2 := Lib.hid four2; have VC : Hid (∀ W, Calls Tryz.prog 144 #[.int .i64 o] W fun e w' => e = .returned (.bool (isVr o)) ∧ W = w') := (Lib.hid fun W => isVr_any o W); rw [su_eq]; clear ha hx ih hb1 four1 four2 hh hh1 fb hs hsz hl hby hbs hN hM; generalize ks.length = K at *
    generalize (Ex.mk o n s (ks.map (su nm b))) = E at *
    generalize isVr o = q at *
    have FIN : Hid (∀ (x : Ex) W v, Fr (w.heap.size + 2) W v x → ∀ x0 x1 x2 x3, Fr w.heap.size ((((W.setCell ⟨w.heap.size + 1, 0, none⟩ x0).setCell ⟨w.heap.size + 1, 1, none⟩ x1).setCell ⟨w.heap.size + 1, 2, none⟩ x2).setCell ⟨w.heap.size + 1, 3, none⟩ x3) v x) := (Lib.hid fun x W v h => put_fr h); cases q <;> cases h3 : (s.toList == nm.toList)
    all_goals
      go_enter Tryz.func168, Tryz.ntmps168
      go_wp2_with (first
        | (go_at_call 144; ((with_reducible refine (VC.out _).mono ?_); rintro e w1 ⟨rfl, rfl⟩))
        | (go_at_call 170; ((with_reducible refine RC.out.mono ?_); rintro e w3 ⟨v3, rfl, hfr, hb⟩; obtain ⟨p3, c3, rfl, hs3, hc3⟩ := hfr.form; have f5 := HF2.out.stay hb; have u4 := f5.f0; have u5 := f5.f1; have u6 := f5.f2; have u7 := f5.f3; have u0 := f5.c0; have u1 := f5.c1; have u2 := f5.c2; have u3 := f5.c3; have HF5 := Lib.hid f5; have HFR := Lib.hid hfr; have HB3 := Lib.hid (HB1.out.then_ hb); clear f5 hfr hb))
        | (go_at_call 169; ((with_reducible refine CL.out.mono ?_); rintro e w3 ⟨v3, rfl, hfr, hb⟩; obtain ⟨p3, c3, rfl, hs3, hc3⟩ := hfr.form; have f5 := HF2.out.stay hb; have u4 := f5.f0; have u5 := f5.f1; have u6 := f5.f2; have u7 := f5.f3; have u0 := f5.c0; have u1 := f5.c1; have u2 := f5.c2; have u3 := f5.c3; have HF5 := Lib.hid f5; have HFR := Lib.hid hfr; have HB3 := Lib.hid (HB1.out.then_ hb); clear f5 hfr hb)))
      first
        | (have hp := HF5.out.put (.int .i64 E.op) (.int .i64 E.n) (.string E.nm) (.slice p3 E.args.length c3)
           have p0 := hp.c0; have p1 := hp.c1; have p2' := hp.c2; have p3' := hp.c3; refine bodyPost_ret (v := xv E.op E.n E.nm (.slice p3 E.args.length c3)) (by simp [results, Tryz.results168, go_sem, p0, p1, p2', p3']) rfl ⟨_, rfl, FIN.out _ _ _ (by have := HFR.out; simp only [World.size_alloc] at this; exact this) _ _ _ _, below_put HB3.out (by omega) _ _ _ _⟩)
        | (have hp := HF5.out.put (.int .i64 b.op) (.int .i64 b.n) (.string b.nm) (.slice p3 b.args.length c3)
           have p0 := hp.c0; have p1 := hp.c1; have p2' := hp.c2; have p3' := hp.c3; refine bodyPost_ret (v := xv b.op b.n b.nm (.slice p3 b.args.length c3)) (by simp [results, Tryz.results168, go_sem, p0, p1, p2', p3']) rfl ⟨_, rfl, FIN.out _ _ _ (by have := HFR.out; simp only [World.size_alloc] at this; exact this) _ _ _ _, below_put HB3.out (by omega) _ _ _ _⟩)
set_option maxRecDepth 100000 in
set_option maxHeartbeats 8000000 in
theorem substCode_any (e b : Ex) (nm : ByteArray) (N : Nat) (w : World) (v bv : Value) (hx : ExAt N w v e) (hy : ExAt N w bv b) (hN : N ≤ w.heap.size) (hsz : sz e ≤ 10000) (hbs : sz b ≤ 10000) : Calls Tryz.prog 134 #[v, .string nm, bv] w (tFr (su nm b e) w) := by
  obtain ⟨p, cap, pl, cl, rfl, hs, _⟩ := hx.form; obtain ⟨p', cap', pl', cl', rfl, hs', _⟩ := hy.form; have hb5 : Below w.heap.size w (((((w.alloc (.cells #[.int .i64 e.op, .int .i64 e.n, .string e.nm, .slice p e.args.length cap] 43)).alloc (.cells #[.string nm] 9)).alloc (.cells #[.int .i64 b.op, .int .i64 b.n, .string b.nm, .slice p' b.args.length cap'] 43)).alloc (.cells #[.int .i64 0, .int .i64 0, .string ⟨#[]⟩, .slice none 0 0] 43)).alloc (.cells #[.func (.func 168) #[] #[.pointer (some ⟨w.heap.size + 1, 0, none⟩), .pointer (some ⟨w.heap.size + 1 + 1, 0, none⟩), .pointer (some ⟨w.heap.size + 1 + 1 + 1 + 1, 0, none⟩)]] 122)) := (((((Below.refl _ _).alloc (Nat.le_refl _) _).alloc (by simp) _).alloc (by simp only [World.size_alloc]; omega) _).alloc (by simp only [World.size_alloc]; omega) _).alloc (by simp only [World.size_alloc]; omega) _; have f1 := ((((Four.new w (.int .i64 e.op) (.int .i64 e.n) (.string e.nm) (.slice p e.args.length cap) 43).alloc (.cells #[.string nm] 9)).alloc (.cells #[.int .i64 b.op, .int .i64 b.n, .string b.nm, .slice p' b.args.length cap'] 43)).alloc (.cells #[.int .i64 0, .int .i64 0, .string ⟨#[]⟩, .slice none 0 0] 43)).alloc (.cells #[.func (.func 168) #[] #[.pointer (some ⟨w.heap.size + 1, 0, none⟩), .pointer (some ⟨w.heap.size + 1 + 1, 0, none⟩), .pointer (some ⟨w.heap.size + 1 + 1 + 1 + 1, 0, none⟩)]] 122); have g1 := (((Boxed.new (w.alloc (.cells #[.int .i64 e.op, .int .i64 e.n, .string e.nm, .slice p e.args.length cap] 43)) 9 (.string nm)).alloc (.cells #[.int .i64 b.op, .int .i64 b.n, .string b.nm, .slice p' b.args.length cap'] 43)).alloc (.cells #[.int .i64 0, .int .i64 0, .string ⟨#[]⟩, .slice none 0 0] 43)).alloc (.cells #[.func (.func 168) #[] #[.pointer (some ⟨w.heap.size + 1, 0, none⟩), .pointer (some ⟨w.heap.size + 1 + 1, 0, none⟩), .pointer (some ⟨w.heap.size + 1 + 1 + 1 + 1, 0, none⟩)]] 122); have f2 := ((Four.new ((w.alloc (.cells #[.int .i64 e.op, .int .i64 e.n, .string e.nm, .slice p e.args.length cap] 43)).alloc (.cells #[.string nm] 9)) (.int .i64 b.op) (.int .i64 b.n) (.string b.nm) (.slice p' b.args.length cap') 43).alloc (.cells #[.int .i64 0, .int .i64 0, .string ⟨#[]⟩, .slice none 0 0] 43)).alloc (.cells #[.func (.func 168) #[] #[.pointer (some ⟨w.heap.size + 1, 0, none⟩), .pointer (some ⟨w.heap.size + 1 + 1, 0, none⟩), .pointer (some ⟨w.heap.size + 1 + 1 + 1 + 1, 0, none⟩)]] 122); have f3 := (Four.new (((w.alloc (.cells #[.int .i64 e.op, .int .i64 e.n, .string e.nm, .slice p e.args.length cap] 43)).alloc (.cells #[.string nm] 9)).alloc (.cells #[.int .i64 b.op, .int .i64 b.n, .string b.nm, .slice p' b.args.length cap'] 43)) (.int .i64 0) (.int .i64 0) (.string ⟨#[]⟩) (.slice none 0 0) 43).alloc (.cells #[.func (.func 168) #[] #[.pointer (some ⟨w.heap.size + 1, 0, none⟩), .pointer (some ⟨w.heap.size + 1 + 1, 0, none⟩), .pointer (some ⟨w.heap.size + 1 + 1 + 1 + 1, 0, none⟩)]] 122); have g2 := Boxed.new ((((w.alloc (.cells #[.int .i64 e.op, .int .i64 e.n, .string e.nm, .slice p e.args.length cap] 43)).alloc (.cells #[.string nm] 9)).alloc (.cells #[.int .i64 b.op, .int .i64 b.n, .string b.nm, .slice p' b.args.length cap'] 43)).alloc (.cells #[.int .i64 0, .int .i64 0, .string ⟨#[]⟩, .slice none 0 0] 43)) 122 (.func (.func 168) #[] #[.pointer (some ⟨w.heap.size + 1, 0, none⟩), .pointer (some ⟨w.heap.size + 1 + 1, 0, none⟩), .pointer (some ⟨w.heap.size + 1 + 1 + 1 + 1, 0, none⟩)]); simp only [World.size_alloc] at f1 g1 f2 f3 g2; have hws := hb5.size; simp only [World.size_alloc] at hws; have hh : Held (((((w.alloc (.cells #[.int .i64 e.op, .int .i64 e.n, .string e.nm, .slice p e.args.length cap] 43)).alloc (.cells #[.string nm] 9)).alloc (.cells #[.int .i64 b.op, .int .i64 b.n, .string b.nm, .slice p' b.args.length cap'] 43)).alloc (.cells #[.int .i64 0, .int .i64 0, .string ⟨#[]⟩, .slice none 0 0] 43)).alloc (.cells #[.func (.func 168) #[] #[.pointer (some ⟨w.heap.size + 1, 0, none⟩), .pointer (some ⟨w.heap.size + 1 + 1, 0, none⟩), .pointer (some ⟨w.heap.size + 1 + 1 + 1 + 1, 0, none⟩)]] 122)) (w.heap.size + 1) (w.heap.size + 1 + 1) (w.heap.size + 1 + 1 + 1 + 1) nm (xv b.op b.n b.nm (.slice p' b.args.length cap')) := ⟨g1, g2, _, _, _, _, rfl, f2⟩; have CC := Lib.hid (subst1_any (w.heap.size + 1) (w.heap.size + 1 + 1) (w.heap.size + 1 + 1 + 1 + 1) nm b _ N hbs e N _ _ (hx.under (hb5.mono hN)) (by simp only [World.size_alloc]; omega) hsz (hy.under (hb5.mono hN)) (by simp only [World.size_alloc]; omega) hh); have d0 := f1.c0; have d1 := f1.c1; have d2 := f1.c2; have d3 := f1.c3; have d4 := g2.cell; have HB5 := Lib.hid hb5; have HF3 := Lib.hid f3; clear hx hy hs hs' hb5 f1 g1 f2 f3 hh hsz hbs; generalize su nm b e = E at *
  generalize e.op = o at *
  generalize e.n = n at *
  generalize e.nm = s at *
  generalize e.args.length = K at *
  generalize b.op = bo at *
  generalize b.n = bn at *
  generalize b.nm = bs at *
  generalize b.args.length = bK at *
  go_enter Tryz.func134, Tryz.ntmps134
  go_wp2_with (go_at_call 168; ((with_reducible refine CC.out.mono ?_); rintro e w6 ⟨v6, rfl, hfr, hb6⟩; obtain ⟨p6, c6, rfl, hs6, hc6⟩ := hfr.form; have f5 := HF3.out.stay hb6; have u4 := f5.f0; have u5 := f5.f1; have u6 := f5.f2; have u7 := f5.f3; have u0 := f5.c0; have u1 := f5.c1; have u2 := f5.c2; have u3 := f5.c3; have HF5 := Lib.hid f5; have HFR := Lib.hid hfr; have HB6 := Lib.hid (HB5.out.then_ hb6); clear f5 hfr hb6))
  have hp := HF5.out.put (.int .i64 E.op) (.int .i64 E.n) (.string E.nm) (.slice p6 E.args.length c6); have p0 := hp.c0; have p1 := hp.c1; have p2' := hp.c2; have p3' := hp.c3; refine bodyPost_ret (v := xv E.op E.n E.nm (.slice p6 E.args.length c6)) (by simp [results, Tryz.results134, go_sem, p0, p1, p2', p3']) rfl ⟨_, rfl, ?_, below_put HB6.out (by omega) _ _ _ _⟩; have := HFR.out; simp only [World.size_alloc] at this; exact ((((this.set (by omega)).set (by omega)).set (by omega)).set (by omega)).low (by omega)
end Go.Proofs.YtpejflgdehioaaaGreatDoor.ExW
namespace Go.Proofs.YtpejflgdehioaaaGreatDoor.ItW
open Go Go.RowKit Go.Proofs.YtpejflgdehioaaaGreatDoor.NumM Go.Proofs.YtpejflgdehioaaaGreatDoor.LexW Go.Proofs.YtpejflgdehioaaaGreatDoor.LexM Go.Proofs.YtpejflgdehioaaaGreatDoor.ExM Go.Proofs.YtpejflgdehioaaaGreatDoor.ExW Go.Proofs.YtpejflgdehioaaaGreatDoor.ItM
def ownX (xb : Nat) (W : World) : Option Nat := match W.cell? ⟨xb, 1, none⟩ with | some v => v.ownBlock | none => none
def Av (xb : Nat) (W : World) (b : Nat) : Prop := b < W.heap.size ∧ b ≠ xb ∧ ownX xb W ≠ some b
structure KX (xb : Nat) (W W' : World) : Prop where
  sz : W.heap.size ≤ W'.heap.size
  keep : ∀ b, Av xb W b → Av xb W' b ∧ W'.heap[b]? = W.heap[b]?
theorem KX.refl (xb : Nat) (W : World) : KX xb W W := ⟨Nat.le_refl _, fun _ h => ⟨h, rfl⟩⟩
theorem KX.trans {xb : Nat} {A B C : World} (h : KX xb A B) (k : KX xb B C) : KX xb A C :=
  ⟨Nat.le_trans h.sz k.sz, fun b hb => ⟨(k.keep b (h.keep b hb).1).1, (k.keep b (h.keep b hb).1).2.trans (h.keep b hb).2⟩⟩
theorem ownX_below {xb : Nat} {W W' : World} (hx : xb < W.heap.size) (hb : Below W.heap.size W W') : ownX xb W' = ownX xb W := by
  unfold ownX; rw [hb.cell (p := ⟨xb, 1, none⟩) hx]
theorem KX.of_below {xb : Nat} {W W' : World} (hx : xb < W.heap.size) (hb : Below W.heap.size W W') : KX xb W W' :=
  ⟨hb.size, fun b h => ⟨⟨Nat.lt_of_lt_of_le h.1 hb.size, h.2.1, by rw [ownX_below hx hb]; exact h.2.2⟩, hb.block b h.1⟩⟩
theorem Av.new {xb : Nat} {W W' : World} {b : Nat} (hx : xb < W.heap.size) (ho : ∀ k, ownX xb W = some k → k < W.heap.size) (hb : Below W.heap.size W W') (h0 : W.heap.size ≤ b) (h1 : b < W'.heap.size) : Av xb W' b :=
  ⟨h1, by omega, by rw [ownX_below hx hb]; intro e; have := ho _ e; omega⟩
theorem blk_eq {w w' : World} {b : Nat} {xs : List Value} (h : Blk w b xs) (hb : w'.heap[b]? = w.heap[b]?) : Blk w' b xs := by
  have hl : b < w'.heap.size := by
    have h1 := h.lt; rw [Array.getElem?_eq_getElem h1] at hb; exact (Array.getElem?_eq_some_iff.1 hb).1
  exact ⟨hl, fun i x hx => (World.cell?_of_block (w := w) hb).trans (h.c i x hx), fun o => (World.frozen?_of_block (w := w) hb).trans (h.f o)⟩
structure FixC (xb : Nat) (w : World) (f : FuncId) (caps : Array Value) (σ : Ex → Ex) : Prop where
  en : ∀ (args : Array Value) (W : World), (callFunc f args).run Tryz.prog W = .ok (.enter f args) W
  c : ∀ W, KX xb w W → ∀ (N : Nat) (e : Ex) (v : Value), ExAt N W v e → N ≤ W.heap.size → sz e ≤ 10000 → Calls Tryz.prog f (#[v] ++ caps) W (tFr (σ e) W)
theorem FixC.later {xb : Nat} {w w' : World} {f : FuncId} {caps : Array Value} {σ : Ex → Ex} (h : FixC xb w f caps σ) (k : KX xb w w') : FixC xb w' f caps σ := ⟨h.en, fun W hW => h.c W (k.trans hW)⟩
theorem FixC.clone (xb : Nat) (w : World) : FixC xb w 88 #[] (fun e => e) := ⟨enters_of Tryz.func88 (by kernel_rfl) rfl, fun W _ N e v hx hN hs => by
  rw [Array.append_empty]; exact cloneI_any e N W v hx hN hs⟩
structure Room4 (W : World) (g : Nat) : Prop where
  lt : g < W.heap.size
  f : ∀ o : Nat, W.frozen? ⟨g, o, none⟩ = false
  c : ∀ i : Nat, i < 4 → ∃ v, W.cell? ⟨g, i, none⟩ = some v
theorem Room4.of {W : World} {g : Nat} {x0 x1 x2 x3 : Value} (h : Blk W g [x0, x1, x2, x3]) : Room4 W g := ⟨h.lt, h.f, fun i hi => ⟨_, h.c i _ (List.getElem?_eq_getElem (by simp; omega))⟩⟩
theorem Room4.stay {W W' : World} {g : Nat} (h : Room4 W g) (hb : Below W.heap.size W W') : Room4 W' g :=
  ⟨Nat.lt_of_lt_of_le h.lt hb.size, fun o => (hb.frozen (p := ⟨g, o, none⟩) h.lt).trans (h.f o), fun i hi => by obtain ⟨v, hv⟩ := h.c i hi; exact ⟨v, (hb.cell (p := ⟨g, i, none⟩) h.lt).trans hv⟩⟩
theorem Room4.put {W : World} {g i : Nat} {x : Value} (h : Room4 W g) : Room4 (W.setCell ⟨g, i, none⟩ x) g :=
  ⟨by rw [setCell_size]; exact h.lt, fun o => by rw [World.frozen?_setCell]; exact h.f o, fun j hj => by
    obtain ⟨v, hv⟩ := h.c j hj; by_cases e : i = j
    · subst e; exact ⟨x, cell_set hv⟩
    · exact ⟨v, by rw [other _ _ e]; exact hv⟩⟩
theorem Room4.facts {W : World} {g : Nat} (h : Room4 W g) : W.frozen? ⟨g, 0, none⟩ = false ∧ W.frozen? ⟨g, 1, none⟩ = false ∧ W.frozen? ⟨g, 2, none⟩ = false ∧ W.frozen? ⟨g, 3, none⟩ = false ∧
    (∃ v, W.cell? ⟨g, 0, none⟩ = some v) ∧ (∃ v, W.cell? ⟨g, 1, none⟩ = some v) ∧ (∃ v, W.cell? ⟨g, 2, none⟩ = some v) ∧ (∃ v, W.cell? ⟨g, 3, none⟩ = some v) :=
  ⟨h.f _, h.f _, h.f _, h.f _, h.c 0 (by decide), h.c 1 (by decide), h.c 2 (by decide), h.c 3 (by decide)⟩
theorem Room4.cells {W : World} {g : Nat} (h : Room4 W g) (x0 x1 x2 x3 : Value) : Blk ((((W.setCell ⟨g, 0, none⟩ x0).setCell ⟨g, 1, none⟩ x1).setCell ⟨g, 2, none⟩ x2).setCell ⟨g, 3, none⟩ x3) g [x0, x1, x2, x3] := by
  obtain ⟨v0, h0⟩ := h.c 0 (by decide); obtain ⟨v1, h1⟩ := h.c 1 (by decide); obtain ⟨v2, h2⟩ := h.c 2 (by decide); obtain ⟨v3, h3⟩ := h.c 3 (by decide); have hb : Blk W g [v0, v1, v2, v3] := ⟨h.lt, fun i x hx => by
    rcases i with _ | _ | _ | _ | i <;> simp at hx <;> subst hx <;> assumption, h.f⟩
  exact ((((hb.set 0 _ (by simp)).set 1 _ (by simp)).set 2 _ (by simp)).set 3 _ (by simp))
structure R1 (W : World) (b7 b9 b11 : Nat) (fv : Value) (cs : List Value) (k : Int) (ecs : List Value) (W' : World) : Prop where
  h7 : Blk W' b7 [fv]
  h9 : Blk W' b9 cs
  h11 : Blk W' b11 [.int .i64 k]
  he : Blk W' W.heap.size ecs
  rm : Room4 W' (W.heap.size + 1)
  n7 : b7 < W.heap.size
  n9 : b9 < W.heap.size
  n11 : b11 < W.heap.size
  lo : Below W.heap.size W W'
theorem R1.stay {W V V' : World} {b7 b9 b11 : Nat} {fv : Value} {cs : List Value} {k : Int} {ecs : List Value} (h : R1 W b7 b9 b11 fv cs k ecs V) (hb : Below V.heap.size V V') : R1 W b7 b9 b11 fv cs k ecs V' :=
  ⟨h.h7.stay hb, h.h9.stay hb, h.h11.stay hb, h.he.stay hb, h.rm.stay hb, h.n7, h.n9, h.n11, h.lo.trans (hb.mono h.lo.size)⟩
theorem R1.put {W V : World} {b7 b9 b11 i : Nat} {fv x : Value} {cs : List Value} {k : Int} {ecs : List Value} (h : R1 W b7 b9 b11 fv cs k ecs V) : R1 W b7 b9 b11 fv cs k ecs (V.setCell ⟨W.heap.size + 1, i, none⟩ x) :=
  ⟨h.h7.far (by have := h.n7; omega), h.h9.far (by have := h.n9; omega), h.h11.far (by have := h.n11; omega), h.he.far (by omega), h.rm.put, h.n7, h.n9, h.n11, h.lo.setCell (p := ⟨W.heap.size + 1, i, none⟩) (by show W.heap.size ≤ W.heap.size + 1; omega) _⟩
theorem R1.put4 {W V : World} {b7 b9 b11 : Nat} {fv : Value} {cs : List Value} {k : Int} {ecs : List Value} (h : R1 W b7 b9 b11 fv cs k ecs V) (x0 x1 x2 x3 : Value) : R1 W b7 b9 b11 fv cs k ecs ((((V.setCell ⟨W.heap.size + 1, 0, none⟩ x0).setCell ⟨W.heap.size + 1, 1, none⟩ x1).setCell ⟨W.heap.size + 1, 2, none⟩ x2).setCell ⟨W.heap.size + 1, 3, none⟩ x3) := h.put.put.put.put
abbrev S1 (W : World) (b7 b9 b11 : Nat) (f : FuncId) (caps : Array Value) (ix : ByteArray) (cs : List Value) (k o n : Int) (en : ByteArray) (x : Value) (W' : World) : Prop :=
  W'.cell? ⟨b7, 0, none⟩ = some (.func (.func f) #[] caps) ∧ W'.cell? ⟨b9, 6, none⟩ = some (.string ix) ∧ W'.cell? ⟨b11, 0, none⟩ = some (.int .i64 k) ∧
    W'.cell? ⟨W.heap.size, 0, none⟩ = some (.int .i64 o) ∧ W'.cell? ⟨W.heap.size, 1, none⟩ = some (.int .i64 n) ∧ W'.cell? ⟨W.heap.size, 2, none⟩ = some (.string en) ∧ W'.cell? ⟨W.heap.size, 3, none⟩ = some x ∧
    R1 W b7 b9 b11 (.func (.func f) #[] caps) cs k [.int .i64 o, .int .i64 n, .string en, x] W'
theorem S1.r {W : World} {b7 b9 b11 : Nat} {f : FuncId} {caps : Array Value} {ix : ByteArray} {cs : List Value} {k o n : Int} {en : ByteArray} {x : Value} {W' : World} (h : S1 W b7 b9 b11 f caps ix cs k o n en x W') : R1 W b7 b9 b11 (.func (.func f) #[] caps) cs k [.int .i64 o, .int .i64 n, .string en, x] W' := h.2.2.2.2.2.2.2
theorem S1.of {W : World} {b7 b9 b11 : Nat} {f : FuncId} {caps : Array Value} {ix : ByteArray} {cs : List Value} {k o n : Int} {en : ByteArray} {x : Value} {W' : World} (hc : cs[6]? = some (.string ix)) (h : R1 W b7 b9 b11 (.func (.func f) #[] caps) cs k [.int .i64 o, .int .i64 n, .string en, x] W') : S1 W b7 b9 b11 f caps ix cs k o n en x W' :=
  ⟨h.h7.c 0 _ rfl, h.h9.c 6 _ hc, h.h11.c 0 _ rfl, h.he.c 0 _ rfl, h.he.c 1 _ rfl, h.he.c 2 _ rfl, h.he.c 3 _ rfl, h⟩
theorem fr_put4 {w : World} {v : Value} {e : Ex} {g : Nat} (h : Fr (g + 1) w v e) (x0 x1 x2 x3 : Value) : Fr (g + 1) ((((w.setCell ⟨g, 0, none⟩ x0).setCell ⟨g, 1, none⟩ x1).setCell ⟨g, 2, none⟩ x2).setCell ⟨g, 3, none⟩ x3) v e := (((h.set (by omega)).set (by omega)).set (by omega)).set (by omega)
set_option maxRecDepth 100000 in
set_option maxHeartbeats 16000000 in
theorem FixC.step {xb : Nat} {w : World} {f : FuncId} {caps : Array Value} {σ : Ex → Ex} (hf : FixC xb w f caps σ) (hσ : ∀ e, sz (σ e) ≤ sz e) (hx : xb < w.heap.size) {b7 b9 b11 : Nat} {cs : List Value} {ix : ByteArray} {k : Int}
    (h7 : Blk w b7 [.func (.func f) #[] caps]) (h9 : Blk w b9 cs) (hc : cs[6]? = some (.string ix)) (h11 : Blk w b11 [.int .i64 k]) (a7 : Av xb w b7) (a9 : Av xb w b9) (a11 : Av xb w b11) :
    FixC xb w 133 #[.pointer (some ⟨b7, 0, none⟩), .pointer (some ⟨b9, 0, none⟩), .pointer (some ⟨b11, 0, none⟩)] (fun a => su ix (cst k) (σ a)) := by
  refine ⟨enters_of Tryz.func133 (by kernel_rfl) rfl, ?_⟩; intro W hW N e v hx' hN hsz; have hen := hf.en; obtain ⟨p, cap, pl, cl, rfl, hs, ha⟩ := hx'.form; have HF : Hid (∀ V, Below W.heap.size W V → Calls Tryz.prog f (#[xv e.op e.n e.nm (.slice p e.args.length cap)] ++ caps) V (tFr (σ e) V)) := (Lib.hid fun V hV => hf.c V (hW.trans (KX.of_below (by have := hW.sz; omega) hV)) N e _ (hx'.under (hV.mono hN)) (by have := hV.size; omega) hsz); have SU : Hid (∀ V v, ExAt V.heap.size V v (σ e) → Calls Tryz.prog 134 #[v, .string ix, xv 1 k ⟨#[]⟩ (.slice none 0 0)] V (tFr (su ix (cst k) (σ e)) V)) := (Lib.hid fun V v h => substCode_any (σ e) (cst k) ix _ V v _ h (ExAt.mk (N := V.heap.size) (w := V) (o := 1) (n := k) (s := ⟨#[]⟩) (ks := []) (p := none) (cap := 0) (fun _ => none) (fun _ => 0) (by decide) (by decide) (by decide) (fun h => absurd h (by decide)) (fun i a h => by rw [List.getElem?_nil] at h; cases h)) (Nat.le_refl _) (Nat.le_trans (hσ e) hsz) (by unfold cst; simp [sz, szs])); have B7 := blk_eq h7 (hW.keep b7 a7).2; have B9 := blk_eq h9 (hW.keep b9 a9).2; have B11 := blk_eq h11 (hW.keep b11 a11).2; have b12 := (ba W (.cells #[.int .i64 e.op, .int .i64 e.n, .string e.nm, .slice p e.args.length cap] 43)).then_ (ba _ (.cells #[.int .i64 0, .int .i64 0, .string ⟨#[]⟩, .slice none 0 0] 43)); have E0 := (Blk.new W [.int .i64 e.op, .int .i64 e.n, .string e.nm, .slice p e.args.length cap] 43).alloc (.cells #[.int .i64 0, .int .i64 0, .string ⟨#[]⟩, .slice none 0 0] 43); have E1 := Blk.new (W.alloc (.cells #[.int .i64 e.op, .int .i64 e.n, .string e.nm, .slice p e.args.length cap] 43)) [.int .i64 0, .int .i64 0, .string ⟨#[]⟩, .slice none 0 0] 43; rw [World.size_alloc] at E1; have KP := S1.of hc (R1.mk (B7.stay b12) (B9.stay b12) (B11.stay b12) E0 (.of E1) B7.lt B9.lt B11.lt b12); have EC : Hid (∀ V V', S1 W b7 b9 b11 f caps ix cs k e.op e.n e.nm (.slice p e.args.length cap) V → Below V.heap.size V V' → S1 W b7 b9 b11 f caps ix cs k e.op e.n e.nm (.slice p e.args.length cap) V') := (Lib.hid fun V V' h hb => S1.of hc (h.r.stay hb)); have EC2 : Hid (∀ V x0 x1 x2 x3, S1 W b7 b9 b11 f caps ix cs k e.op e.n e.nm (.slice p e.args.length cap) V → S1 W b7 b9 b11 f caps ix cs k e.op e.n e.nm (.slice p e.args.length cap) ((((V.setCell ⟨W.heap.size + 1, 0, none⟩ x0).setCell ⟨W.heap.size + 1, 1, none⟩ x1).setCell ⟨W.heap.size + 1, 2, none⟩ x2).setCell ⟨W.heap.size + 1, 3, none⟩ x3)) := (Lib.hid fun V x0 x1 x2 x3 h => S1.of hc (h.r.put4 _ _ _ _)); clear hf hσ h7 h9 h11 B7 B9 B11 b12 E0 E1 hx' ha hs hsz a7 a9 a11 hx hW hN hc; simp only [List.toArray] at KP; generalize su ix (cst k) (σ e) = E at *
  generalize σ e = F at *
  generalize e.op = o at *
  generalize e.n = n at *
  generalize e.nm = en at *
  generalize e.args.length = K at *
  go_enter Tryz.func133, Tryz.ntmps133
  go_wp2; obtain ⟨W0, hW0⟩ : ∃ W0, (W.alloc (.cells #[.int .i64 o, .int .i64 n, .string en, .slice p K cap] 43)).alloc (.cells #[.int .i64 0, .int .i64 0, .string ⟨#[]⟩, .slice none 0 0] 43) = W0 := ⟨_, rfl⟩; rw [hW0] at KP ⊢; clear hW0; have k1 := EC.out _ W0.drew KP (Below.refl _ _).drew
  have K1 : Hid (∀ V, S1 W b7 b9 b11 f caps ix cs k o n en (.slice p K cap) V → Calls Tryz.prog f (#[xv o n en (.slice p K cap)] ++ caps) V fun x w' => ∃ q c, x = .returned (xv F.op F.n F.nm (.slice q F.args.length c)) ∧ S1 W b7 b9 b11 f caps ix cs k o n en (.slice p K cap) w' ∧ Hid (ExAt w'.heap.size w' (xv F.op F.n F.nm (.slice q F.args.length c)) F)) :=
    Lib.hid fun V h => (HF.out V h.r.lo).mono fun x w' ⟨v, h1, h2, h3⟩ => by
      obtain ⟨q, c, rfl, _⟩ := h2.form; exact ⟨q, c, h1, EC.out _ _ h h3, Lib.hid h2.at_⟩
  have K2 : Hid (∀ V, S1 W b7 b9 b11 f caps ix cs k o n en (.slice p K cap) V → Calls Tryz.prog 135 #[.int .i64 k] V fun x w' => x = .returned (xv 1 k ⟨#[]⟩ (.slice none 0 0)) ∧ S1 W b7 b9 b11 f caps ix cs k o n en (.slice p K cap) w' ∧ Hid (Below V.heap.size V w')) :=
    Lib.hid fun V h => (constant_any k V).mono fun x w' ⟨h1, h2⟩ => ⟨h1, EC.out _ _ h h2, Lib.hid h2⟩
  have K3 : Hid (∀ V v, S1 W b7 b9 b11 f caps ix cs k o n en (.slice p K cap) V → Hid (ExAt V.heap.size V v F) → Calls Tryz.prog 134 #[v, .string ix, xv 1 k ⟨#[]⟩ (.slice none 0 0)] V fun x w' => ∃ q c, x = .returned (xv E.op E.n E.nm (.slice q E.args.length c)) ∧ S1 W b7 b9 b11 f caps ix cs k o n en (.slice p K cap) w' ∧ Hid (Fr (W.heap.size + 2) w' (xv E.op E.n E.nm (.slice q E.args.length c)) E)) :=
    Lib.hid fun V v h hv => (SU.out V v hv.out).mono fun x w' ⟨v, h1, h2, h3⟩ => by
      obtain ⟨q, c, rfl, _⟩ := h2.form; exact ⟨q, c, h1, EC.out _ _ h h3, Lib.hid (h2.low (by have := h.r.rm.lt; omega))⟩
  have UP : Hid (∀ V V' v, Hid (ExAt V.heap.size V v F) → Hid (Below V.heap.size V V') → Hid (ExAt V'.heap.size V' v F)) := (Lib.hid fun V V' v h hb => Lib.hid ((h.out.under hb.out).wide hb.out.size)); clear SU HF EC
  go_region_held3 (fun V => V.cell? ⟨b7, 0, none⟩ = some (.func (.func f) #[] caps) ∧ V.cell? ⟨b9, 6, none⟩ = some (.string ix) ∧ V.cell? ⟨b11, 0, none⟩ = some (.int .i64 k) ∧
    V.cell? ⟨W.heap.size, 0, none⟩ = some (.int .i64 o) ∧ V.cell? ⟨W.heap.size, 1, none⟩ = some (.int .i64 n) ∧ V.cell? ⟨W.heap.size, 2, none⟩ = some (.string en) ∧ V.cell? ⟨W.heap.size, 3, none⟩ = some (.slice p K cap) ∧
    R1 W b7 b9 b11 (.func (.func f) #[] caps) cs k [.int .i64 o, .int .i64 n, .string en, .slice p K cap] V)
    (first | with_reducible assumption | (refine EC2.out _ _ _ _ _ ?_; with_reducible assumption) | fail)
    (first
      | (go_at_call 135; (with_reducible refine (K2.out _ ?_).mono ?_); assumption; rintro x w6 ⟨rfl, hg6, hb6⟩)
      | (go_at_call 134; (with_reducible refine (K3.out _ _ ?_ ?_).mono ?_); assumption; (first | with_reducible exact hs5 | with_reducible exact UP.out _ _ _ hs5 hb6); rintro x w7 ⟨q7, c7, rfl, hg7, hs7⟩; obtain ⟨z0, z1, z2, z3, ⟨_, y0⟩, ⟨_, y1⟩, ⟨_, y2⟩, ⟨_, y3⟩⟩ := hg7.r.rm.facts)
      | ((with_reducible refine (K1.out _ ?_).mono ?_); assumption; rintro x w5 ⟨q5, c5, rfl, hg5, hs5⟩))
  all_goals
    have HP := hg7.r.rm.cells (.int .i64 E.op) (.int .i64 E.n) (.string E.nm) (.slice q7 E.args.length c7); have p0 := HP.c 0 _ rfl; have p1 := HP.c 1 _ rfl; have p2 := HP.c 2 _ rfl; have p3 := HP.c 3 _ rfl; have hl := (hg7.r.put4 (.int .i64 E.op) (.int .i64 E.n) (.string E.nm) (.slice q7 E.args.length c7)).lo; have hr := (fr_put4 (g := W.heap.size + 1) hs7.out (.int .i64 E.op) (.int .i64 E.n) (.string E.nm) (.slice q7 E.args.length c7)).low (lo' := W.heap.size) (by omega); clear K1 K2 K3 UP EC2 KP k1 HP hg5 hg6 hg7 hs5 hs7; go_wp2; exact bodyPost_ret (v := xv E.op E.n E.nm (.slice q7 E.args.length c7)) (by simp [results, Tryz.results133, go_sem, p0, p1, p2, p3]) rfl ⟨_, rfl, hr, hl⟩
end Go.Proofs.YtpejflgdehioaaaGreatDoor.ItW
namespace Go.Proofs.YtpejflgdehioaaaGreatDoor.ExW
open Go Go.RowKit Go.«Sort» Go.Proofs.YtpejflgdehioaaaGreatDoor.NumM Go.Proofs.YtpejflgdehioaaaGreatDoor.LexW Go.Proofs.YtpejflgdehioaaaGreatDoor.LexM Go.Proofs.YtpejflgdehioaaaGreatDoor.ExM
def IntsV (w : World) (v : Value) (l : List Int) : Prop := ∃ p cap, v = .slice p l.length cap ∧ l.length ≤ cap ∧ (0 < l.length → ∃ g, p = some ⟨g, 0, none⟩ ∧ IntsAt w g 0 l)
theorem IntsV.later {w w' : World} {v : Value} {l : List Int} (h : IntsV w v l) (hb : Below w.heap.size w w') : IntsV w' v l := by
  obtain ⟨p, cap, e, hc, hx⟩ := h; exact ⟨p, cap, e, hc, fun h0 => by obtain ⟨g, e2, hi⟩ := hx h0; exact ⟨g, e2, hi.later hb⟩⟩
end Go.Proofs.YtpejflgdehioaaaGreatDoor.ExW
namespace Go.Proofs.YtpejflgdehioaaaGreatDoor.ExW
open Go Go.RowKit Go.Proofs.YtpejflgdehioaaaGreatDoor.NumM Go.Proofs.YtpejflgdehioaaaGreatDoor.LexW Go.Proofs.YtpejflgdehioaaaGreatDoor.LexM Go.Proofs.YtpejflgdehioaaaGreatDoor.ExM
def Foot (N lo : Nat) (W : World) (b : Nat) : Prop := b < N ∨ (lo ≤ b ∧ b < W.heap.size)
def tFo (N : Nat) (x : Ex) (w : World) (e : Ending) (w' : World) : Prop := ∃ v, e = .returned v ∧ ExS (Foot N w.heap.size w') w' v x ∧ Below w.heap.size w w'
theorem Foot.up {N lo lo' : Nat} {W W' : World} {b : Nat} (h : Foot N lo W b) (hl : lo' ≤ lo) (hs : W.heap.size ≤ W'.heap.size) : Foot N lo' W' b :=
  h.imp id fun g => ⟨Nat.le_trans hl g.1, Nat.lt_of_lt_of_le g.2 hs⟩
theorem ExS.grown {S S' : Nat → Prop} {w w' : World} {row : Option Nat} {v : Value} {e : Ex} (h : ExS S w v e) (hg : w.grownBy w' row) (hS : ∀ b, S b → S' b ∧ b < w.heap.size ∧ row ≠ some b) : ExS S' w' v e :=
  h.kept (fun b hb => (hS b hb).1) (fun b _ hb _ hv => (World.cell?_of_block (w := w) (hg.block b (hS b hb).2.1 (fun e => (hS b hb).2.2 e.symm))).trans hv)
theorem tFo.at_ {N : Nat} {x : Ex} {w w' : World} {v : Value} (h : ExS (Foot N w.heap.size w') w' v x) (hN : N ≤ w'.heap.size) : ExAt w'.heap.size w' v x :=
  h.toAt (fun b hb => hb.elim (fun g => by omega) (fun g => g.2))
structure KidsP (N lo : Nat) (X : Option Nat) (W : World) (va : Value) (xs : List Ex) (pl : Nat → Option Addr) (cl : Nat → Nat) : Prop where
  row : W.ownsRow lo 43 4 va xs.length (exCells pl cl 0 xs)
  kid : ∀ i a, xs[i]? = some a → ExS (fun b => Foot N lo W b ∧ va.ownBlock ≠ some b ∧ X ≠ some b) W (xv a.op a.n a.nm (.slice (pl i) a.args.length (cl i))) a
theorem KidsP.nil (N lo : Nat) (X : Option Nat) (W : World) : KidsP N lo X W (.slice none 0 0) [] (fun _ => none) (fun _ => 0) :=
  ⟨World.ownsRow_nil _ _ _ _, fun i a h => by simp at h⟩
theorem own_lt {w : World} {base : Nat} {e : TypeId} {size n : Nat} {v : Value} {xs : List Value} (h : w.ownsRow base e size v n xs) : ∀ k, v.ownBlock = some k → base ≤ k ∧ k < w.heap.size ∧ ∃ cs, w.heap[k]? = some (.cells cs e) := by
  intro k hk; rcases h.2 with ⟨rfl, _⟩ | ⟨g, cap, cur, rfl, hB, hg, _⟩
  · simp [Value.ownBlock] at hk
  · obtain rfl : g = k := (by simpa [Value.ownBlock] using hk); exact ⟨hB, (Array.getElem?_eq_some_iff.1 hg).1, cur, hg⟩
theorem own_grown {w w' : World} {base : Nat} {e : TypeId} {size n : Nat} {v : Value} {xs : List Value} {row : Option Nat} (h : w.ownsRow base e size v n xs) (hg : w.grownBy w' row) (hr : ∀ b, v.ownBlock = some b → row ≠ some b) : w'.ownsRow base e size v n xs :=
  World.ownsRow.kept h hg (by
    cases hv : v.ownBlock with
    | none => exact .inl rfl
    | some b => exact .inr (fun e => hr b hv e.symm))
theorem KidsP.turn {N lo : Nat} {X X' : Option Nat} {W W' : World} {va : Value} {xs : List Ex} {pl : Nat → Option Addr} {cl : Nat → Nat} {row : Option Nat} (h : KidsP N lo X W va xs pl cl) (hN : N ≤ W.heap.size) (hg : W.grownBy W' row)
    (hv : ∀ b, va.ownBlock = some b → row ≠ some b) (hr : ∀ b, row = some b → X = some b ∨ (N ≤ b ∧ b < lo)) (hX : ∀ b, X' = some b → X = some b ∨ b = W.heap.size) : KidsP N lo X' W' va xs pl cl := by
  refine ⟨own_grown h.row hg hv, fun i a hi => (h.kid i a hi).grown hg ?_⟩; rintro b ⟨hf, h1, h2⟩; have hlt : b < W.heap.size := hf.elim (fun g => by omega) (fun g => g.2); refine ⟨⟨hf.up (Nat.le_refl _) hg.size, h1, fun e => ?_⟩, hlt, fun e => ?_⟩
  · rcases hX b e with e | e
    · exact h2 e
    · omega
  · rcases hr b e with e | e
    · exact h2 e
    · rcases hf with g | g
      · omega
      · omega
theorem KidsP.later {N lo : Nat} {X : Option Nat} {W W' : World} {va : Value} {xs : List Ex} {pl : Nat → Option Addr} {cl : Nat → Nat} (h : KidsP N lo X W va xs pl cl) (hN : N ≤ W.heap.size) (hb : Below W.heap.size W W') : KidsP N lo X W' va xs pl cl :=
  h.turn hN (grown_of_below hb) (fun _ _ e => by cases e) (fun _ e => by cases e) (fun _ e => .inl e)
theorem ExS.leaf {S : Nat → Prop} {w : World} {o n : Int} {s : ByteArray} {p : Option Addr} {cap : Nat} (hs : s.size ≤ 140737488351232) : ExS S w (xv o n s (.slice p 0 cap)) (.mk o n s []) :=
  ExS.mk (ks := []) (fun _ => none) (fun _ => 0) hs (by simp) (by simp) (fun h => by simp at h) (fun i a hi => by simp at hi)
theorem ExS.set {N lo g i : Nat} {w : World} {u v : Value} {e : Ex} (h : ExS (Foot N lo w) w v e) (h1 : N ≤ g) (h2 : g < lo) (hN : N ≤ w.heap.size) : ExS (Foot N lo (w.setCell ⟨g, i, none⟩ u)) (w.setCell ⟨g, i, none⟩ u) v e :=
  h.grown (row := some g) (grownBy_set w g i u) (fun b hb => ⟨hb.up (Nat.le_refl _) (by rw [setCell_size]; exact Nat.le_refl _), hb.elim (fun q => by omega) (fun q => q.2), fun e => by cases e; rcases hb with q | q <;> omega⟩)
end Go.Proofs.YtpejflgdehioaaaGreatDoor.ExW
namespace Go.Proofs.YtpejflgdehioaaaGreatDoor.ItW
open Go Go.RowKit Go.Proofs.YtpejflgdehioaaaGreatDoor.NumM Go.Proofs.YtpejflgdehioaaaGreatDoor.LexW Go.Proofs.YtpejflgdehioaaaGreatDoor.LexM Go.Proofs.YtpejflgdehioaaaGreatDoor.ExM Go.Proofs.YtpejflgdehioaaaGreatDoor.ExW Go.Proofs.YtpejflgdehioaaaGreatDoor.ItM
structure Pc where
  x : It
  a4 : Value
  a7 : Value
  a10 : Value
  a11 : Value
def pcC (p : Pc) : List Value := ics p.x.kd p.x.e.op p.x.e.n p.x.e.nm p.a4 p.x.nm p.x.ix p.a7 (.slice none 0 0) (.slice none 0 0) p.a10 p.a11
theorem pcC_len (p : Pc) : (pcC p).length = 12 := rfl
structure PcS (S : Nat → Prop) (w : World) (p : Pc) : Prop where
  nm : p.x.nm.size ≤ 140737488351232
  ix : p.x.ix.size ≤ 140737488351232
  ex : ExS S w (xv p.x.e.op p.x.e.n p.x.e.nm p.a4) p.x.e
  wt : WtS S w p.a7 p.x.ws
  bf : StS S w p.a10 p.x.bf
  af : StS S w p.a11 p.x.af
  it : p.x.it = []
  el : p.x.el = []
theorem stsEq {S S' : Nat → Prop} {w w' : World} (hS : ∀ b, S b → S' b ∧ w'.heap[b]? = w.heap[b]?) {v : Value} {l : List ByteArray} (h : StS S w v l) : StS S' w' v l :=
  h.kept (fun b q => (hS b q).1) (fun b _ q _ hv => (World.cell?_of_block (w := w) (hS b q).2).trans hv)
theorem wtsEq {S S' : Nat → Prop} {w w' : World} (hS : ∀ b, S b → S' b ∧ w'.heap[b]? = w.heap[b]?) {v : Value} {l : List Wt} (h : WtS S w v l) : WtS S' w' v l :=
  h.kept (fun b q => (hS b q).1) (fun b _ q _ hv => (World.cell?_of_block (w := w) (hS b q).2).trans hv)
theorem PcS.eq {S S' : Nat → Prop} {w w' : World} (hS : ∀ b, S b → S' b ∧ w'.heap[b]? = w.heap[b]?) {p : Pc} (h : PcS S w p) : PcS S' w' p :=
  ⟨h.nm, h.ix, exsEq hS h.ex, wtsEq hS h.wt, stsEq hS h.bf, stsEq hS h.af, h.it, h.el⟩
structure XL (xb fb n0 : Nat) (W : World) (v : Value) (L : List Pc) : Prop where
  bx : Blk W xb [.map (some fb), v]
  row : W.ownsRow n0 55 12 v L.length (L.flatMap pcC)
  ne : v.ownBlock ≠ some xb
  parts : ∀ p ∈ L, PcS (Av xb W) W p
theorem XL.own {xb fb n0 : Nat} {W : World} {v : Value} {L : List Pc} (h : XL xb fb n0 W v L) : ownX xb W = v.ownBlock := by
  unfold ownX; rw [h.bx.c 1 v rfl]
theorem XL.lt {xb fb n0 : Nat} {W : World} {v : Value} {L : List Pc} (h : XL xb fb n0 W v L) : ∀ k, ownX xb W = some k → k < W.heap.size := fun k hk => by
  rw [h.own] at hk; exact (own_lt h.row k hk).2.1
theorem XL.below {xb fb n0 : Nat} {W W' : World} {v : Value} {L : List Pc} (h : XL xb fb n0 W v L) (hb : Below W.heap.size W W') : XL xb fb n0 W' v L :=
  ⟨h.bx.stay hb, own_later h.row hb, h.ne, fun p hp => (h.parts p hp).eq ((KX.of_below h.bx.lt hb).keep)⟩
theorem Av.fresh {xb fb n0 : Nat} {W W' : World} {v : Value} {L : List Pc} {b : Nat} (h : XL xb fb n0 W v L) (hb : Below W.heap.size W W') (h0 : W.heap.size ≤ b) (h1 : b < W'.heap.size) : Av xb W' b := Av.new h.bx.lt h.lt hb h0 h1
theorem set12 {xs Z : List Value} {n : Nat} (hx : xs.length = n * 12) (r : Nat) (x : Value) : (xs ++ Z).set (n * 12 + r) x = xs ++ Z.set r x := by
  rw [List.set_append_right _ _ (by omega), show n * 12 + r - xs.length = r by omega]
theorem own12 {w : World} {n0 g n cap : Nat} {xs : List Value} {z0 z1 z2 z3 z4 z5 z6 z7 z8 z9 z10 z11 : Value} (h : w.ownsRow n0 55 12 (.slice (some ⟨g, 0, none⟩) (n + 1) cap) (n + 1) (xs ++ [z0, z1, z2, z3, z4, z5, z6, z7, z8, z9, z10, z11])) (hx : xs.length = n * 12) (x0 x1 x2 x3 x4 x5 x6 x7 x8 x9 x10 x11 : Value) :
    ((((((((((((w.setCell ⟨g, n * 12, none⟩ x0).setCell ⟨g, n * 12 + 1, none⟩ x1).setCell ⟨g, n * 12 + 2, none⟩ x2).setCell ⟨g, n * 12 + 3, none⟩ x3).setCell ⟨g, n * 12 + 4, none⟩ x4).setCell ⟨g, n * 12 + 5, none⟩ x5).setCell ⟨g, n * 12 + 6, none⟩ x6).setCell ⟨g, n * 12 + 7, none⟩ x7).setCell ⟨g, n * 12 + 8, none⟩ x8).setCell ⟨g, n * 12 + 9, none⟩ x9).setCell ⟨g, n * 12 + 10, none⟩ x10).setCell ⟨g, n * 12 + 11, none⟩ x11).ownsRow n0 55 12 (.slice (some ⟨g, 0, none⟩) (n + 1) cap) (n + 1) (xs ++ [x0, x1, x2, x3, x4, x5, x6, x7, x8, x9, x10, x11]) := by
  have h1 := (World.ownsRow.stored h (n * 12) x0).1; rw [show n * 12 = n * 12 + 0 by omega, set12 hx] at h1; rw [show n * 12 + 0 = n * 12 by omega] at h1; simp only [List.set_cons_zero] at h1; have h2 := (World.ownsRow.stored h1 (n * 12 + 1) x1).1; rw [set12 hx] at h2; simp only [List.set_cons_zero, List.set_cons_succ] at h2; have h3 := (World.ownsRow.stored h2 (n * 12 + 2) x2).1; rw [set12 hx] at h3; simp only [List.set_cons_zero, List.set_cons_succ] at h3; have h4 := (World.ownsRow.stored h3 (n * 12 + 3) x3).1; rw [set12 hx] at h4; simp only [List.set_cons_zero, List.set_cons_succ] at h4; have h5 := (World.ownsRow.stored h4 (n * 12 + 4) x4).1; rw [set12 hx] at h5; simp only [List.set_cons_zero, List.set_cons_succ] at h5; have h6 := (World.ownsRow.stored h5 (n * 12 + 5) x5).1; rw [set12 hx] at h6; simp only [List.set_cons_zero, List.set_cons_succ] at h6; have h7 := (World.ownsRow.stored h6 (n * 12 + 6) x6).1; rw [set12 hx] at h7; simp only [List.set_cons_zero, List.set_cons_succ] at h7; have h8 := (World.ownsRow.stored h7 (n * 12 + 7) x7).1; rw [set12 hx] at h8; simp only [List.set_cons_zero, List.set_cons_succ] at h8; have h9 := (World.ownsRow.stored h8 (n * 12 + 8) x8).1; rw [set12 hx] at h9; simp only [List.set_cons_zero, List.set_cons_succ] at h9; have h10 := (World.ownsRow.stored h9 (n * 12 + 9) x9).1; rw [set12 hx] at h10; simp only [List.set_cons_zero, List.set_cons_succ] at h10; have h11 := (World.ownsRow.stored h10 (n * 12 + 10) x10).1; rw [set12 hx] at h11; simp only [List.set_cons_zero, List.set_cons_succ] at h11; have h12 := (World.ownsRow.stored h11 (n * 12 + 11) x11).1; rw [set12 hx] at h12; simp only [List.set_cons_zero, List.set_cons_succ] at h12; exact h12
theorem heap12 {w : World} {g n b : Nat} (hb : b ≠ g) (x0 x1 x2 x3 x4 x5 x6 x7 x8 x9 x10 x11 : Value) : ((((((((((((w.setCell ⟨g, n * 12, none⟩ x0).setCell ⟨g, n * 12 + 1, none⟩ x1).setCell ⟨g, n * 12 + 2, none⟩ x2).setCell ⟨g, n * 12 + 3, none⟩ x3).setCell ⟨g, n * 12 + 4, none⟩ x4).setCell ⟨g, n * 12 + 5, none⟩ x5).setCell ⟨g, n * 12 + 6, none⟩ x6).setCell ⟨g, n * 12 + 7, none⟩ x7).setCell ⟨g, n * 12 + 8, none⟩ x8).setCell ⟨g, n * 12 + 9, none⟩ x9).setCell ⟨g, n * 12 + 10, none⟩ x10).setCell ⟨g, n * 12 + 11, none⟩ x11).heap[b]? = w.heap[b]? := by
  have h : ∀ (V : World) (i : Nat) (x : Value), (V.setCell ⟨g, i, none⟩ x).heap[b]? = V.heap[b]? := (fun V i x => Below.heap_setCell _ _ _ _ hb); simp only [h]
theorem size12' {w : World} {g n : Nat} (x0 x1 x2 x3 x4 x5 x6 x7 x8 x9 x10 x11 : Value) : ((((((((((((w.setCell ⟨g, n * 12, none⟩ x0).setCell ⟨g, n * 12 + 1, none⟩ x1).setCell ⟨g, n * 12 + 2, none⟩ x2).setCell ⟨g, n * 12 + 3, none⟩ x3).setCell ⟨g, n * 12 + 4, none⟩ x4).setCell ⟨g, n * 12 + 5, none⟩ x5).setCell ⟨g, n * 12 + 6, none⟩ x6).setCell ⟨g, n * 12 + 7, none⟩ x7).setCell ⟨g, n * 12 + 8, none⟩ x8).setCell ⟨g, n * 12 + 9, none⟩ x9).setCell ⟨g, n * 12 + 10, none⟩ x10).setCell ⟨g, n * 12 + 11, none⟩ x11).heap.size = w.heap.size := by simp only [setCell_size]
theorem low12 {w0 w : World} {g n B : Nat} (h : Below B w0 w) (hg : B ≤ g) (x0 x1 x2 x3 x4 x5 x6 x7 x8 x9 x10 x11 : Value) : Below B w0 ((((((((((((w.setCell ⟨g, n * 12, none⟩ x0).setCell ⟨g, n * 12 + 1, none⟩ x1).setCell ⟨g, n * 12 + 2, none⟩ x2).setCell ⟨g, n * 12 + 3, none⟩ x3).setCell ⟨g, n * 12 + 4, none⟩ x4).setCell ⟨g, n * 12 + 5, none⟩ x5).setCell ⟨g, n * 12 + 6, none⟩ x6).setCell ⟨g, n * 12 + 7, none⟩ x7).setCell ⟨g, n * 12 + 8, none⟩ x8).setCell ⟨g, n * 12 + 9, none⟩ x9).setCell ⟨g, n * 12 + 10, none⟩ x10).setCell ⟨g, n * 12 + 11, none⟩ x11) :=
  ((((((((((((h.setCell hg _).setCell hg _).setCell hg _).setCell hg _).setCell hg _).setCell hg _).setCell hg _).setCell hg _).setCell hg _).setCell hg _).setCell hg _).setCell hg _)
theorem XL.push {xb fb n0 : Nat} {W W1 w2 w3 : World} {v : Value} {L : List Pc} {n g cap : Nat} {z0 z1 z2 z3 z4 z5 z6 z7 z8 z9 z10 z11 : Value} {p : Pc} (h : XL xb fb n0 W v L) (hn : L.length = n) (hx0 : n0 ≤ xb) (hn0 : n0 ≤ W.heap.size) (hb1 : Below W.heap.size W W1)
    (hown : w2.ownsRow n0 55 12 (.slice (some ⟨g, 0, none⟩) (n + 1) cap) (n + 1) (L.flatMap pcC ++ [z0, z1, z2, z3, z4, z5, z6, z7, z8, z9, z10, z11])) (hg : W1.grownBy w2 v.ownBlock) (hat : v.ownBlock = some g ∨ g = W1.heap.size) (hb3 : Below w2.heap.size w2 w3)
    (hp : PcS (fun b => (Av xb W b ∨ (W.heap.size ≤ b ∧ b ≠ g)) ∧ b < w3.heap.size) w3 p) {x0 x1 x2 x3 x4 x5 x6 x7 x8 x9 x10 x11 : Value} (hpc : pcC p = [x0, x1, x2, x3, x4, x5, x6, x7, x8, x9, x10, x11]) :
    XL xb fb n0 (((((((((((((w3.setCell ⟨g, n * 12, none⟩ x0).setCell ⟨g, n * 12 + 1, none⟩ x1).setCell ⟨g, n * 12 + 2, none⟩ x2).setCell ⟨g, n * 12 + 3, none⟩ x3).setCell ⟨g, n * 12 + 4, none⟩ x4).setCell ⟨g, n * 12 + 5, none⟩ x5).setCell ⟨g, n * 12 + 6, none⟩ x6).setCell ⟨g, n * 12 + 7, none⟩ x7).setCell ⟨g, n * 12 + 8, none⟩ x8).setCell ⟨g, n * 12 + 9, none⟩ x9).setCell ⟨g, n * 12 + 10, none⟩ x10).setCell ⟨g, n * 12 + 11, none⟩ x11).setCell ⟨xb, 1, none⟩ (.slice (some ⟨g, 0, none⟩) (n + 1) cap)) (.slice (some ⟨g, 0, none⟩) (n + 1) cap) (L ++ [p]) ∧
    KX xb W (((((((((((((w3.setCell ⟨g, n * 12, none⟩ x0).setCell ⟨g, n * 12 + 1, none⟩ x1).setCell ⟨g, n * 12 + 2, none⟩ x2).setCell ⟨g, n * 12 + 3, none⟩ x3).setCell ⟨g, n * 12 + 4, none⟩ x4).setCell ⟨g, n * 12 + 5, none⟩ x5).setCell ⟨g, n * 12 + 6, none⟩ x6).setCell ⟨g, n * 12 + 7, none⟩ x7).setCell ⟨g, n * 12 + 8, none⟩ x8).setCell ⟨g, n * 12 + 9, none⟩ x9).setCell ⟨g, n * 12 + 10, none⟩ x10).setCell ⟨g, n * 12 + 11, none⟩ x11).setCell ⟨xb, 1, none⟩ (.slice (some ⟨g, 0, none⟩) (n + 1) cap)) ∧ Below n0 W (((((((((((((w3.setCell ⟨g, n * 12, none⟩ x0).setCell ⟨g, n * 12 + 1, none⟩ x1).setCell ⟨g, n * 12 + 2, none⟩ x2).setCell ⟨g, n * 12 + 3, none⟩ x3).setCell ⟨g, n * 12 + 4, none⟩ x4).setCell ⟨g, n * 12 + 5, none⟩ x5).setCell ⟨g, n * 12 + 6, none⟩ x6).setCell ⟨g, n * 12 + 7, none⟩ x7).setCell ⟨g, n * 12 + 8, none⟩ x8).setCell ⟨g, n * 12 + 9, none⟩ x9).setCell ⟨g, n * 12 + 10, none⟩ x10).setCell ⟨g, n * 12 + 11, none⟩ x11).setCell ⟨xb, 1, none⟩ (.slice (some ⟨g, 0, none⟩) (n + 1) cap)) := by
  have s1 := hb1.size; have s2 := hg.size; have s3 := hb3.size; have hxlt := h.bx.lt; have hgo : ∀ b, v.ownBlock = some b → n0 ≤ b ∧ b < W.heap.size := (fun b hb => ⟨(own_lt h.row b hb).1, (own_lt h.row b hb).2.1⟩); have hg0 : n0 ≤ g := (by rcases hat with e | e; exact (hgo g e).1; omega); have hgx : g ≠ xb := by
    rcases hat with e | e
    · intro e2; subst e2; exact h.ne e
    · omega
  have keep : ∀ b, b < W.heap.size → v.ownBlock ≠ some b → w3.heap[b]? = W.heap[b]? := fun b hb hne =>
    ((hb3.block b (by omega)).trans (hg.block b (by omega) (fun e => hne e.symm))).trans (hb1.block b hb)
  obtain ⟨W4, hW4⟩ : ∃ W4, ((((((((((((w3.setCell ⟨g, n * 12, none⟩ x0).setCell ⟨g, n * 12 + 1, none⟩ x1).setCell ⟨g, n * 12 + 2, none⟩ x2).setCell ⟨g, n * 12 + 3, none⟩ x3).setCell ⟨g, n * 12 + 4, none⟩ x4).setCell ⟨g, n * 12 + 5, none⟩ x5).setCell ⟨g, n * 12 + 6, none⟩ x6).setCell ⟨g, n * 12 + 7, none⟩ x7).setCell ⟨g, n * 12 + 8, none⟩ x8).setCell ⟨g, n * 12 + 9, none⟩ x9).setCell ⟨g, n * 12 + 10, none⟩ x10).setCell ⟨g, n * 12 + 11, none⟩ x11) = W4 := ⟨_, rfl⟩; have r4 := own12 (own_later hown hb3) (by rw [flat_len pcC_len, hn]) x0 x1 x2 x3 x4 x5 x6 x7 x8 x9 x10 x11; have k4 : ∀ b, b ≠ g → W4.heap[b]? = w3.heap[b]? := (fun b hb => by rw [← hW4]; exact heap12 hb x0 x1 x2 x3 x4 x5 x6 x7 x8 x9 x10 x11); have z4 : W4.heap.size = w3.heap.size := (by rw [← hW4]; exact size12' x0 x1 x2 x3 x4 x5 x6 x7 x8 x9 x10 x11); have l4 : Below n0 W W4 := by
    rw [← hW4]; exact low12 (((hb1.mono hn0).grown hg (by omega) (fun k e => (hgo k e).1)).trans (hb3.mono (by omega))) hg0 x0 x1 x2 x3 x4 x5 x6 x7 x8 x9 x10 x11
  rw [hW4] at r4 ⊢; clear hW4; have hxo : v.ownBlock ≠ some xb := h.ne; have hbx4 : Blk W4 xb [.map (some fb), v] := blk_eq h.bx ((k4 xb (fun e => hgx e.symm)).trans (keep xb hxlt hxo)); have hbx5 := hbx4.set 1 (.slice (some ⟨g, 0, none⟩) (n + 1) cap) (by simp); have k5 : ∀ b, b ≠ xb → (W4.setCell ⟨xb, 1, none⟩ (.slice (some ⟨g, 0, none⟩) (n + 1) cap)).heap[b]? = W4.heap[b]? := (fun b hb => Below.heap_setCell _ _ _ _ hb); have z5 : (W4.setCell ⟨xb, 1, none⟩ (.slice (some ⟨g, 0, none⟩) (n + 1) cap)).heap.size = W4.heap.size := setCell_size _ _ _; have r5 := World.ownsRow.kept r4 (grownBy_set W4 xb 1 (.slice (some ⟨g, 0, none⟩) (n + 1) cap)) (.inr (fun e => hgx (by simpa [Value.ownBlock] using e))); have l5 := l4.setCell (p := ⟨xb, 1, none⟩) hx0 (.slice (some ⟨g, 0, none⟩) (n + 1) cap); obtain ⟨W5, hW5⟩ : ∃ W5, W4.setCell ⟨xb, 1, none⟩ (.slice (some ⟨g, 0, none⟩) (n + 1) cap) = W5 := ⟨_, rfl⟩; rw [hW5] at hbx5 k5 z5 r5 l5 ⊢; have hox : ownX xb W5 = some g := (by unfold ownX; rw [hbx5.c 1 _ rfl]; rfl); have hav : ∀ b, Av xb W b → Av xb W5 b ∧ W5.heap[b]? = W.heap[b]? := fun b hb => by
    have hbo : v.ownBlock ≠ some b := (by have := hb.2.2; rw [h.own] at this; exact this); have hbg : b ≠ g := by
      rcases hat with e | e
      · intro e2; subst e2; exact hbo e
      · have := hb.1; omega
    exact ⟨⟨by have := hb.1; omega, hb.2.1, by rw [hox]; intro e; exact hbg (Option.some.inj e).symm⟩, ((k5 b hb.2.1).trans (k4 b hbg)).trans (keep b hb.1 hbo)⟩
  have hav3 : ∀ b, ((Av xb W b ∨ (W.heap.size ≤ b ∧ b ≠ g)) ∧ b < w3.heap.size) → Av xb W5 b ∧ W5.heap[b]? = w3.heap[b]? := fun b hb => by
    rcases hb.1 with q | q
    · have hbo : v.ownBlock ≠ some b := (by have := q.2.2; rw [h.own] at this; exact this); exact ⟨(hav b q).1, (hav b q).2.trans (keep b q.1 hbo).symm⟩
    · exact ⟨⟨by omega, by omega, by rw [hox]; intro e; exact q.2 (Option.some.inj e).symm⟩, (k5 b (by omega)).trans (k4 b q.2)⟩
  refine ⟨⟨hbx5, ?_, fun e => hgx (by simpa [Value.ownBlock] using e), fun p' hp' => ?_⟩, ⟨by omega, hav⟩, l5⟩
  · rw [List.length_append, List.flatMap_append, hn]; simp only [List.length_cons, List.length_nil, List.flatMap_cons, List.flatMap_nil, List.append_nil, Nat.zero_add]; rw [hpc]; exact r5
  · rcases List.mem_append.1 hp' with q | q
    · exact (h.parts p' q).eq hav
    · obtain rfl : p' = p := (by simpa using q); exact hp.eq hav3
end Go.Proofs.YtpejflgdehioaaaGreatDoor.ItW
namespace Go.Proofs.YtpejflgdehioaaaGreatDoor.ItW
open Go Go.RowKit Go.«Sort» Go.Proofs.YtpejflgdehioaaaGreatDoor.NumM Go.Proofs.YtpejflgdehioaaaGreatDoor.LexW Go.Proofs.YtpejflgdehioaaaGreatDoor.LexM Go.Proofs.YtpejflgdehioaaaGreatDoor.ExM Go.Proofs.YtpejflgdehioaaaGreatDoor.ExW Go.Proofs.YtpejflgdehioaaaGreatDoor.ItM
open Go.Proofs.YtpejflgdehioaaaGreatDoor.ClM (Fld)
set_option maxRecDepth 100000 in
set_option maxHeartbeats 8000000 in
theorem countOf_any (fb : Nat) (fs : List Fld) (hS : ∀ f ∈ fs, 0 ≤ f.sz ∧ f.sz ≤ 8) (x : It) (a4 a7 a8 a9 a10 a11 : Value) (N : Nat) (w : World) (hf : FsA w fb fs) (h : IV N w a4 a7 a8 a9 a10 a11 x)
    (b1 : 0 ≤ cntL fs x.it ∧ cntL fs x.it ≤ 1000000000000) (b2 : 0 ≤ cntL fs x.el ∧ cntL fs x.el ≤ 1000000000000)
    (C1 : ∀ W, Below w.heap.size w W → Calls Tryz.prog 86 #[.map (some fb), a8] W (tInt (cntL fs x.it) W)) (C2 : ∀ W, Below w.heap.size w W → Calls Tryz.prog 86 #[.map (some fb), a9] W (tInt (cntL fs x.el) W)) :
    Calls Tryz.prog 131 #[.map (some fb), iv x.kd x.e.op x.e.n x.e.nm a4 x.nm x.ix a7 a8 a9 a10 a11] w (tInt (cntI fs x) w) := by
  have hl0 : ∀ W, Below w.heap.size w W → (Instr.lookup 79 (.map (some fb)) (.string x.nm) false).run Tryz.prog W = .ok (.int .i64 (szI fs x.nm)) W := (fun W hW => (hf.later hW).look x.nm h.nm); have hsb := cntL_bound fs hS x.nm; have EE : Hid (cntI fs x = if x.kd = 4 then cntL fs x.it + cntL fs x.el else if x.kd = 5 then cntL fs x.it * min (szI fs x.nm) 401 else 1) := Lib.hid (cntI_eq fs x); obtain ⟨kd, o, n, en, p4, k4, c4, nm, ix, p7, k7, c7, p8, k8, c8, p9, k9, c9, p10, k10, c10, p11, k11, c11, ev, hv⟩ := h.open_; have ev2 := ev; simp only [Value.agg.injEq, Array.mk.injEq, List.cons.injEq] at ev2; obtain ⟨-, -, -, -, rfl, -, -, rfl, rfl, rfl, rfl, rfl, -⟩ := ev2; rw [ev]; rw [hv.e5] at hl0 hsb; have EE2 := EE.out; rw [hv.e0, hv.e5] at EE2; have EE := Lib.hid EE2; clear EE2; obtain ⟨cs, hcs⟩ : ∃ cs, cs = ics kd o n en (.slice p4 k4 c4) nm ix (.slice p7 k7 c7) (.slice p8 k8 c8) (.slice p9 k9 c9) (.slice p10 k10 c10) (.slice p11 k11 c11) := ⟨_, rfl⟩; have F0 := Blk.new w cs 55; have HB := Lib.hid (ba w (.cells cs.toArray 55)); have E1 := reB (v := .int .i64 (cntL fs x.it)) (fun W hW => C1 W (HB.out.then_ hW)); have E2 := reB (v := .int .i64 (cntL fs x.el)) (fun W hW => C2 W (HB.out.then_ hW)); have HC1 := Lib.hid (C1 _ HB.out); have hlk := hl0 _ HB.out; have HL := Lib.hid hl0; subst hcs; have d0 := F0.c 0 _ rfl; have d5 := F0.c 5 _ rfl; have d8 := F0.c 8 _ rfl; have d9 := F0.c 9 _ rfl; have HF := Lib.hid F0; clear F0 ev hv h hl0 C1 C2; generalize cntL fs x.it = A at *
  generalize cntL fs x.el = B at *
  generalize szI fs nm = z at *
  by_cases h4 : kd = 4
  · subst h4; have E : Hid (A + B = cntI fs x) := Lib.hid (by rw [EE.out]; rfl); have m8 := cell_regrown d8; have m9 := cell_regrown d9
    go_enter Tryz.func131, Tryz.ntmps131
    go_wp2; refine wp_region_quiet_below (by kernel_rfl) (by kernel_rfl) ?_; repeat (first | go_big_quiet_step ((go_at_call 86; first | with_reducible exact E1 _ _ | with_reducible exact E2 _ _)) | quiet_step ((go_at_call 86; first | with_reducible exact E1 _ _ | with_reducible exact E2 _ _)))
    refine wpQuiet_nil ?_; intro w4 hw'; obtain ⟨pq, hw''⟩ := hw'; have HX := Lib.hid (HB.out.then_ (by rw [hw'']; exact below_regrown _ _ _ : Below _ _ w4)); clear hw'' E1 E2 m8 m9; go_wp2; go_ret; exact ExW.tInt_mk E.out HX.out
  · have f4 : (kd == 4) = false := (by rw [beq_eq_false_iff_ne]; exact h4); by_cases h5 : kd = 5
    · subst h5; have E : Hid (A * min z 401 = cntI fs x) := Lib.hid (by rw [EE.out]; rfl); have hmin : min z 401 = z := (by omega); rw [hmin] at E; have hz0 := hsb.1; have hz8 := hsb.2; have hm1 : 0 ≤ A * z := Int.mul_nonneg b1.1 hz0; have hm2 : A * z ≤ 1000000000000 * 8 := Int.mul_le_mul b1.2 hz8 hz0 (by omega); obtain ⟨M, hM⟩ : ∃ M, A * z = M := ⟨_, rfl⟩; have m8 := cell_regrown d8; have m5 := cell_regrown d5; have hlkR : ∀ d os, (Instr.lookup 79 (.map (some fb)) (.string nm) false).run Tryz.prog (grow (redrawn (w.alloc (.cells (ics 5 o n en (.slice p4 k4 c4) nm ix (.slice p7 k7 c7) (.slice p8 k8 c8) (.slice p9 k9 c9) (.slice p10 k10 c10) (.slice p11 k11 c11)).toArray 55)) d) os) = .ok (.int .i64 z) (grow (redrawn (w.alloc (.cells (ics 5 o n en (.slice p4 k4 c4) nm ix (.slice p7 k7 c7) (.slice p8 k8 c8) (.slice p9 k9 c9) (.slice p10 k10 c10) (.slice p11 k11 c11)).toArray 55)) d) os) := (fun d os => HL.out _ (HB.out.then_ (below_regrown _ d os))); clear h4 f4
      go_enter Tryz.func131, Tryz.ntmps131
      go_wp2; refine wp_region_quiet_below (by kernel_rfl) (by kernel_rfl) ?_; repeat (first | go_big_quiet_step ((go_at_call 86; with_reducible exact E1 _ _)) | quiet_step ((go_at_call 86; with_reducible exact E1 _ _)))
      refine wpQuiet_nil ?_; intro w4 hw'; obtain ⟨pq, hw''⟩ := hw'; have HX := Lib.hid (HB.out.then_ (by rw [hw'']; exact below_regrown _ _ _ : Below _ _ w4)); clear hw'' E1 E2 m8 m5 hlkR; go_wp2; go_ret; exact ExW.tInt_mk (by rw [← E.out, hM]) HX.out
    · have E : Hid (1 = cntI fs x) := Lib.hid (by rw [EE.out, if_neg h4, if_neg h5]); have f5 : (kd == 5) = false := (by rw [beq_eq_false_iff_ne]; exact h5); clear h4 h5
      go_enter Tryz.func131, Tryz.ntmps131
      go_wp2; go_ret; exact ExW.tInt_mk E.out HB.out
theorem cntL_take {fs : List Fld} {k : Nat} {l : List It} {a : It} (h : l[k]? = some a) : cntL fs (l.take (k + 1)) = cntL fs (l.take k) + cntI fs a := by
  obtain ⟨hk, he⟩ := List.getElem?_eq_some_iff.1 h; rw [List.take_succ_eq_append_getElem hk, he]; have : ∀ (x y : List It), cntL fs (x ++ y) = cntL fs x + cntL fs y := by
    intro x y; induction x with
    | nil => rw [List.nil_append, cntL_nil]; omega
    | cons b r ih => rw [List.cons_append, cntL_cons, cntL_cons, ih]; omega
  rw [this, cntL_cons, cntL_nil]; omega
theorem dpt_take {k : Nat} {l : List It} (h : dpt k l) (j : Nat) : dpt k (l.take j) := by
  cases k with
  | zero =>
    have h0 : l = [] := h; subst h0; rw [List.take_nil]; rfl
  | succ k => exact fun x hx => h x (List.mem_of_mem_take hx)
set_option maxRecDepth 100000 in
set_option maxHeartbeats 8000000 in
theorem count_any (fb : Nat) (fs : List Fld) (hS : ∀ f ∈ fs, 0 ≤ f.sz ∧ f.sz ≤ 8) (l : List It) : ∀ (k : Nat) (v : Value) (N : Nat) (w : World), dpt k l → k ≤ 6 → iszs l ≤ 10000 → FsA w fb fs → ItsA N w v l → N ≤ w.heap.size →
    Calls Tryz.prog 86 #[.map (some fb), v] w (tInt (cntL fs l) w) := by
  induction l using its_ind with
  | h l ih =>
    intro k v N w hd hk hz hf hx hN; obtain ⟨p, cap, V, rfl, hr⟩ := hx.form; have hl := hr.hl; have HR := Lib.hid hr; have HF := Lib.hid hf; have HIH := Lib.hid ih; have HD := Lib.hid hd; have hbk : (8 : Int) ^ k ≤ 262144 := by
      have : k = 0 ∨ k = 1 ∨ k = 2 ∨ k = 3 ∨ k = 4 ∨ k = 5 ∨ k = 6 := (by omega); rcases this with rfl | rfl | rfl | rfl | rfl | rfl | rfl <;> decide
    have HBD : Hid (∀ m : List It, ∀ j, dpt j m → j ≤ 6 → iszs m ≤ 10000 → 0 ≤ cntL fs m ∧ cntL fs m ≤ 1000000000000) := Lib.hid (fun m j hm hj hzm => by
      have h1 := cntL_le fs hS m j hm; have h2 : (8 : Int) ^ j ≤ 262144 := by
        have : j = 0 ∨ j = 1 ∨ j = 2 ∨ j = 3 ∨ j = 4 ∨ j = 5 ∨ j = 6 := (by omega); rcases this with rfl | rfl | rfl | rfl | rfl | rfl | rfl <;> decide
      have h3 : (iszs m : Int) * 8 ^ j ≤ 10000 * 262144 := Int.mul_le_mul (by omega) h2 (Int.le_of_lt (Int.pow_pos (by omega))) (by omega); omega)
    obtain ⟨K, hK⟩ : ∃ K, l.length = K := ⟨_, rfl⟩; have HK := Lib.hid hK; rw [hK] at hl ⊢; have hk47 : K ≤ 140737488351232 := (by omega); clear hK hr ih hx hf hd hbk; have HB0 := Lib.hid (Below.refl w.heap.size w)
    go_enter Tryz.func86, Tryz.ntmps86
    go_wp2; go_loopw [5, 10] (fun t i wr => ∃ j : Nat, j ≤ K ∧ i = .int .i64 j ∧ t = .int .i64 (cntL fs (l.take j)) ∧ Hid (Below w.heap.size w wr)) (fun _ i _ => K - (intOf i).toNat)
    case atStart => exact ⟨0, Nat.zero_le _, rfl, by rw [List.take_zero, cntL_nil], HB0⟩
    case round =>
      obtain ⟨j, hj, rfl, rfl, BW⟩ := hrel; by_cases hlt : j < K
      · obtain ⟨a, ha⟩ : ∃ a, l[j]? = some a := ⟨_, List.getElem?_eq_getElem (by rw [HK.out]; exact hlt)⟩; have hbw : Below N w wr := BW.out.mono hN; have hr2 := HR.out.under hbw; obtain ⟨b, off, rfl, hb, hcell⟩ := hr2.hp (by rw [HK.out]; omega); have hva := hr2.hv j a ha; obtain ⟨g0, g1, g2, g3, g4, g5, g6, g7, g8, g9, g10, g11⟩ := hcell j a ha; have hmem := List.mem_of_getElem? ha; have hsa := iszs_take ha; have hsb := iszs_take_le (j + 1) l; have hse := isz_eq a; have hkd : ∃ k', dpt k' a.it ∧ dpt k' a.el ∧ k' ≤ 6 := by
          cases k with
          | zero => have := HD.out; have h0 : l = [] := this; rw [h0] at hmem; cases hmem
          | succ k => exact ⟨k, (HD.out a hmem).1, (HD.out a hmem).2, by omega⟩
        obtain ⟨k', hd1, hd2, hk'⟩ := hkd; have CO : ∀ W, Below wr.heap.size wr W → Calls Tryz.prog 131 #[.map (some fb), iv a.kd a.e.op a.e.n a.e.nm (V j 4) a.nm a.ix (V j 7) (V j 8) (V j 9) (V j 10) (V j 11)] W (tInt (cntI fs a) W) := fun W hW => by
          have hNW : N ≤ wr.heap.size := (by have := BW.out.size; omega); have hW2 := hW.mono hNW; refine countOf_any fb fs hS a _ _ _ _ _ _ N W ((HF.out.later BW.out).later hW) (hva.under hW2) (HBD.out a.it k' hd1 hk' (by omega)) (HBD.out a.el k' hd2 hk' (by omega)) (fun W' hW' => ?_) (fun W' hW' => ?_)
          · exact (HIH.out a hmem).1 k' _ N W' hd1 hk' (by omega) (((HF.out.later BW.out).later hW).later hW') ((hva.its.under hW2).under (hW'.mono (by have := hW.size; omega))) (by have := hW.size; have := hW'.size; omega)
          · exact (HIH.out a hmem).2 k' _ N W' hd2 hk' (by omega) (((HF.out.later BW.out).later hW).later hW') ((hva.els.under hW2).under (hW'.mono (by have := hW.size; omega))) (by have := hW.size; have := hW'.size; omega)
        obtain ⟨p4, k4, p7, k7, p8, k8, p9, k9, p10, k10, p11, k11, e4, e7, e8, e9, e10, e11⟩ := hva.slices; rw [e4] at g4; rw [e7] at g7; rw [e8] at g8; rw [e9] at g9; rw [e10] at g10; rw [e11] at g11; rw [e4, e7, e8, e9, e10, e11] at CO; have CO := Lib.hid (CO _ (ba wr (.cells (ics a.kd a.e.op a.e.n a.e.nm (.slice p4 a.e.args.length k4) a.nm a.ix (.slice p7 a.ws.length k7) (.slice p8 a.it.length k8) (.slice p9 a.el.length k9) (.slice p10 a.bf.length k10) (.slice p11 a.af.length k11)).toArray 55))); have HB1 := Lib.hid (BW.out.then_ (ba wr (.cells (ics a.kd a.e.op a.e.n a.e.nm (.slice p4 a.e.args.length k4) a.nm a.ix (.slice p7 a.ws.length k7) (.slice p8 a.it.length k8) (.slice p9 a.el.length k9) (.slice p10 a.bf.length k10) (.slice p11 a.af.length k11)).toArray 55))); have hct := cntL_take (fs := fs) ha; have hb1 := HBD.out (l.take j) k (dpt_take HD.out j) hk (by have := iszs_take_le j l; omega); have hb2 := HBD.out (l.take (j + 1)) k (dpt_take HD.out (j + 1)) hk (by have := iszs_take_le (j + 1) l; omega); have HCT := Lib.hid hct; have hb3 : 0 ≤ cntL fs (l.take j) + cntI fs a ∧ cntL fs (l.take j) + cntI fs a ≤ 1000000000000 := (by rw [← hct]; exact hb2); clear hct hb2 hcell hva hbw e4 e7 e8 e9 e10 e11 hr2; generalize cntL fs (l.take j) = T0 at *
        generalize cntI fs a = T1 at *
        go_wp2_with (go_at_call 131; ((with_reducible refine CO.out.mono ?_); rintro e w1 ⟨rfl, hb1'⟩; have HB2 := Lib.hid (HB1.out.then_ hb1'); clear hb1'))
        go_roundw
        case rel => exact ⟨j + 1, by omega, by go_num, by rw [HCT.out], HB2⟩
        case measure => simp [intOf]; omega
      · have HT : Hid (cntL fs (l.take j) = cntL fs l) := Lib.hid (by rw [List.take_of_length_le (by rw [HK.out]; omega)]); go_wp2; go_ret; exact ExW.tInt_mk HT.out BW.out
end Go.Proofs.YtpejflgdehioaaaGreatDoor.ItW
namespace Go.Proofs.YtpejflgdehioaaaGreatDoor.ItW
open Go Go.RowKit Go.Proofs.YtpejflgdehioaaaGreatDoor.NumM Go.Proofs.YtpejflgdehioaaaGreatDoor.LexW Go.Proofs.YtpejflgdehioaaaGreatDoor.LexM Go.Proofs.YtpejflgdehioaaaGreatDoor.ExM Go.Proofs.YtpejflgdehioaaaGreatDoor.ExW Go.Proofs.YtpejflgdehioaaaGreatDoor.ItM
open Go.Proofs.YtpejflgdehioaaaGreatDoor.ClM (Fld)
theorem wks_x (l : List It) : ∀ d B d' B', (wks d B l).map Pl.x = (wks d' B' l).map Pl.x := by
  induction l using its_rec with
  | h0 => intro d B d' B'; rw [wks_nil, wks_nil]
  | h1 x r h1 h2 h3 =>
    intro d B d' B'; rw [wks_cons, wks_cons, wk_eq, wk_eq]; simp only [List.map_append, List.map_cons]; rw [h1 (d + 1) (inn x.kd x.ix B) (d' + 1) (inn x.kd x.ix B'), h2 (d + 1) B (d' + 1) B', h3 d B d' B']
def SmE (l : List It) : Prop := ∀ x ∈ (wks 0 [] l).map Pl.x, sz x.e ≤ 1000
theorem SmE.one {l : List It} {a : It} (h : SmE l) (ha : a ∈ l) : sz a.e ≤ 1000 ∧ SmE a.it ∧ SmE a.el := by
  have hm : ∀ y, y = a ∨ y ∈ (wks 0 [] a.it).map Pl.x ∨ y ∈ (wks 0 [] a.el).map Pl.x → y ∈ (wks 0 [] l).map Pl.x := by
    intro y hy; obtain ⟨s, t, rfl⟩ := List.append_of_mem ha; rw [wks_append, wks_cons, wk_eq]; simp only [List.map_append, List.map_cons, List.mem_append, List.mem_cons]; rw [wks_x a.it (0 + 1) _ 0 [], wks_x a.el (0 + 1) _ 0 []]; rcases hy with rfl | hy | hy
    · exact .inr (.inl (.inl rfl))
    · exact .inr (.inl (.inr (.inl hy)))
    · exact .inr (.inl (.inr (.inr hy)))
  exact ⟨h a (hm a (.inl rfl)), fun x hx => h x (hm x (.inr (.inl hx))), fun x hx => h x (hm x (.inr (.inr hx)))⟩
theorem exL_append (fs : List Fld) (q : Option Ex) (σ : Ex → Ex) (a b : List It) : exL fs q σ (a ++ b) = exL fs q σ a ++ exL fs q σ b := by
  induction a with
  | nil => rw [List.nil_append, exL_nil, List.nil_append]
  | cons x r ih => rw [List.cons_append, exL_cons, exL_cons, ih, List.append_assoc]
theorem exL_take {fs : List Fld} {q : Option Ex} {σ : Ex → Ex} {k : Nat} {l : List It} {a : It} (h : l[k]? = some a) : exL fs q σ (l.take (k + 1)) = exL fs q σ (l.take k) ++ exI fs q σ a := by
  obtain ⟨hk, he⟩ := List.getElem?_eq_some_iff.1 h; rw [List.take_succ_eq_append_getElem hk, exL_append, he, exL_cons, exL_nil, List.append_nil]
theorem flat_range {α : Type} (g : Nat → List α) (m : Nat) (hm : ∀ k, (g k).length = m) (n : Nat) : ((List.range n).flatMap g).length = n * m := by
  induction n with
  | zero => simp
  | succ n ih => rw [List.range_succ, List.flatMap_append, List.length_append, ih, List.flatMap_cons, List.flatMap_nil, List.append_nil, hm, Nat.succ_mul]
theorem exL_len (fs : List Fld) (hS : ∀ f ∈ fs, 0 ≤ f.sz ∧ f.sz ≤ 8) (l : List It) : ∀ q σ, ((exL fs q σ l).length : Int) = cntL fs l := by
  induction l using its_rec with
  | h0 => intro q σ; rw [exL_nil, cntL_nil]; rfl
  | h1 x r h1 h2 h3 =>
    intro q σ; have hI : ((exI fs q σ x).length : Int) = cntI fs x := by
      rw [exI_eq, cntI_eq]; by_cases h4 : x.kd = 4
      · rw [if_pos h4, if_pos h4, List.length_append]; have a1 := h1 (some (und q 19 (σ x.e))) σ; have a2 := h2 (some (und q 19 (notE (σ x.e)))) σ; omega
      · rw [if_neg h4, if_neg h4]; by_cases h5 : x.kd = 5
        · rw [if_pos h5, if_pos h5]; have hb := cntL_bound fs hS x.nm; have hc : ∀ k : Nat, (exL fs q (fun a => su x.ix (cst (k : Int)) (σ a)) x.it).length = (cntL fs x.it).toNat := fun k => by
            have := h1 q (fun a => su x.ix (cst (k : Int)) (σ a)); omega
          rw [flat_range _ _ hc, show min (szI fs x.nm) 401 = szI fs x.nm by omega]; have h0 : 0 ≤ cntL fs x.it := (by have := h1 q σ; omega); rw [Int.natCast_mul, Int.toNat_of_nonneg hb.1, Int.toNat_of_nonneg h0, Int.mul_comm]
        · rw [if_neg h5, if_neg h5]; split <;> rfl
    have hr := h3 q σ; rw [exL_cons, cntL_cons, List.length_append]; omega
theorem exI_none {fs : List Fld} (hS : ∀ f ∈ fs, 0 ≤ f.sz ∧ f.sz ≤ 8) {x : It} (h : cntI fs x = 0) (q : Option Ex) (σ : Ex → Ex) : exI fs q σ x = [] := by
  have := exL_len fs hS [x] q σ; rw [exL_cons, exL_nil, List.append_nil, cntL_cons, cntL_nil, h] at this; exact List.length_eq_zero_iff.1 (by omega)
theorem cnt_pos (fs : List Fld) (hS : ∀ f ∈ fs, 0 ≤ f.sz ∧ f.sz ≤ 8) (l : List It) : 0 ≤ cntL fs l := by
  have := exL_len fs hS l none (fun a => a); omega
theorem sz_und (q : Option Ex) (op : Int) (e : Ex) : sz (und q op e) ≤ sz e + (match q with | some c => sz c + 1 | none => 0) := by
  cases q with
  | none => exact Nat.le_refl _
  | some c => unfold und; rw [sz_mk]; simp [szs]; omega
theorem sz_not (e : Ex) : sz (notE e) = sz e + 1 := by unfold notE; rw [sz_mk]; simp [szs]
theorem fix_sz {σ : Ex → Ex} (h : ∀ e, sz (σ e) ≤ sz e) (ix : ByteArray) (k : Int) : ∀ e, sz (su ix (cst k) (σ e)) ≤ sz e := fun e => by
  have h1 := su_sz ix (cst k) (σ e); have h2 : sz (cst k) = 1 := (by unfold cst; simp [sz, szs]); rw [h2, Nat.mul_one] at h1; exact Nat.le_trans h1 (h e)
theorem CondS.up {xb fb n0 : Nat} {W W' : World} {u v : Value} {L : List Pc} {q : Option Ex} (h : CondS (fun b => Av xb W b ∨ Up W.heap.size W' b) W' v q) (hx : XL xb fb n0 W u L) (hb : Below W.heap.size W W') : CondS (Av xb W') W' v q :=
  h.eq fun b hq => ⟨hq.elim (fun g => ((KX.of_below hx.bx.lt hb).keep b g).1) (fun g => Av.fresh hx hb g.1 g.2), rfl⟩
theorem fr_av {xb fb n0 lo : Nat} {W W' : World} {u v : Value} {L : List Pc} {e : Ex} (h : Fr lo W' v e) (hlo : W.heap.size ≤ lo) (hx : XL xb fb n0 W u L) (hb : Below W.heap.size W W') : ExS (Av xb W') W' v e :=
  exsEq (fun _ hq => ⟨Av.fresh hx hb (Nat.le_trans hlo hq.1) hq.2, rfl⟩) h
end Go.Proofs.YtpejflgdehioaaaGreatDoor.ItW
namespace Go.Proofs.YtpejflgdehioaaaGreatDoor.ItW
open Go Go.RowKit Go.Proofs.YtpejflgdehioaaaGreatDoor.LexM Go.Proofs.YtpejflgdehioaaaGreatDoor.ExM Go.Proofs.YtpejflgdehioaaaGreatDoor.ItM
open Go.Proofs.YtpejflgdehioaaaGreatDoor.ClM (Fld)
def fl2 : List Fld := [⟨⟨#[97]⟩, 2, 0, 1, 0⟩, ⟨⟨#[100]⟩, 3, 2, 1, 0⟩]
def eIdx : Ex := .mk 2 0 ⟨#[105]⟩ []
def eElem : Ex := .mk 3 0 ⟨#[100]⟩ [eIdx]
def eTop : Ex := .mk 17 0 ⟨#[]⟩ [eElem, .mk 1 3 ⟨#[]⟩ []]
def inL : List It := [.mk 1 eTop ⟨#[]⟩ ⟨#[]⟩ [] [] [] [] []]
def awL : List It := [.mk 5 zE ⟨#[100]⟩ ⟨#[105]⟩ [] inL [] [] []]
def eSum : Ex := .mk 24 0 ⟨#[100]⟩ []
theorem aw_check : checkI fl2 awL = 0 := by kernel_rfl
theorem aw_exp : (expS fl2 awL).2 = 0 := by kernel_rfl
theorem aw_exp1 : (expS fl2 awL).1.map It.kd = [1, 1] := by kernel_rfl
theorem aw_sca : (scaS fl2 eSum).2 = 0 := by kernel_rfl
theorem aw_sca1 : (scaS fl2 eSum).1.op = 7 := by kernel_rfl
theorem aw_size : iszs awL = 2 := by kernel_rfl
theorem aw_sz : sz eSum = 1 := by kernel_rfl
theorem aw_S : ∀ f ∈ fl2, 0 ≤ f.sz ∧ f.sz ≤ 8 := by intro f hf; simp [fl2] at hf; rcases hf with rfl | rfl <;> decide
theorem aw_rs : RsL awL := by
  unfold awL inL; simp only [rsL_cons, rsL_nil, rsI_eq, It.it, It.el, Nd1, It.e, It.ws, It.bf, It.af, List.length_nil, and_true]; refine ⟨⟨?_, ?_⟩, ⟨?_, ?_⟩⟩ <;> first | decide | (show sz _ ≤ 10000; exact of_decide_eq_true (by kernel_rfl))
theorem aw_sm : SmE awL := by
  intro x hx; have h : ((wks 0 [] awL).map Pl.x).map (fun y => sz y.e) = [1, 4] := (by kernel_rfl); have h2 := List.mem_map_of_mem (f := fun y : It => sz y.e) hx; rw [h] at h2; simp at h2; omega
end Go.Proofs.YtpejflgdehioaaaGreatDoor.ItW
