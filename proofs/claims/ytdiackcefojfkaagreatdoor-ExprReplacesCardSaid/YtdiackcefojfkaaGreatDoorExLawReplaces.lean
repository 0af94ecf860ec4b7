/-
  The walk of ExprReplaces.
-/
import Derived.Test.YtdiackcefojfkaaGreatDoorExShapeR
import Derived.Test.YtdiackcefojfkaaGreatDoorExBrief
import Derived.Test.YtdiackcefojfkaaGreatDoorExReplM
import Derived.Test.YtdiackcefojfkaaGreatDoorExSubstC
import Derived.Test.YtdiackcefojfkaaGreatDoorExSigO
import Derived.Test.YtdiackcefojfkaaGreatDoorExAwakeW
import Derived.Deep.RegionWith
import Derived.Deep.RegionHeld3
import Derived.Deep.DeepCutAuto
namespace Go.Proofs.YtdiackcefojfkaaGreatDoor.ExW
open Go Go.RowKit Go.Proofs.YtdiackcefojfkaaGreatDoor.NumM Go.Proofs.YtdiackcefojfkaaGreatDoor.LexW Go.Proofs.YtdiackcefojfkaaGreatDoor.LexM Go.Proofs.YtdiackcefojfkaaGreatDoor.ExM
open Go.«Sort»

/-- Two boxes and a name's cell as they were, and nothing that was there has changed since w3. -/
def CelR (w3 : World) (b : Nat) (o n : Int) (s : ByteArray) (x : Value) (b' : Nat) (o' n' : Int) (s' : ByteArray) (x' : Value) (b2 o2 : Nat) (nm : ByteArray) (W : World) : Prop :=
  W.cell? ⟨b, 0, none⟩ = some (.int .i64 o) ∧ W.cell? ⟨b, 1, none⟩ = some (.int .i64 n) ∧ W.cell? ⟨b, 2, none⟩ = some (.string s) ∧ W.cell? ⟨b, 3, none⟩ = some x ∧
  W.cell? ⟨b', 0, none⟩ = some (.int .i64 o') ∧ W.cell? ⟨b', 1, none⟩ = some (.int .i64 n') ∧ W.cell? ⟨b', 2, none⟩ = some (.string s') ∧ W.cell? ⟨b', 3, none⟩ = some x' ∧
  W.cell? ⟨b2, o2, none⟩ = some (.string nm) ∧ Below w3.heap.size w3 W
theorem CelR.low {w3 : World} {b : Nat} {o n : Int} {s : ByteArray} {x : Value} {b' : Nat} {o' n' : Int} {s' : ByteArray} {x' : Value} {b2 o2 : Nat} {nm : ByteArray} {W : World} (h : CelR w3 b o n s x b' o' n' s' x' b2 o2 nm W) : Below w3.heap.size w3 W := h.2.2.2.2.2.2.2.2.2
theorem CelR.mk' {w3 : World} {b : Nat} {o n : Int} {s : ByteArray} {x : Value} {b' : Nat} {o' n' : Int} {s' : ByteArray} {x' : Value} {b2 o2 : Nat} {nm : ByteArray} (f : Four w3 b (.int .i64 o) (.int .i64 n) (.string s) x) (f' : Four w3 b' (.int .i64 o') (.int .i64 n') (.string s') x') (c : w3.cell? ⟨b2, o2, none⟩ = some (.string nm)) {W : World} (h : Below w3.heap.size w3 W) : CelR w3 b o n s x b' o' n' s' x' b2 o2 nm W := by
  have g := f.stay h
  have g' := f'.stay h
  exact ⟨g.c0, g.c1, g.c2, g.c3, g'.c0, g'.c1, g'.c2, g'.c3, (h.cell (p := ⟨b2, o2, none⟩) (cell_lt c)).trans c, h⟩
set_option maxRecDepth 100000 in
set_option maxHeartbeats 16000000 in
theorem exprReplaces_any (a : Ex) (va : Value) (b : Ex) (vb : Value) (env : Env) (sv : Value) (w : World) (hx : ExAt w.heap.size w va a) (hy : ExAt w.heap.size w vb b) (hE : SigsAt w sv env) (_hr : ∀ x ∈ env, -9223372036854775808 ≤ x.2 ∧ x.2 ≤ 9223372036854775807) (hn : ∀ t ∈ env, t.1.size ≤ 9223372036854775807) (ht : Tab w) : Calls Tryz.prog 8 #[va, vb, sv] w (fun e w' => e = .returned (.bool true) ∧ Below w.heap.size w w') := by
  obtain ⟨p, cap, pl, cl, rfl, _, _⟩ := hx.form
  obtain ⟨p', cap', pl', cl', rfl, _, _⟩ := hy.form
  have hb1 : Below w.heap.size w ((w.alloc (.cells #[.int .i64 a.op, .int .i64 a.n, .string a.nm, .slice p a.args.length cap] 24)).alloc (.cells #[.int .i64 b.op, .int .i64 b.n, .string b.nm, .slice p' b.args.length cap'] 24)) := ((Below.refl _ _).alloc (Nat.le_refl _) _).alloc (by simp) _
  have FA := (Four.new w (.int .i64 a.op) (.int .i64 a.n) (.string a.nm) (.slice p a.args.length cap) 24).alloc (.cells #[.int .i64 b.op, .int .i64 b.n, .string b.nm, .slice p' b.args.length cap'] 24)
  have FB := Four.new (w.alloc (.cells #[.int .i64 a.op, .int .i64 a.n, .string a.nm, .slice p a.args.length cap] 24)) (.int .i64 b.op) (.int .i64 b.n) (.string b.nm) (.slice p' b.args.length cap') 24
  rw [World.size_alloc] at FB
  have HB1 := Lib.hid hb1
  have HFA := Lib.hid FA
  have HFB := Lib.hid FB
  have e0 := FA.c0
  have e1 := FA.c1
  have e2 := FA.c2
  have e3 := FA.c3
  have g0 := FB.c0
  have g1 := FB.c1
  have g2 := FB.c2
  have g3 := FB.c3
  have F1 : Hid (∀ W, Below w.heap.size w W → Calls Tryz.prog 11 #[xv a.op a.n a.nm (.slice p a.args.length cap), .int .i64 60] W (tBool (decide (sz a ≤ 60)) W)) := Lib.hid fun W hb => few_any a _ 60 W _ (by omega) (hx.under hb) hb.size
  have F2 : Hid (∀ W, Below w.heap.size w W → Calls Tryz.prog 11 #[xv b.op b.n b.nm (.slice p' b.args.length cap'), .int .i64 20] W (tBool (decide (sz b ≤ 20)) W)) := Lib.hid fun W hb => few_any b _ 20 W _ (by omega) (hy.under hb) hb.size
  have BR : Hid (∀ W, Below w.heap.size w W → Calls Tryz.prog 26 #[sv] W fun e w' => e = .returned (.bool (briefB env)) ∧ W = w') := Lib.hid fun W hb => brief_any env sv W (hE.later hb) hn
  have AW : Hid (∀ W, Below w.heap.size w W → Calls Tryz.prog 12 #[] W (tBool true W)) := Lib.hid fun W hb => awake_any W (ht.later hb)
  by_cases ha : sz a ≤ 60
  · rw [decide_eq_true ha] at F1
    by_cases hb : sz b ≤ 20
    · rw [decide_eq_true hb] at F2
      cases hbr : briefB env
      · rw [hbr] at BR
        clear hx hy ht hE hb1 FA FB ha hb hn hbr
        generalize a.op = ao at *
        generalize a.n = an at *
        generalize a.nm = am at *
        generalize a.args.length = ak at *
        generalize b.op = bo at *
        generalize b.n = bn at *
        generalize b.nm = bm at *
        generalize b.args.length = bk at *
        go_enter Tryz.func8, Tryz.ntmps8
        go_wp2_with (first
          | (go_at_call 11; ((with_reducible refine (F1.out _ HB1.out).mono ?_); rintro e w2 ⟨rfl, hb⟩; have f4 := HFA.out.stay hb; have f5 := HFB.out.stay hb; clear e0 e1 e2 e3 g0 g1 g2 g3; have e0 := f4.c0; have e1 := f4.c1; have e2 := f4.c2; have e3 := f4.c3; have g0 := f5.c0; have g1 := f5.c1; have g2 := f5.c2; have g3 := f5.c3; have HF2 := Lib.hid f4; have HG2 := Lib.hid f5; have HB2 := Lib.hid (HB1.out.then_ hb); clear hb f4 f5))
          | (go_at_call 11; ((with_reducible refine (F2.out _ HB2.out).mono ?_); rintro e w3 ⟨rfl, hb⟩; have f4 := HF2.out.stay hb; have f5 := HG2.out.stay hb; clear e0 e1 e2 e3 g0 g1 g2 g3; have e0 := f4.c0; have e1 := f4.c1; have e2 := f4.c2; have e3 := f4.c3; have g0 := f5.c0; have g1 := f5.c1; have g2 := f5.c2; have g3 := f5.c3; have HF3 := Lib.hid f4; have HG3 := Lib.hid f5; have HB3 := Lib.hid (HB2.out.then_ hb); clear hb f4 f5))
          | (go_at_call 26; ((with_reducible refine (BR.out _ HB3.out).mono ?_); rintro e w4 ⟨rfl, rfl⟩))
          | (go_at_call 12; ((with_reducible refine (AW.out _ HB3.out).mono ?_); rintro e w9 ⟨rfl, hb⟩; have HBE := Lib.hid (HB3.out.then_ hb); clear hb)))
        go_ret
        exact ⟨rfl, HBE.out⟩
      · rw [hbr] at BR
        have hsu : ∀ nm, sz (su nm b a) ≤ 10000 := fun nm => by
          have h1 := su_sz nm b a
          have h2 : sz a * sz b ≤ 60 * 20 := Nat.mul_le_mul ha hb
          omega
        have NM : Hid (∀ W, Below w.heap.size w W → Calls Tryz.prog 21 #[xv a.op a.n a.nm (.slice p a.args.length cap)] W (tNms (namesL isVr (pre 1 a)) W)) := Lib.hid fun W hW => namesR_any a _ W ((hx.under hW).wide hW.size) (by omega)
        have EV : Hid (∀ W, Below w.heap.size w W → Calls Tryz.prog 27 #[xv b.op b.n b.nm (.slice p' b.args.length cap'), sv] W (tEv (evalS env b) W)) := Lib.hid fun W hW => eval_any env sv _ b W ((hy.under hW).wide hW.size) (hE.later hW) (by omega) (ht.later hW)
        have hLs : ∀ s ∈ namesL isVr (pre 1 a), s.size ≤ 140737488351232 := fun s hs => by
          obtain ⟨x, hx1, _, rfl⟩ := (names_mem _ _ _).1 hs
          exact at_names hx _ x hx1
        have NA : Hid (∀ s ∈ namesL isVr (pre 1 a), ∀ W, Calls Tryz.prog 36 #[.string s] W (tBool (nmB s.data.toList) W)) := Lib.hid fun s hs W => nameR_any s W (hLs s hs)
        have SU : Hid (∀ nm W, Below w.heap.size w W → Calls Tryz.prog 33 #[xv a.op a.n a.nm (.slice p a.args.length cap), .string nm, xv b.op b.n b.nm (.slice p' b.args.length cap')] W (tFr (su nm b a) W)) := Lib.hid fun nm W hW => substCode_any a b nm _ W _ _ (hx.under hW) (hy.under hW) hW.size (by omega) (by omega)
        have VX : Hid (∀ nm W v, ExAt W.heap.size W v (su nm b a) → Calls Tryz.prog 25 #[v] W (tInt (vld (su nm b a)) W)) := Lib.hid fun nm W v h => validR_any _ v W h (hsu nm)
        have VE : Hid (∀ W, Below w.heap.size w W → Calls Tryz.prog 25 #[xv a.op a.n a.nm (.slice p a.args.length cap)] W (tInt (vld a) W)) := Lib.hid fun W hW => validR_any a _ W ((hx.under hW).wide hW.size) (by omega)
        have EX : Hid (∀ nm W v, ExAt W.heap.size W v (su nm b a) → Below w.heap.size w W → Calls Tryz.prog 27 #[v, sv] W (tEv (evalS env (su nm b a)) W)) := Lib.hid fun nm W v h hW => eval_any env sv v _ W h (hE.later hW) (hsu nm) (ht.later hW)
        have EE : Hid (∀ nm k W u, SigsAt W u ((nm, k) :: env) → Below w.heap.size w W → Calls Tryz.prog 27 #[xv a.op a.n a.nm (.slice p a.args.length cap), u] W (tEv (evalS ((nm, k) :: env) a) W)) := Lib.hid fun nm k W u h hW => eval_any _ u _ a W ((hx.under hW).wide hW.size) h (by omega) (ht.later hW)
        have EQ : Hid (∀ nm v, nmB nm.data.toList = true → evalS env b = (v, 0) → vld a = 0 → vld (su nm b a) = 0 → evalS env (su nm b a) = evalS ((nm, v) :: env) a) := Lib.hid fun nm v h1 h2 h3 h4 => su_eval h1 h2 h3 h4
        have RG := Lib.hid (evalS_range env b)
        generalize namesL isVr (pre 1 a) = L at *
        obtain ⟨⟨r1, r2⟩, hrr⟩ : ∃ rr, evalS env b = rr := ⟨_, rfl⟩
        rw [hrr] at EV RG EQ
        clear hrr
        cases L with
        | nil =>
          clear hx hy ht hE hb1 FA FB ha hb hn hbr hLs SU VX VE EX EE EQ RG NA
          generalize a.op = ao at *
          generalize a.n = an at *
          generalize a.nm = am at *
          generalize a.args.length = ak at *
          generalize b.op = bo at *
          generalize b.n = bn at *
          generalize b.nm = bm at *
          generalize b.args.length = bk at *
          go_enter Tryz.func8, Tryz.ntmps8
          go_wp2_with (first
            | (go_at_call 11; ((with_reducible refine (F1.out _ HB1.out).mono ?_); rintro e w2 ⟨rfl, hb⟩; have f4 := HFA.out.stay hb; have f5 := HFB.out.stay hb; clear e0 e1 e2 e3 g0 g1 g2 g3; have e0 := f4.c0; have e1 := f4.c1; have e2 := f4.c2; have e3 := f4.c3; have g0 := f5.c0; have g1 := f5.c1; have g2 := f5.c2; have g3 := f5.c3; have HF2 := Lib.hid f4; have HG2 := Lib.hid f5; have HB2 := Lib.hid (HB1.out.then_ hb); clear hb f4 f5))
            | (go_at_call 11; ((with_reducible refine (F2.out _ HB2.out).mono ?_); rintro e w3 ⟨rfl, hb⟩; have f4 := HF2.out.stay hb; have f5 := HG2.out.stay hb; clear e0 e1 e2 e3 g0 g1 g2 g3; have e0 := f4.c0; have e1 := f4.c1; have e2 := f4.c2; have e3 := f4.c3; have g0 := f5.c0; have g1 := f5.c1; have g2 := f5.c2; have g3 := f5.c3; have HF3 := Lib.hid f4; have HG3 := Lib.hid f5; have HB3 := Lib.hid (HB2.out.then_ hb); clear hb f4 f5))
            | (go_at_call 26; ((with_reducible refine (BR.out _ HB3.out).mono ?_); rintro e w4 ⟨rfl, rfl⟩))
            | (go_at_call 21; ((with_reducible refine (NM.out _ HB3.out).mono ?_); rintro e w5 ⟨v5, rfl, hown, hb⟩; obtain ⟨p5, c5, rfl, _, _⟩ := strs_own hown; have f5 := HG3.out.stay hb; clear e0 e1 e2 e3 g0 g1 g2 g3; have g0 := f5.c0; have g1 := f5.c1; have g2 := f5.c2; have g3 := f5.c3; have HB5 := Lib.hid (HB3.out.then_ hb); clear hb f5 hown))
            | (go_at_call 27; ((with_reducible refine (EV.out _ HB5.out).mono ?_); rintro e w6 ⟨rfl, hb⟩; clear g0 g1 g2 g3; have HB6 := Lib.hid (HB5.out.then_ hb); clear hb))
            | (go_at_call 12; ((with_reducible refine (AW.out _ HB6.out).mono ?_); rintro e w9 ⟨rfl, hb⟩; have HBE := Lib.hid (HB6.out.then_ hb); clear hb)))
          go_ret
          exact ⟨rfl, HBE.out⟩
        | cons nm r =>
          have NA2 := NA.out nm (by simp)
          cases hnm : nmB nm.data.toList
          · rw [hnm] at NA2
            have NA := Lib.hid NA2
            clear NA2
            have hlen : (((nm :: r).length : Int) == 0) = false := by rw [beq_eq_false_iff_ne]; simp; omega
            have hlen2 : 0 < (nm :: r).length := by simp
            generalize hgl : (nm :: r).length = ln at *
            clear hx hy ht hE hb1 FA FB ha hb hn hbr hLs SU VX VE EX EE EQ RG hnm
            generalize a.op = ao at *
            generalize a.n = an at *
            generalize a.nm = am at *
            generalize a.args.length = ak at *
            generalize b.op = bo at *
            generalize b.n = bn at *
            generalize b.nm = bm at *
            generalize b.args.length = bk at *
            go_enter Tryz.func8, Tryz.ntmps8
            go_wp2_with (first
              | (go_at_call 11; ((with_reducible refine (F1.out _ HB1.out).mono ?_); rintro e w2 ⟨rfl, hb⟩; have f4 := HFA.out.stay hb; have f5 := HFB.out.stay hb; clear e0 e1 e2 e3 g0 g1 g2 g3; have e0 := f4.c0; have e1 := f4.c1; have e2 := f4.c2; have e3 := f4.c3; have g0 := f5.c0; have g1 := f5.c1; have g2 := f5.c2; have g3 := f5.c3; have HF2 := Lib.hid f4; have HG2 := Lib.hid f5; have HB2 := Lib.hid (HB1.out.then_ hb); clear hb f4 f5))
              | (go_at_call 11; ((with_reducible refine (F2.out _ HB2.out).mono ?_); rintro e w3 ⟨rfl, hb⟩; have f4 := HF2.out.stay hb; have f5 := HG2.out.stay hb; clear e0 e1 e2 e3 g0 g1 g2 g3; have e0 := f4.c0; have e1 := f4.c1; have e2 := f4.c2; have e3 := f4.c3; have g0 := f5.c0; have g1 := f5.c1; have g2 := f5.c2; have g3 := f5.c3; have HF3 := Lib.hid f4; have HG3 := Lib.hid f5; have HB3 := Lib.hid (HB2.out.then_ hb); clear hb f4 f5))
              | (go_at_call 26; ((with_reducible refine (BR.out _ HB3.out).mono ?_); rintro e w4 ⟨rfl, rfl⟩))
              | (go_at_call 21; ((with_reducible refine (NM.out _ HB3.out).mono ?_); rintro e w5 ⟨v5, rfl, hown, hb⟩; obtain ⟨p5, c5, rfl, _, hp5⟩ := strs_own hown; obtain ⟨b5, o5, rfl, hc5⟩ := hp5 (by omega); have l0c := hc5 0 nm rfl; rw [Nat.add_zero] at l0c; have f4 := HF3.out.stay hb; have f5 := HG3.out.stay hb; clear e0 e1 e2 e3 g0 g1 g2 g3; have g0 := f5.c0; have g1 := f5.c1; have g2 := f5.c2; have g3 := f5.c3; have HF5 := Lib.hid f4; have HG5 := Lib.hid f5; have HL5 := Lib.hid l0c; have HB5 := Lib.hid (HB3.out.then_ hb); clear hb f4 f5 l0c hown hc5 hp5))
              | (go_at_call 27; ((with_reducible refine (EV.out _ HB5.out).mono ?_); rintro e w6 ⟨rfl, hb⟩; have l0c := (hb.cell (p := ⟨b5, o5, none⟩) (cell_lt HL5.out)).trans HL5.out; clear g0 g1 g2 g3; have HF6 := Lib.hid (HF5.out.stay hb); have HG6 := Lib.hid (HG5.out.stay hb); have HL6 := Lib.hid l0c; have HB6 := Lib.hid (HB5.out.then_ hb); clear hb))
              | (go_at_call 36; ((with_reducible refine (NA.out _).mono ?_); rintro e w7 ⟨rfl, hb⟩; clear l0c; have l0c := (hb.cell (p := ⟨b5, o5, none⟩) (cell_lt HL6.out)).trans HL6.out; have HF7 := Lib.hid (HF6.out.stay hb); have HG7 := Lib.hid (HG6.out.stay hb); have HL7 := Lib.hid l0c; have HB7 := Lib.hid (HB6.out.then_ hb); clear hb))
              | (go_at_call 12; ((with_reducible refine (AW.out _ HB7.out).mono ?_); rintro e w9 ⟨rfl, hb⟩; have HBE := Lib.hid (HB7.out.then_ hb); clear hb)))
            go_ret
            exact ⟨rfl, HBE.out⟩
          · rw [hnm] at NA2
            have NA := Lib.hid NA2
            clear NA2
            have hlen : (((nm :: r).length : Int) == 0) = false := by rw [beq_eq_false_iff_ne]; simp; omega
            have hlen2 : 0 < (nm :: r).length := by simp
            generalize hgl : (nm :: r).length = ln at *
            by_cases h0 : r2 = 0
            · subst h0
              have HEQ : Hid (vld a = 0 → vld (su nm b a) = 0 → evalS env (su nm b a) = evalS ((nm, r1) :: env) a) := Lib.hid (EQ.out nm r1 hnm rfl)
              have SU2 := Lib.hid (SU.out nm)
              have VX2 := Lib.hid (VX.out nm)
              have EX2 := Lib.hid (EX.out nm)
              have EE2 := Lib.hid (EE.out nm r1)
              have HSE := Lib.hid hE
              have HBL := Lib.hid (brief_len hbr)
              clear hx hy ht hE hb1 FA FB ha hb hn hbr hLs hsu hnm SU VX EX EE EQ RG
              generalize su nm b a = x at *
              generalize vld x = vx at *
              generalize vld a = ve at *
              generalize evalS env x = q1 at *
              generalize evalS ((nm, r1) :: env) a = q2 at *
              generalize a.op = ao at *
              generalize a.n = an at *
              generalize a.nm = am at *
              generalize a.args.length = ak at *
              generalize b.op = bo at *
              generalize b.n = bn at *
              generalize b.nm = bm at *
              generalize b.args.length = bk at *
              go_enter Tryz.func8, Tryz.ntmps8
              go_upto_region 7 with (first | (go_at_call 11; ((with_reducible refine (F1.out _ HB1.out).mono ?_); rintro e w2 ⟨rfl, hb⟩; have f4 := HFA.out.stay hb; have f5 := HFB.out.stay hb; clear e0 e1 e2 e3 g0 g1 g2 g3; have e0 := f4.c0; have e1 := f4.c1; have e2 := f4.c2; have e3 := f4.c3; have g0 := f5.c0; have g1 := f5.c1; have g2 := f5.c2; have g3 := f5.c3; have HF2 := Lib.hid f4; have HG2 := Lib.hid f5; have HB2 := Lib.hid (HB1.out.then_ hb); clear hb f4 f5)) | (go_at_call 11; ((with_reducible refine (F2.out _ HB2.out).mono ?_); rintro e w3 ⟨rfl, hb⟩; have f4 := HF2.out.stay hb; have f5 := HG2.out.stay hb; clear e0 e1 e2 e3 g0 g1 g2 g3; have e0 := f4.c0; have e1 := f4.c1; have e2 := f4.c2; have e3 := f4.c3; have g0 := f5.c0; have g1 := f5.c1; have g2 := f5.c2; have g3 := f5.c3; have HF3 := Lib.hid f4; have HG3 := Lib.hid f5; have HB3 := Lib.hid (HB2.out.then_ hb); clear hb f4 f5)) | (go_at_call 26; ((with_reducible refine (BR.out _ HB3.out).mono ?_); rintro e w4 ⟨rfl, rfl⟩)) | (go_at_call 21; ((with_reducible refine (NM.out _ HB3.out).mono ?_); rintro e w5 ⟨v5, rfl, hown, hb⟩; obtain ⟨p5, c5, rfl, _, hp5⟩ := strs_own hown; obtain ⟨b5, o5, rfl, hc5⟩ := hp5 (by omega); have l0c := hc5 0 nm rfl; rw [Nat.add_zero] at l0c; have f4 := HF3.out.stay hb; have f5 := HG3.out.stay hb; clear e0 e1 e2 e3 g0 g1 g2 g3; have g0 := f5.c0; have g1 := f5.c1; have g2 := f5.c2; have g3 := f5.c3; have HF5 := Lib.hid f4; have HG5 := Lib.hid f5; have HL5 := Lib.hid l0c; have HB5 := Lib.hid (HB3.out.then_ hb); clear hb f4 f5 l0c hown hc5 hp5)) | (go_at_call 27; ((with_reducible refine (EV.out _ HB5.out).mono ?_); rintro e w6 ⟨rfl, hb⟩; have l0c := (hb.cell (p := ⟨b5, o5, none⟩) (cell_lt HL5.out)).trans HL5.out; clear g0 g1 g2 g3; have HF6 := Lib.hid (HF5.out.stay hb); have HG6 := Lib.hid (HG5.out.stay hb); have HL6 := Lib.hid l0c; have HB6 := Lib.hid (HB5.out.then_ hb); clear hb)) | (go_at_call 36; ((with_reducible refine (NA.out _).mono ?_); rintro e w7 ⟨rfl, hb⟩; clear l0c; have l0c := (hb.cell (p := ⟨b5, o5, none⟩) (cell_lt HL6.out)).trans HL6.out; have HF7 := Lib.hid (HF6.out.stay hb); have HG7 := Lib.hid (HG6.out.stay hb); have HL7 := Lib.hid l0c; have HB7 := Lib.hid (HB6.out.then_ hb); clear hb)))
              clear l0c
              have e0 := HF7.out.c0
              have e1 := HF7.out.c1
              have e2 := HF7.out.c2
              have e3 := HF7.out.c3
              have g0 := HG7.out.c0
              have g1 := HG7.out.c1
              have g2 := HG7.out.c2
              have g3 := HG7.out.c3
              have l0c := HL7.out
              have lt7 := HG7.out.lt
              have lt7a := HF7.out.lt
              have lt7l := cell_lt HL7.out
              go_cut [10] (fun s10 wx => ∃ g p4 k4, s10 = .pointer (some ⟨g, 0, none⟩) ∧ Hid (Four wx g (.int .i64 x.op) (.int .i64 x.n) (.string x.nm) (.slice p4 x.args.length k4)) ∧ Hid (ExAt wx.heap.size wx (xv x.op x.n x.nm (.slice p4 x.args.length k4)) x) ∧ Hid (Below w7.heap.size w7 wx))
              case first =>
                go_region_law (go_simp; go_at_call 33; (with_reducible refine (SU2.out _ ?_).mono ?_); (first | exact HB7.out.then_ (Below.refl _ _).drew | exact HB7.out.then_ ((Below.refl _ _).alloc (Nat.le_refl _) _).drew); rintro e w8 ⟨v8, rfl, hfr, hb⟩; have hat := hfr.at_; obtain ⟨p8, c8, rfl, _, _⟩ := hfr.form; try (have F8 := ((Four.new w7 (.int .i64 0) (.int .i64 0) (.string ⟨#[]⟩) (.slice none 0 0) 24).stay ((Below.refl _ _).drew)).stay hb; have c80 := F8.c0; have c81 := F8.c1; have c82 := F8.c2; have c83 := F8.c3; have z80 := F8.f0; have z81 := F8.f1; have z82 := F8.f2; have z83 := F8.f3))
                all_goals
                  have hlt7 : w7.heap.size < (w7.alloc (.cells #[.int .i64 0, .int .i64 0, .string ⟨#[]⟩, .slice none 0 0] 24)).drew.heap.size := by show w7.heap.size < (w7.alloc _).heap.size; rw [World.size_alloc]; omega
                  go_wp2_with fail
                  go_meet
                  first
                    | exact ⟨_, _, _, rfl, Lib.hid (Four.new w8 (.int .i64 x.op) (.int .i64 x.n) (.string x.nm) (.slice p8 x.args.length c8) 24), Lib.hid (hat.later ((Below.refl _ _).alloc (Nat.le_refl _) _)), Lib.hid (((Below.refl _ _).drew.then_ hb).then_ ((Below.refl _ _).alloc (Nat.le_refl _) _))⟩
                    | exact ⟨_, _, _, rfl, Lib.hid (F8.put (.int .i64 x.op) (.int .i64 x.n) (.string x.nm) (.slice p8 x.args.length c8)), Lib.hid (((((hfr.set (g := w7.heap.size) hlt7).set (g := w7.heap.size) hlt7).set (g := w7.heap.size) hlt7).set (g := w7.heap.size) hlt7).at_), Lib.hid (below_put (((Below.refl _ _).alloc (Nat.le_refl _) _).drew.then_ hb) (Nat.le_refl _) _ _ _ _)⟩
              case rest =>
                clear e0 e1 e2 e3 g0 g1 g2 g3 l0c lt7 lt7a lt7l F1 F2 BR NM EV SU2 NA HF2 HF3 HF5 HF6 HG2 HG3 HG5 HG6 HG7 HL5 HL6 HB1 HB2 HB3 HB5 HB6 HFA HFB
                obtain ⟨gx, px, kx, rfl, HX, HXA, HB⟩ := hcut
                have f4 := HF7.out.stay HB.out
                have HL8 := Lib.hid ((HB.out.cell (p := ⟨b5, o5, none⟩) (cell_lt HL7.out)).trans HL7.out)
                have HF8 := Lib.hid f4
                have HB8 := Lib.hid (HB7.out.then_ HB.out)
                have k0 := HX.out.c0
                have k1 := HX.out.c1
                have k2 := HX.out.c2
                have k3 := HX.out.c3
                have VX3 := Lib.hid (VX2.out _ _ HXA.out)
                clear f4 HF7 HL7 HB7 HB
                by_cases hvx : vx = 0
                · subst hvx
                  by_cases hve : ve = 0
                  · subst hve
                    have hq := HEQ.out rfl rfl
                    subst hq
                    obtain ⟨z1, z2⟩ := q1
                    obtain ⟨j0, gi, gz0, gz1, gz2⟩ := info_parts infoSig
                    obtain ⟨ps, cs, rfl, _, _, hps⟩ := HSE.out
                    cases ps with
                    | none =>
                      have hen : env = [] := by
                        rcases Nat.eq_zero_or_pos env.length with h | h
                        · exact List.length_eq_zero_iff.1 h
                        · obtain ⟨_, _, e, _⟩ := hps h
                          cases e
                      subst hen
                      simp only [List.length_nil] at EX2
                      clear hps HEQ
                      go_wp2_with (first
                        | (go_at_call 25; ((with_reducible refine VX3.out.mono ?_); rintro e w9 ⟨rfl, hb⟩; have f4 := HF8.out.stay hb; clear k0 k1 k2 k3; have e0 := f4.c0; have e1 := f4.c1; have e2 := f4.c2; have e3 := f4.c3; have HF9 := Lib.hid f4; have HX9 := Lib.hid (HX.out.stay hb); have HXA9 := Lib.hid (HXA.out.later hb); have HL9 := Lib.hid ((hb.cell (p := ⟨b5, o5, none⟩) (cell_lt HL8.out)).trans HL8.out); have HB9 := Lib.hid (HB8.out.then_ hb); clear hb f4))
                        | (go_at_call 25; ((with_reducible refine (VE.out _ HB9.out).mono ?_); rintro e w10 ⟨rfl, hb⟩; clear e0 e1 e2 e3; have l0c := (hb.cell (p := ⟨b5, o5, none⟩) (cell_lt HL9.out)).trans HL9.out; have HF10 := Lib.hid (HF9.out.stay hb); have HX10 := Lib.hid (HX9.out.stay hb); have HXA10 := Lib.hid (HXA9.out.later hb); have HB10 := Lib.hid (HB9.out.then_ hb); clear hb; have hb11 : Below w10.heap.size w10 (w10.alloc (.cells #[.string nm, .int .i64 r1] 47)) := (Below.refl _ _).alloc (Nat.le_refl _) _; have HSG11 := Lib.hid (sigs_own (l := [(nm, r1)]) (sig_lit w10 nm r1) (by simp)); have f4 := HX10.out.stay hb11; have k0 := f4.c0; have k1 := f4.c1; have k2 := f4.c2; have k3 := f4.c3; have HXA11 := Lib.hid (HXA10.out.later hb11); have HF11 := Lib.hid (HF10.out.stay hb11); have HB11 := Lib.hid (HB10.out.then_ hb11); clear hb11 f4))
                        | (go_at_call 27; ((with_reducible refine (EX2.out _ _ HXA11.out HB11.out).mono ?_); rintro e w12 ⟨rfl, hb⟩; have f4 := HF11.out.stay hb; clear k0 k1 k2 k3 l0c; have e0 := f4.c0; have e1 := f4.c1; have e2 := f4.c2; have e3 := f4.c3; have HSG12 := Lib.hid (HSG11.out.later hb); have HB12 := Lib.hid (HB11.out.then_ hb); clear hb f4))
                        | (go_at_call 27; ((with_reducible refine (EE2.out _ _ HSG12.out HB12.out).mono ?_); rintro e w13 ⟨rfl, hb⟩; have HB13 := Lib.hid (HB12.out.then_ hb); clear hb))
                        | (go_at_call 12; ((with_reducible refine (AW.out _ HB13.out).mono ?_); rintro e w14 ⟨rfl, hb⟩; have HBE := Lib.hid (HB13.out.then_ hb); clear hb)))
                      go_ret
                      exact ⟨rfl, HBE.out⟩
                    | some ad =>
                      clear hps HEQ
                      go_wp2_with (first
                        | (go_at_call 25; ((with_reducible refine VX3.out.mono ?_); rintro e w9 ⟨rfl, hb⟩; have f4 := HF8.out.stay hb; clear k0 k1 k2 k3; have e0 := f4.c0; have e1 := f4.c1; have e2 := f4.c2; have e3 := f4.c3; have HF9 := Lib.hid f4; have HX9 := Lib.hid (HX.out.stay hb); have HXA9 := Lib.hid (HXA.out.later hb); have HL9 := Lib.hid ((hb.cell (p := ⟨b5, o5, none⟩) (cell_lt HL8.out)).trans HL8.out); have HB9 := Lib.hid (HB8.out.then_ hb); clear hb f4))
                        | (go_at_call 25; ((with_reducible refine (VE.out _ HB9.out).mono ?_); rintro e w10 ⟨rfl, hb⟩; clear e0 e1 e2 e3; have l0c := (hb.cell (p := ⟨b5, o5, none⟩) (cell_lt HL9.out)).trans HL9.out; have HF10 := Lib.hid (HF9.out.stay hb); have HX10 := Lib.hid (HX9.out.stay hb); have HXA10 := Lib.hid (HXA9.out.later hb); have HB10 := Lib.hid (HB9.out.then_ hb); clear hb))
                        | (at_builtin; (refine wpList_append_own _ rfl _ _ 35 rfl w10.heap.size 47 j0 (.agg #[.string ⟨#[]⟩, .int .i64 0]) 2 24 Tryz.underlying35 gi gz0 gz1 gz2 rfl (by decide) _ 1 [.string nm, .int .i64 r1] rfl (sig_lit w10 nm r1) ad env.length cs (sigCells env) rfl (by rw [sigCells_len]) (sigs_news (HSE.out.later (HB10.out.then_ ((Below.refl _ _).alloc (Nat.le_refl _) _)))) (sigCells_one env) (by have := HBL.out; unfold maxLen; omega) (by have := HBL.out; omega) (by simp) ?_); intro u w11 hown hgrow _; have hb11 : Below w10.heap.size w10 w11 := ((Below.refl w10.heap.size w10).alloc (Nat.le_refl _) (.cells #[.string nm, .int .i64 r1] 47)).grown hgrow (by simp) (fun k e => Nat.le_of_eq (by have e' : (Value.slice (some ⟨w10.heap.size, 0, none⟩) 1 1).ownBlock = some k := e; simpa [Value.ownBlock] using e')); have HSG11 := Lib.hid (sigs_own (l := (nm, r1) :: env) (by rw [List.length_cons, Nat.add_comm]; exact hown) (by have := HBL.out; simp only [List.length_cons]; omega)); have f4 := HX10.out.stay hb11; have k0 := f4.c0; have k1 := f4.c1; have k2 := f4.c2; have k3 := f4.c3; have HXA11 := Lib.hid (HXA10.out.later hb11); have HF11 := Lib.hid (HF10.out.stay hb11); have HB11 := Lib.hid (HB10.out.then_ hb11); clear hb11 hown hgrow f4)
                        | (go_at_call 27; ((with_reducible refine (EX2.out _ _ HXA11.out HB11.out).mono ?_); rintro e w12 ⟨rfl, hb⟩; have f4 := HF11.out.stay hb; clear k0 k1 k2 k3 l0c; have e0 := f4.c0; have e1 := f4.c1; have e2 := f4.c2; have e3 := f4.c3; have HSG12 := Lib.hid (HSG11.out.later hb); have HB12 := Lib.hid (HB11.out.then_ hb); clear hb f4))
                        | (go_at_call 27; ((with_reducible refine (EE2.out _ _ HSG12.out HB12.out).mono ?_); rintro e w13 ⟨rfl, hb⟩; have HB13 := Lib.hid (HB12.out.then_ hb); clear hb))
                        | (go_at_call 12; ((with_reducible refine (AW.out _ HB13.out).mono ?_); rintro e w14 ⟨rfl, hb⟩; have HBE := Lib.hid (HB13.out.then_ hb); clear hb)))
                      go_ret
                      exact ⟨rfl, HBE.out⟩
                  · have h3 : (ve != 0) = true := by rw [bne_iff_ne]; exact hve
                    clear hve
                    go_wp2_with (first
                      | (go_at_call 25; ((with_reducible refine VX3.out.mono ?_); rintro e w9 ⟨rfl, hb⟩; have f4 := HF8.out.stay hb; clear k0 k1 k2 k3; have e0 := f4.c0; have e1 := f4.c1; have e2 := f4.c2; have e3 := f4.c3; have HB9 := Lib.hid (HB8.out.then_ hb); clear hb f4))
                      | (go_at_call 25; ((with_reducible refine (VE.out _ HB9.out).mono ?_); rintro e w10 ⟨rfl, hb⟩; have HB10 := Lib.hid (HB9.out.then_ hb); clear hb))
                      | (go_at_call 12; ((with_reducible refine (AW.out _ HB10.out).mono ?_); rintro e w11 ⟨rfl, hb⟩; have HBE := Lib.hid (HB10.out.then_ hb); clear hb)))
                    go_ret
                    exact ⟨rfl, HBE.out⟩
                · have h3 : (vx != 0) = true := by rw [bne_iff_ne]; exact hvx
                  clear hvx
                  go_wp2_with (first
                    | (go_at_call 25; ((with_reducible refine VX3.out.mono ?_); rintro e w9 ⟨rfl, hb⟩; clear k0 k1 k2 k3; have HB9 := Lib.hid (HB8.out.then_ hb); clear hb))
                    | (go_at_call 12; ((with_reducible refine (AW.out _ HB9.out).mono ?_); rintro e w11 ⟨rfl, hb⟩; have HBE := Lib.hid (HB9.out.then_ hb); clear hb)))
                  go_ret
                  exact ⟨rfl, HBE.out⟩
            · have h2 : (r2 != 0) = true := by rw [bne_iff_ne]; exact h0
              clear hx hy ht hE hb1 FA FB ha hb hn hbr hLs SU VX VE EX EE EQ RG hnm h0
              generalize a.op = ao at *
              generalize a.n = an at *
              generalize a.nm = am at *
              generalize a.args.length = ak at *
              generalize b.op = bo at *
              generalize b.n = bn at *
              generalize b.nm = bm at *
              generalize b.args.length = bk at *
              go_enter Tryz.func8, Tryz.ntmps8
              go_wp2_with (first
                | (go_at_call 11; ((with_reducible refine (F1.out _ HB1.out).mono ?_); rintro e w2 ⟨rfl, hb⟩; have f4 := HFA.out.stay hb; have f5 := HFB.out.stay hb; clear e0 e1 e2 e3 g0 g1 g2 g3; have e0 := f4.c0; have e1 := f4.c1; have e2 := f4.c2; have e3 := f4.c3; have g0 := f5.c0; have g1 := f5.c1; have g2 := f5.c2; have g3 := f5.c3; have HF2 := Lib.hid f4; have HG2 := Lib.hid f5; have HB2 := Lib.hid (HB1.out.then_ hb); clear hb f4 f5))
                | (go_at_call 11; ((with_reducible refine (F2.out _ HB2.out).mono ?_); rintro e w3 ⟨rfl, hb⟩; have f4 := HF2.out.stay hb; have f5 := HG2.out.stay hb; clear e0 e1 e2 e3 g0 g1 g2 g3; have e0 := f4.c0; have e1 := f4.c1; have e2 := f4.c2; have e3 := f4.c3; have g0 := f5.c0; have g1 := f5.c1; have g2 := f5.c2; have g3 := f5.c3; have HF3 := Lib.hid f4; have HG3 := Lib.hid f5; have HB3 := Lib.hid (HB2.out.then_ hb); clear hb f4 f5))
                | (go_at_call 26; ((with_reducible refine (BR.out _ HB3.out).mono ?_); rintro e w4 ⟨rfl, rfl⟩))
                | (go_at_call 21; ((with_reducible refine (NM.out _ HB3.out).mono ?_); rintro e w5 ⟨v5, rfl, hown, hb⟩; obtain ⟨p5, c5, rfl, _, hp5⟩ := strs_own hown; obtain ⟨b5, o5, rfl, hc5⟩ := hp5 (by omega); have l0c := hc5 0 nm rfl; rw [Nat.add_zero] at l0c; have f4 := HF3.out.stay hb; have f5 := HG3.out.stay hb; clear e0 e1 e2 e3 g0 g1 g2 g3; have g0 := f5.c0; have g1 := f5.c1; have g2 := f5.c2; have g3 := f5.c3; have HF5 := Lib.hid f4; have HG5 := Lib.hid f5; have HL5 := Lib.hid l0c; have HB5 := Lib.hid (HB3.out.then_ hb); clear hb f4 f5 l0c hown hc5 hp5))
                | (go_at_call 27; ((with_reducible refine (EV.out _ HB5.out).mono ?_); rintro e w6 ⟨rfl, hb⟩; have l0c := (hb.cell (p := ⟨b5, o5, none⟩) (cell_lt HL5.out)).trans HL5.out; clear g0 g1 g2 g3; have HF6 := Lib.hid (HF5.out.stay hb); have HG6 := Lib.hid (HG5.out.stay hb); have HL6 := Lib.hid l0c; have HB6 := Lib.hid (HB5.out.then_ hb); clear hb))
                | (go_at_call 36; ((with_reducible refine (NA.out _).mono ?_); rintro e w7 ⟨rfl, hb⟩; clear l0c; have l0c := (hb.cell (p := ⟨b5, o5, none⟩) (cell_lt HL6.out)).trans HL6.out; have HF7 := Lib.hid (HF6.out.stay hb); have HG7 := Lib.hid (HG6.out.stay hb); have HL7 := Lib.hid l0c; have HB7 := Lib.hid (HB6.out.then_ hb); clear hb))
                | (go_at_call 12; ((with_reducible refine (AW.out _ HB7.out).mono ?_); rintro e w9 ⟨rfl, hb⟩; have HBE := Lib.hid (HB7.out.then_ hb); clear hb)))
              go_ret
              exact ⟨rfl, HBE.out⟩

    · rw [decide_eq_false hb] at F2
      clear hx hy ht hE hb1 FA FB ha hb hn BR
      generalize a.op = ao at *
      generalize a.n = an at *
      generalize a.nm = am at *
      generalize a.args.length = ak at *
      generalize b.op = bo at *
      generalize b.n = bn at *
      generalize b.nm = bm at *
      generalize b.args.length = bk at *
      go_enter Tryz.func8, Tryz.ntmps8
      go_wp2_with (first
        | (go_at_call 11; ((with_reducible refine (F1.out _ HB1.out).mono ?_); rintro e w2 ⟨rfl, hb⟩; have f4 := HFA.out.stay hb; have f5 := HFB.out.stay hb; clear e0 e1 e2 e3 g0 g1 g2 g3; have e0 := f4.c0; have e1 := f4.c1; have e2 := f4.c2; have e3 := f4.c3; have g0 := f5.c0; have g1 := f5.c1; have g2 := f5.c2; have g3 := f5.c3; have HF2 := Lib.hid f4; have HG2 := Lib.hid f5; have HB2 := Lib.hid (HB1.out.then_ hb); clear hb f4 f5))
        | (go_at_call 11; ((with_reducible refine (F2.out _ HB2.out).mono ?_); rintro e w3 ⟨rfl, hb⟩; have f4 := HF2.out.stay hb; have f5 := HG2.out.stay hb; clear e0 e1 e2 e3 g0 g1 g2 g3; have e0 := f4.c0; have e1 := f4.c1; have e2 := f4.c2; have e3 := f4.c3; have g0 := f5.c0; have g1 := f5.c1; have g2 := f5.c2; have g3 := f5.c3; have HF3 := Lib.hid f4; have HG3 := Lib.hid f5; have HB3 := Lib.hid (HB2.out.then_ hb); clear hb f4 f5))
        | (go_at_call 12; ((with_reducible refine (AW.out _ HB3.out).mono ?_); rintro e w9 ⟨rfl, hb⟩; have HBE := Lib.hid (HB3.out.then_ hb); clear hb)))
      go_ret
      exact ⟨rfl, HBE.out⟩
  · rw [decide_eq_false ha] at F1
    clear hx hy ht hE hb1 FA FB ha F2 hn BR
    generalize a.op = ao at *
    generalize a.n = an at *
    generalize a.nm = am at *
    generalize a.args.length = ak at *
    generalize b.op = bo at *
    generalize b.n = bn at *
    generalize b.nm = bm at *
    generalize b.args.length = bk at *
    go_enter Tryz.func8, Tryz.ntmps8
    go_wp2_with (first
      | (go_at_call 11; ((with_reducible refine (F1.out _ HB1.out).mono ?_); rintro e w2 ⟨rfl, hb⟩; have f4 := HFA.out.stay hb; have f5 := HFB.out.stay hb; clear e0 e1 e2 e3 g0 g1 g2 g3; have e0 := f4.c0; have e1 := f4.c1; have e2 := f4.c2; have e3 := f4.c3; have g0 := f5.c0; have g1 := f5.c1; have g2 := f5.c2; have g3 := f5.c3; have HF2 := Lib.hid f4; have HG2 := Lib.hid f5; have HB2 := Lib.hid (HB1.out.then_ hb); clear hb f4 f5))
      | (go_at_call 12; ((with_reducible refine (AW.out _ HB2.out).mono ?_); rintro e w9 ⟨rfl, hb⟩; have HBE := Lib.hid (HB2.out.then_ hb); clear hb)))
    go_ret
    exact ⟨rfl, HBE.out⟩
end Go.Proofs.YtdiackcefojfkaaGreatDoor.ExW
