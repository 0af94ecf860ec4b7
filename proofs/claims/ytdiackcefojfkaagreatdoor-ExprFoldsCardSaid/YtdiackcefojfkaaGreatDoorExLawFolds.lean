/-
  The walk of ExprFolds.
-/
import Derived.Test.YtdiackcefojfkaaGreatDoorExFoldR
import Derived.Test.YtdiackcefojfkaaGreatDoorExSameR
import Derived.Test.YtdiackcefojfkaaGreatDoorExAwakeW
import Derived.Deep.RegionHeld3
namespace Go.Proofs.YtdiackcefojfkaaGreatDoor.ExW
open Go Go.RowKit Go.Proofs.YtdiackcefojfkaaGreatDoor.NumM Go.Proofs.YtdiackcefojfkaaGreatDoor.LexW Go.Proofs.YtdiackcefojfkaaGreatDoor.LexM Go.Proofs.YtdiackcefojfkaaGreatDoor.ExM
open Go.«Sort»

theorem eqB_self (a : Ex) : eqB a a = true := @decide_eq_true _ (Classical.propDecidable _) rfl
theorem foldS_eval (env : Env) (e : Ex) : evalS env (foldS e) = evalS env e := by
  unfold foldS
  by_cases h : vld e = 0
  · rw [if_pos h]
    obtain ⟨h1, h2⟩ := fo_ev env e ((vld_zero e).1 h).1
    unfold evalS
    rw [if_pos h, if_pos (fo_vld e h), h1, h2]
  · rw [if_neg h]
theorem foldS_foldS (e : Ex) : foldS (foldS e) = foldS e := by
  by_cases h : vld e = 0
  · have h1 : foldS e = fo e := if_pos h
    rw [h1]
    unfold foldS
    rw [if_pos (fo_vld e h), fo_fo]
  · have h1 : foldS e = e := if_neg h
    rw [h1, h1]
theorem foldS_sz (e : Ex) : sz (foldS e) ≤ sz e := by
  unfold foldS
  split
  · exact (fo_size e).1
  · exact Nat.le_refl _
/-- Two boxes as they were, and nothing that was there has changed since w3. -/
def CelX (w3 : World) (b : Nat) (o n : Int) (s : ByteArray) (x : Value) (b' : Nat) (o' n' : Int) (s' : ByteArray) (x' : Value) (W : World) : Prop :=
  W.cell? ⟨b, 0, none⟩ = some (.int .i64 o) ∧ W.cell? ⟨b, 1, none⟩ = some (.int .i64 n) ∧ W.cell? ⟨b, 2, none⟩ = some (.string s) ∧ W.cell? ⟨b, 3, none⟩ = some x ∧
  W.cell? ⟨b', 0, none⟩ = some (.int .i64 o') ∧ W.cell? ⟨b', 1, none⟩ = some (.int .i64 n') ∧ W.cell? ⟨b', 2, none⟩ = some (.string s') ∧ W.cell? ⟨b', 3, none⟩ = some x' ∧ Below w3.heap.size w3 W
theorem CelX.low {w3 : World} {b : Nat} {o n : Int} {s : ByteArray} {x : Value} {b' : Nat} {o' n' : Int} {s' : ByteArray} {x' : Value} {W : World} (h : CelX w3 b o n s x b' o' n' s' x' W) : Below w3.heap.size w3 W := h.2.2.2.2.2.2.2.2
theorem CelX.mk' {w3 : World} {b : Nat} {o n : Int} {s : ByteArray} {x : Value} {b' : Nat} {o' n' : Int} {s' : ByteArray} {x' : Value} (f : Four w3 b (.int .i64 o) (.int .i64 n) (.string s) x) (f' : Four w3 b' (.int .i64 o') (.int .i64 n') (.string s') x') {W : World} (h : Below w3.heap.size w3 W) : CelX w3 b o n s x b' o' n' s' x' W := by
  have g := f.stay h
  have g' := f'.stay h
  exact ⟨g.c0, g.c1, g.c2, g.c3, g'.c0, g'.c1, g'.c2, g'.c3, h⟩
set_option maxRecDepth 100000 in
set_option maxHeartbeats 16000000 in
theorem exprFolds_any (a : Ex) (va : Value) (env : Env) (sv : Value) (w : World) (hx : ExAt w.heap.size w va a) (hE : SigsAt w sv env) (_hr : ∀ x ∈ env, -9223372036854775808 ≤ x.2 ∧ x.2 ≤ 9223372036854775807) (hn : ∀ t ∈ env, t.1.size ≤ 9223372036854775807) (ht : Tab w) : Calls Tryz.prog 6 #[va, sv] w (fun e w' => e = .returned (.bool true) ∧ Below w.heap.size w w') := by
  obtain ⟨p, cap, pl, cl, rfl, _, _⟩ := hx.form
  have hb1 : Below w.heap.size w (w.alloc (.cells #[.int .i64 a.op, .int .i64 a.n, .string a.nm, .slice p a.args.length cap] 24)) := (Below.refl _ _).alloc (Nat.le_refl _) _
  have FA := Four.new w (.int .i64 a.op) (.int .i64 a.n) (.string a.nm) (.slice p a.args.length cap) 24
  have HB1 := Lib.hid hb1
  have HFA := Lib.hid FA
  have e0 := FA.c0
  have e1 := FA.c1
  have e2 := FA.c2
  have e3 := FA.c3
  have F1 : Hid (∀ W, Below w.heap.size w W → Calls Tryz.prog 11 #[xv a.op a.n a.nm (.slice p a.args.length cap), .int .i64 120] W (tBool (decide (sz a ≤ 120)) W)) := Lib.hid fun W hb => few_any a _ 120 W _ (by omega) (hx.under hb) hb.size
  have BR : Hid (∀ W, Below w.heap.size w W → Calls Tryz.prog 26 #[sv] W fun e w' => e = .returned (.bool (briefB env)) ∧ W = w') := Lib.hid fun W hb => brief_any env sv W (hE.later hb) hn
  have AW : Hid (∀ W, Below w.heap.size w W → Calls Tryz.prog 12 #[] W (tBool true W)) := Lib.hid fun W hb => awake_any W (ht.later hb)
  by_cases ha : sz a ≤ 120
  · rw [decide_eq_true ha] at F1
    cases hbr : briefB env
    · rw [hbr] at BR
      clear hx ht hb1 FA ha hE hn hbr
      generalize a.op = ao at *
      generalize a.n = an at *
      generalize a.nm = am at *
      generalize a.args.length = ak at *
      go_enter Tryz.func6, Tryz.ntmps6
      go_wp2_with (first
        | (go_at_call 11; ((with_reducible refine (F1.out _ HB1.out).mono ?_); rintro e w2 ⟨rfl, hb⟩; have HB2 := Lib.hid (HB1.out.then_ hb); clear hb))
        | (go_at_call 26; ((with_reducible refine (BR.out _ HB2.out).mono ?_); rintro e w3 ⟨rfl, rfl⟩))
        | (go_at_call 12; ((with_reducible refine (AW.out _ HB2.out).mono ?_); rintro e w4 ⟨rfl, hb⟩; have HB4 := Lib.hid (HB2.out.then_ hb); clear hb)))
      go_ret
      exact ⟨rfl, HB4.out⟩
    · rw [hbr] at BR
      have hz := foldS_sz a
      have S1 : Hid (∀ W, Below w.heap.size w W → Calls Tryz.prog 29 #[xv a.op a.n a.nm (.slice p a.args.length cap)] W (tFr (foldS a) W)) := Lib.hid fun W hW => foldCode_any a _ W _ (hx.under hW) hW.size (by omega) (ht.later hW)
      have S2 : Hid (∀ W, Below w.heap.size w W → Calls Tryz.prog 31 #[xv a.op a.n a.nm (.slice p a.args.length cap)] W fun e w' => ∃ v, e = .returned v ∧ ExAt w'.heap.size w' v (foldS a) ∧ Below W.heap.size W w') := Lib.hid fun W hW => foldRef_any a _ W ((hx.under hW).wide hW.size) (by omega)
      have V1 : Hid (∀ W, Below w.heap.size w W → Calls Tryz.prog 27 #[xv a.op a.n a.nm (.slice p a.args.length cap), sv] W (tEv (evalS env a) W)) := Lib.hid fun W hW => eval_any env sv _ a W ((hx.under hW).wide hW.size) (hE.later hW) (by omega) (ht.later hW)
      have X1 : Hid (∀ N W v, ExAt N W v (foldS a) → N ≤ W.heap.size → Below w.heap.size w W → Calls Tryz.prog 29 #[v] W (tFr (foldS a) W)) := Lib.hid fun N W v h hN hW => by
        have := foldCode_any (foldS a) N W v h hN (by omega) (ht.later hW)
        rw [foldS_foldS] at this
        exact this
      have X2 : Hid (∀ W v u, ExAt W.heap.size W v (foldS a) → ExAt W.heap.size W u (foldS a) → Calls Tryz.prog 30 #[v, u] W (tBool true W)) := Lib.hid fun W v u h1 h2 => by
        have := sameR_any (foldS a) (foldS a) _ W v u h1 h2 (Nat.le_refl _) (by omega)
        rw [eqB_self] at this
        exact this
      have X3 : Hid (∀ W v u, ExAt W.heap.size W v (foldS a) → ExAt W.heap.size W u (foldS a) → Calls Tryz.prog 32 #[v, u] W (tBool true W)) := Lib.hid fun W v u h1 h2 => by
        have := same_any (foldS a) (foldS a) _ W v u h1 h2 (Nat.le_refl _) (by omega)
        rw [eqB_self] at this
        exact this
      have V2 : Hid (∀ W v, ExAt W.heap.size W v (foldS a) → Below w.heap.size w W → Calls Tryz.prog 27 #[v, sv] W (tEv (evalS env a) W)) := Lib.hid fun W v h hW => by
        have := eval_any env sv v (foldS a) W h (hE.later hW) (by omega) (ht.later hW)
        rw [foldS_eval] at this
        exact this
      clear hx ht hb1 FA ha hE hn hbr hz
      generalize foldS a = x at *
      generalize evalS env a = r at *
      obtain ⟨r1, r2⟩ := r
      generalize a.op = ao at *
      generalize a.n = an at *
      generalize a.nm = am at *
      generalize a.args.length = ak at *
      go_enter Tryz.func6, Tryz.ntmps6
      go_wp2_with (first
        | (go_at_call 11; ((with_reducible refine (F1.out _ HB1.out).mono ?_); rintro e w2 ⟨rfl, hb⟩; have f4 := HFA.out.stay hb; clear e0 e1 e2 e3; have e0 := f4.c0; have e1 := f4.c1; have e2 := f4.c2; have e3 := f4.c3; have HF2 := Lib.hid f4; have HB2 := Lib.hid (HB1.out.then_ hb); clear hb f4))
        | (go_at_call 26; ((with_reducible refine (BR.out _ HB2.out).mono ?_); rintro e w3 ⟨rfl, rfl⟩))
        | (go_at_call 29; ((with_reducible refine (S1.out _ HB2.out).mono ?_); rintro e w3 ⟨v3, rfl, hfr, hb⟩; have hat := hfr.at_; obtain ⟨p3, k3, rfl, _⟩ := ex_val hfr; have HAT := Lib.hid hat; have HF3 := Lib.hid (HF2.out.stay hb); have HB3 := Lib.hid (HB2.out.then_ hb); clear hb hfr hat e0 e1 e2 e3)))
      have hb4 : Below w3.heap.size w3 (w3.alloc (.cells #[.int .i64 x.op, .int .i64 x.n, .string x.nm, .slice p3 x.args.length k3] 24)) := (Below.refl _ _).alloc (Nat.le_refl _) _
      have FX := Four.new w3 (.int .i64 x.op) (.int .i64 x.n) (.string x.nm) (.slice p3 x.args.length k3) 24
      have FE := HF3.out.stay hb4
      have HX4 := HAT.out.later hb4
      have HB4 := Lib.hid (HB3.out.then_ hb4)
      generalize w3.alloc (.cells #[.int .i64 x.op, .int .i64 x.n, .string x.nm, .slice p3 x.args.length k3] 24) = w4 at *
      have MK : Hid (∀ W, Below w4.heap.size w4 W → CelX w4 w.heap.size ao an am (.slice p ak cap) w3.heap.size x.op x.n x.nm (.slice p3 x.args.length k3) W) := Lib.hid fun W h => CelX.mk' FE FX h
      have up : ∀ {W}, CelX w4 w.heap.size ao an am (.slice p ak cap) w3.heap.size x.op x.n x.nm (.slice p3 x.args.length k3) W → Below w.heap.size w W := fun {W} h => HB4.out.then_ h.low
      have Y1 : Hid (∀ W, CelX w4 w.heap.size ao an am (.slice p ak cap) w3.heap.size x.op x.n x.nm (.slice p3 x.args.length k3) W → Calls Tryz.prog 31 #[xv ao an am (.slice p ak cap)] W fun e w' => ∃ v, e = .returned v ∧ CelX w4 w.heap.size ao an am (.slice p ak cap) w3.heap.size x.op x.n x.nm (.slice p3 x.args.length k3) w' ∧ Hid (ExAt w'.heap.size w' v x)) := Lib.hid fun W h => (S2.out W (up h)).mono fun e w' ⟨v, h1, h2, h3⟩ => ⟨v, h1, MK.out _ (h.low.then_ h3), Lib.hid h2⟩
      have Y2 : Hid (∀ W u, Hid (ExAt W.heap.size W u x) → CelX w4 w.heap.size ao an am (.slice p ak cap) w3.heap.size x.op x.n x.nm (.slice p3 x.args.length k3) W → Calls Tryz.prog 30 #[xv x.op x.n x.nm (.slice p3 x.args.length k3), u] W fun e w' => e = .returned (.bool true) ∧ CelX w4 w.heap.size ao an am (.slice p ak cap) w3.heap.size x.op x.n x.nm (.slice p3 x.args.length k3) w') := Lib.hid fun W u hu h => (X2.out W _ u (HX4.later h.low) hu.out).mono fun e w' ⟨h1, h3⟩ => ⟨h1, MK.out _ (h.low.then_ h3)⟩
      have Y3 : Hid (∀ W, CelX w4 w.heap.size ao an am (.slice p ak cap) w3.heap.size x.op x.n x.nm (.slice p3 x.args.length k3) W → Calls Tryz.prog 29 #[xv x.op x.n x.nm (.slice p3 x.args.length k3)] W fun e w' => ∃ v, e = .returned v ∧ CelX w4 w.heap.size ao an am (.slice p ak cap) w3.heap.size x.op x.n x.nm (.slice p3 x.args.length k3) w' ∧ Hid (ExAt w'.heap.size w' v x)) := Lib.hid fun W h => (X1.out _ W _ (HX4.later h.low) (Nat.le_refl _) (up h)).mono fun e w' ⟨v, h1, h2, h3⟩ => ⟨v, h1, MK.out _ (h.low.then_ h3), Lib.hid h2.at_⟩
      have Y4 : Hid (∀ W u, Hid (ExAt W.heap.size W u x) → CelX w4 w.heap.size ao an am (.slice p ak cap) w3.heap.size x.op x.n x.nm (.slice p3 x.args.length k3) W → Calls Tryz.prog 32 #[u, xv x.op x.n x.nm (.slice p3 x.args.length k3)] W fun e w' => e = .returned (.bool true) ∧ CelX w4 w.heap.size ao an am (.slice p ak cap) w3.heap.size x.op x.n x.nm (.slice p3 x.args.length k3) w') := Lib.hid fun W u hu h => (X3.out W u _ hu.out (HX4.later h.low)).mono fun e w' ⟨h1, h3⟩ => ⟨h1, MK.out _ (h.low.then_ h3)⟩
      have HX5 := Lib.hid HX4
      clear up FX FE HX4 hb4 S1 S2 X1 X2 X3 F1 BR HFA HF2 HF3 HAT
      go_region_held3 (fun w' => w'.cell? ⟨w.heap.size, 0, none⟩ = some (.int .i64 ao) ∧ w'.cell? ⟨w.heap.size, 1, none⟩ = some (.int .i64 an) ∧ w'.cell? ⟨w.heap.size, 2, none⟩ = some (.string am) ∧ w'.cell? ⟨w.heap.size, 3, none⟩ = some (.slice p ak cap) ∧ w'.cell? ⟨w3.heap.size, 0, none⟩ = some (.int .i64 x.op) ∧ w'.cell? ⟨w3.heap.size, 1, none⟩ = some (.int .i64 x.n) ∧ w'.cell? ⟨w3.heap.size, 2, none⟩ = some (.string x.nm) ∧ w'.cell? ⟨w3.heap.size, 3, none⟩ = some (.slice p3 x.args.length k3) ∧ Below w4.heap.size w4 w') (first | assumption | exact MK.out _ (Below.refl _ _).drew | fail)
        (first
          | (go_at_call 31; (with_reducible refine (Y1.out _ ?_).mono ?_); (first | assumption | exact MK.out _ (Below.refl _ _).drew); rintro e w5 ⟨v5, rfl, hg5, hs5⟩)
          | (go_at_call 30; (with_reducible refine (Y2.out _ _ hs5 ?_).mono ?_); assumption; rintro e w6 ⟨rfl, hg6⟩)
          | (go_at_call 29; (with_reducible refine (Y3.out _ ?_).mono ?_); assumption; rintro e w7 ⟨v7, rfl, hg7, hs7⟩)
          | (go_at_call 32; (with_reducible refine (Y4.out _ _ hs7 ?_).mono ?_); assumption; rintro e w8 ⟨rfl, hg8⟩))
      have HB8 := Lib.hid (HB4.out.then_ hg8.low)
      have f0 := hg8.1
      have f1 := hg8.2.1
      have f2 := hg8.2.2.1
      have f3 := hg8.2.2.2.1
      have HX8 := Lib.hid (HX5.out.later hg8.low)
      have HG8 := Lib.hid hg8
      have HC9 : Hid (∀ W, Below w8.heap.size w8 W → CelX w4 w.heap.size ao an am (.slice p ak cap) w3.heap.size x.op x.n x.nm (.slice p3 x.args.length k3) W) := Lib.hid fun W h => MK.out _ (hg8.low.then_ h)
      clear hg5 hg6 hg7 hg8 hs5 hs7 MK Y1 Y2 Y3 Y4
      go_wp2_with (first
        | (go_at_call 27; ((with_reducible refine (V1.out _ HB8.out).mono ?_); rintro e w9 ⟨rfl, hb⟩; clear f0 f1 f2 f3; obtain ⟨_, _, _, _, f0, f1, f2, f3, _⟩ := HC9.out _ hb; have HX9 := Lib.hid (HX8.out.later hb); have HB9 := Lib.hid (HB8.out.then_ hb); clear hb))
        | (go_at_call 27; ((with_reducible refine (V2.out _ _ HX9.out HB9.out).mono ?_); rintro e w10 ⟨rfl, hb⟩; have HB10 := Lib.hid (HB9.out.then_ hb); clear hb))
        | (go_at_call 12; ((with_reducible refine (AW.out _ HB10.out).mono ?_); rintro e w11 ⟨rfl, hb⟩; have HB11 := Lib.hid (HB10.out.then_ hb); clear hb)))
      go_ret
      exact ⟨rfl, HB11.out⟩
  · rw [decide_eq_false ha] at F1
    clear hx ht hb1 FA ha hE hn BR
    generalize a.op = ao at *
    generalize a.n = an at *
    generalize a.nm = am at *
    generalize a.args.length = ak at *
    go_enter Tryz.func6, Tryz.ntmps6
    go_wp2_with (first
      | (go_at_call 11; ((with_reducible refine (F1.out _ HB1.out).mono ?_); rintro e w2 ⟨rfl, hb⟩; have HB2 := Lib.hid (HB1.out.then_ hb); clear hb))
      | (go_at_call 12; ((with_reducible refine (AW.out _ HB2.out).mono ?_); rintro e w4 ⟨rfl, hb⟩; have HB4 := Lib.hid (HB2.out.then_ hb); clear hb)))
    go_ret
    exact ⟨rfl, HB4.out⟩
end Go.Proofs.YtdiackcefojfkaaGreatDoor.ExW
