/-
  The walk of ExprEvals.
-/
import Derived.Test.YtdiackcefojfkaaGreatDoorExBrief
import Derived.Test.YtdiackcefojfkaaGreatDoorExAwakeW
namespace Go.Proofs.YtdiackcefojfkaaGreatDoor.ExW
open Go Go.RowKit Go.Proofs.YtdiackcefojfkaaGreatDoor.NumM Go.Proofs.YtdiackcefojfkaaGreatDoor.LexW Go.Proofs.YtdiackcefojfkaaGreatDoor.LexM Go.Proofs.YtdiackcefojfkaaGreatDoor.ExM
open Go.«Sort»

set_option maxRecDepth 100000 in
set_option maxHeartbeats 16000000 in
theorem exprEvals_any (a : Ex) (va : Value) (env : Env) (sv : Value) (w : World) (hx : ExAt w.heap.size w va a) (hE : SigsAt w sv env) (hr : ∀ x ∈ env, -9223372036854775808 ≤ x.2 ∧ x.2 ≤ 9223372036854775807) (hn : ∀ t ∈ env, t.1.size ≤ 9223372036854775807) (ht : Tab w) : Calls Tryz.prog 5 #[va, sv] w (fun e w' => e = .returned (.bool true) ∧ Below w.heap.size w w') := by
  obtain ⟨p, cap, pl, cl, rfl, _, _⟩ := hx.form
  have hb1 : Below w.heap.size w (w.alloc (.cells #[.int .i64 a.op, .int .i64 a.n, .string a.nm, .slice p a.args.length cap] 24)) := (Below.refl _ _).alloc (Nat.le_refl _) _
  have FA := Four.new w (.int .i64 a.op) (.int .i64 a.n) (.string a.nm) (.slice p a.args.length cap) 24
  have HB1 := Lib.hid hb1
  have HFA := Lib.hid FA
  have e0 := FA.c0
  have e1 := FA.c1
  have e2 := FA.c2
  have e3 := FA.c3
  have F1 : Hid (∀ W, Below w.heap.size w W → Calls Tryz.prog 11 #[xv a.op a.n a.nm (.slice p a.args.length cap), .int .i64 120] W (tBool (decide (sz a ≤ 120)) W)) := Lib.hid fun W hb => few_any a _ 120 W _ (by omega) (hx.under hb) hb.size
  have BR : Hid (∀ W, Below w.heap.size w W → Calls Tryz.prog 26 #[sv] W fun e w' => e = .returned (.bool (briefB env)) ∧ W = w') := Lib.hid fun W hb => brief_any env sv W (hE.later hb) hn
  have AW : Hid (∀ W, Below w.heap.size w W → Calls Tryz.prog 12 #[] W (tBool true W)) := Lib.hid fun W hb => awake_any W (ht.later hb)
  by_cases ha : sz a ≤ 120
  · rw [decide_eq_true ha] at F1
    cases hbr : briefB env
    · rw [hbr] at BR
      clear hx ht hb1 FA ha hE hr hn hbr
      generalize a.op = ao at *
      generalize a.n = an at *
      generalize a.nm = am at *
      generalize a.args.length = ak at *
      go_enter Tryz.func5, Tryz.ntmps5
      go_wp2_with (first
        | (go_at_call 11; ((with_reducible refine (F1.out _ HB1.out).mono ?_); rintro e w2 ⟨rfl, hb⟩; have HB2 := Lib.hid (HB1.out.then_ hb); clear hb))
        | (go_at_call 26; ((with_reducible refine (BR.out _ HB2.out).mono ?_); rintro e w3 ⟨rfl, rfl⟩))
        | (go_at_call 12; ((with_reducible refine (AW.out _ HB2.out).mono ?_); rintro e w4 ⟨rfl, hb⟩; have HB4 := Lib.hid (HB2.out.then_ hb); clear hb)))
      go_ret
      exact ⟨rfl, HB4.out⟩
    · rw [hbr] at BR
      have S1 : Hid (∀ W, Below w.heap.size w W → Calls Tryz.prog 27 #[xv a.op a.n a.nm (.slice p a.args.length cap), sv] W (tEv (evalS env a) W)) := Lib.hid fun W hW => eval_any env sv _ a W ((hx.under hW).wide hW.size) (hE.later hW) (by omega) (ht.later hW)
      have S2 : Hid (∀ W, Below w.heap.size w W → Calls Tryz.prog 28 #[xv a.op a.n a.nm (.slice p a.args.length cap), sv] W (tEv (evalS env a) W)) := Lib.hid fun W hW => evalR_any env sv _ a W ((hx.under hW).wide hW.size) (hE.later hW) hr (by omega)
      have hrg := evalS_range env a
      clear hx ht hb1 FA ha hE hr hn hbr
      generalize evalS env a = r at *
      obtain ⟨r1, r2⟩ := r
      obtain ⟨g1, g2⟩ : 0 ≤ r1 ∧ r1 ≤ 65535 := hrg
      generalize a.op = ao at *
      generalize a.n = an at *
      generalize a.nm = am at *
      generalize a.args.length = ak at *
      go_enter Tryz.func5, Tryz.ntmps5
      go_wp2_with (first
        | (go_at_call 11; ((with_reducible refine (F1.out _ HB1.out).mono ?_); rintro e w2 ⟨rfl, hb⟩; have f4 := HFA.out.stay hb; clear e0 e1 e2 e3; have e0 := f4.c0; have e1 := f4.c1; have e2 := f4.c2; have e3 := f4.c3; have HF2 := Lib.hid f4; have HB2 := Lib.hid (HB1.out.then_ hb); clear hb f4))
        | (go_at_call 26; ((with_reducible refine (BR.out _ HB2.out).mono ?_); rintro e w3 ⟨rfl, rfl⟩))
        | (go_at_call 27; ((with_reducible refine (S1.out _ HB2.out).mono ?_); rintro e w4 ⟨rfl, hb⟩; have f4 := HF2.out.stay hb; clear e0 e1 e2 e3; have e0 := f4.c0; have e1 := f4.c1; have e2 := f4.c2; have e3 := f4.c3; have HB4 := Lib.hid (HB2.out.then_ hb); clear hb f4))
        | (go_at_call 28; ((with_reducible refine (S2.out _ HB4.out).mono ?_); rintro e w5 ⟨rfl, hb⟩; have HB5 := Lib.hid (HB4.out.then_ hb); clear hb))
        | (go_at_call 12; ((with_reducible refine (AW.out _ HB5.out).mono ?_); rintro e w6 ⟨rfl, hb⟩; have HB6 := Lib.hid (HB5.out.then_ hb); clear hb)))
      go_ret
      exact ⟨rfl, HB6.out⟩
  · rw [decide_eq_false ha] at F1
    clear hx ht hb1 FA ha hE hr hn BR
    generalize a.op = ao at *
    generalize a.n = an at *
    generalize a.nm = am at *
    generalize a.args.length = ak at *
    go_enter Tryz.func5, Tryz.ntmps5
    go_wp2_with (first
      | (go_at_call 11; ((with_reducible refine (F1.out _ HB1.out).mono ?_); rintro e w2 ⟨rfl, hb⟩; have HB2 := Lib.hid (HB1.out.then_ hb); clear hb))
      | (go_at_call 12; ((with_reducible refine (AW.out _ HB2.out).mono ?_); rintro e w4 ⟨rfl, hb⟩; have HB4 := Lib.hid (HB2.out.then_ hb); clear hb)))
    go_ret
    exact ⟨rfl, HB4.out⟩
end Go.Proofs.YtdiackcefojfkaaGreatDoor.ExW
