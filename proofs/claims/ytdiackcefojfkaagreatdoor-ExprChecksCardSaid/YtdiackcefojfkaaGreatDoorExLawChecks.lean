/-
  The walk of ExprChecks.
-/
import Derived.Test.YtdiackcefojfkaaGreatDoorExOver
import Derived.Test.YtdiackcefojfkaaGreatDoorExAwakeW
namespace Go.Proofs.YtdiackcefojfkaaGreatDoor.ExW
open Go Go.RowKit Go.Proofs.YtdiackcefojfkaaGreatDoor.NumM Go.Proofs.YtdiackcefojfkaaGreatDoor.LexW Go.Proofs.YtdiackcefojfkaaGreatDoor.LexM Go.Proofs.YtdiackcefojfkaaGreatDoor.ExM
open Go.«Sort»

set_option maxRecDepth 100000 in
set_option maxHeartbeats 16000000 in
theorem exprChecks_any (a : Ex) (va : Value) (w : World) (hx : ExAt w.heap.size w va a) (ht : Tab w) : Calls Tryz.prog 4 #[va] w (fun e w' => e = .returned (.bool true) ∧ Below w.heap.size w w') := by
  obtain ⟨p, cap, pl, cl, rfl, _, _⟩ := hx.form
  have hb1 : Below w.heap.size w (w.alloc (.cells #[.int .i64 a.op, .int .i64 a.n, .string a.nm, .slice p a.args.length cap] 24)) := (Below.refl _ _).alloc (Nat.le_refl _) _
  have FA := Four.new w (.int .i64 a.op) (.int .i64 a.n) (.string a.nm) (.slice p a.args.length cap) 24
  have HB1 := Lib.hid hb1
  have HFA := Lib.hid FA
  have e0 := FA.c0
  have e1 := FA.c1
  have e2 := FA.c2
  have e3 := FA.c3
  have F1 : Hid (∀ W, Below w.heap.size w W → Calls Tryz.prog 11 #[xv a.op a.n a.nm (.slice p a.args.length cap), .int .i64 450] W (tBool (decide (sz a ≤ 450)) W)) := Lib.hid fun W hb => few_any a _ 450 W _ (by omega) (hx.under hb) hb.size
  have AW : Hid (∀ W, Below w.heap.size w W → Calls Tryz.prog 12 #[] W (tBool true W)) := Lib.hid fun W hb => awake_any W (ht.later hb)
  by_cases ha : sz a ≤ 450
  · have S1 : ∀ W, Below w.heap.size w W → Calls Tryz.prog 24 #[xv a.op a.n a.nm (.slice p a.args.length cap)] W (tInt (vld a) W) := fun W hW => valid_any a _ W ((hx.under hW).wide hW.size) (by omega) (ht.later hW)
    have S2 : ∀ W, Below w.heap.size w W → Calls Tryz.prog 25 #[xv a.op a.n a.nm (.slice p a.args.length cap)] W (tInt (vld a) W) := fun W hW => validR_any a _ W ((hx.under hW).wide hW.size) (by omega)
    rw [decide_eq_true ha] at F1
    have S1 := Lib.hid S1
    have S2 := Lib.hid S2
    clear hx ht hb1 FA ha
    generalize vld a = v at *
    generalize a.op = ao at *
    generalize a.n = an at *
    generalize a.nm = am at *
    generalize a.args.length = ak at *
    go_enter Tryz.func4, Tryz.ntmps4
    go_wp2_with (go_at_call 11; ((with_reducible refine (F1.out _ HB1.out).mono ?_); rintro e w2 ⟨rfl, hb⟩; have f4 := HFA.out.stay hb; clear e0 e1 e2 e3; have e0 := f4.c0; have e1 := f4.c1; have e2 := f4.c2; have e3 := f4.c3; have HB2 := Lib.hid (HB1.out.then_ hb); clear hb f4))
    have m0 := cell_regrown e0
    have m1 := cell_regrown e1
    have m2 := cell_regrown e2
    have m3 := cell_regrown e3
    have E1 := reB (v := .int .i64 v) (fun W hW => S1.out W (HB2.out.then_ hW))
    have E2 := reB (v := .int .i64 v) (fun W hW => S2.out W (HB2.out.then_ hW))
    have E5 := reB (v := .bool true) (fun W hW => AW.out W (HB2.out.then_ hW))
    clear e0 e1 e2 e3
    refine wp_region_quiet_below (by kernel_rfl) (by kernel_rfl) ?_
    repeat (first | go_big_quiet_step (first | (go_at_call 24; with_reducible exact E1 _ _) | (go_at_call 25; with_reducible exact E2 _ _) | (go_at_call 12; with_reducible exact E5 _ _)) | quiet_step (first | (go_at_call 24; with_reducible exact E1 _ _) | (go_at_call 25; with_reducible exact E2 _ _) | (go_at_call 12; with_reducible exact E5 _ _)))
    refine wpQuiet_nil ?_
    intro w4 hw'
    obtain ⟨pq, hw''⟩ := hw'
    have HX : Hid (Below w2.heap.size w2 w4) := Lib.hid (by rw [hw'']; exact below_regrown _ _ _)
    clear hw'' m0 m1 m2 m3 E1 E2 E5
    go_wp2
    go_ret
    exact ⟨rfl, HB2.out.then_ HX.out⟩
  · rw [decide_eq_false ha] at F1
    clear hx ht hb1 FA ha
    generalize a.op = ao at *
    generalize a.n = an at *
    generalize a.nm = am at *
    generalize a.args.length = ak at *
    go_enter Tryz.func4, Tryz.ntmps4
    go_wp2_with (first
      | (go_at_call 11; ((with_reducible refine (F1.out _ HB1.out).mono ?_); rintro e w2 ⟨rfl, hb⟩; have HB2 := Lib.hid (HB1.out.then_ hb); clear hb))
      | (go_at_call 12; ((with_reducible refine (AW.out _ HB2.out).mono ?_); rintro e w4 ⟨rfl, hb⟩; have HB4 := Lib.hid (HB2.out.then_ hb); clear hb)))
    go_ret
    exact ⟨rfl, HB4.out⟩
end Go.Proofs.YtdiackcefojfkaaGreatDoor.ExW
