/-
  The walk of ExprSame.
-/
import Derived.Test.YtdiackcefojfkaaGreatDoorExSameR
import Derived.Test.YtdiackcefojfkaaGreatDoorExAwakeW
namespace Go.Proofs.YtdiackcefojfkaaGreatDoor.ExW
open Go Go.RowKit Go.Proofs.YtdiackcefojfkaaGreatDoor.NumM Go.Proofs.YtdiackcefojfkaaGreatDoor.LexW Go.Proofs.YtdiackcefojfkaaGreatDoor.LexM Go.Proofs.YtdiackcefojfkaaGreatDoor.ExM
open Go.«Sort»

theorem eqB_refl (a : Ex) : eqB a a = true := @decide_eq_true _ (Classical.propDecidable _) rfl
open Classical in
theorem eqB_comm (a b : Ex) : eqB b a = eqB a b := by unfold eqB; exact decide_eq_decide.2 eq_comm
/-- What a law's call returns: true, and nothing that was there has changed. -/
abbrev tLaw (w : World) (e : Ending) (w' : World) : Prop := e = .returned (.bool true) ∧ Below w.heap.size w w'
set_option maxRecDepth 100000 in
set_option maxHeartbeats 16000000 in
theorem exprSame_any (a b : Ex) (va vb : Value) (w : World) (hx : ExAt w.heap.size w va a) (hy : ExAt w.heap.size w vb b) (ht : Tab w) : Calls Tryz.prog 9 #[va, vb] w (tLaw w) := by
  obtain ⟨p, cap, pl, cl, rfl, _, _⟩ := hx.form
  obtain ⟨p', cap', pl', cl', rfl, _, _⟩ := hy.form
  have hb1 : Below w.heap.size w ((w.alloc (.cells #[.int .i64 a.op, .int .i64 a.n, .string a.nm, .slice p a.args.length cap] 24)).alloc (.cells #[.int .i64 b.op, .int .i64 b.n, .string b.nm, .slice p' b.args.length cap'] 24)) := ((Below.refl _ _).alloc (Nat.le_refl _) _).alloc (by simp) _
  have FA := (Four.new w (.int .i64 a.op) (.int .i64 a.n) (.string a.nm) (.slice p a.args.length cap) 24).alloc (.cells #[.int .i64 b.op, .int .i64 b.n, .string b.nm, .slice p' b.args.length cap'] 24)
  have FB := Four.new (w.alloc (.cells #[.int .i64 a.op, .int .i64 a.n, .string a.nm, .slice p a.args.length cap] 24)) (.int .i64 b.op) (.int .i64 b.n) (.string b.nm) (.slice p' b.args.length cap') 24
  rw [World.size_alloc] at FB
  have HB1 := Lib.hid hb1
  have HFA := Lib.hid FA
  have HFB := Lib.hid FB
  have e0 := FA.c0
  have e1 := FA.c1
  have e2 := FA.c2
  have e3 := FA.c3
  have g0 := FB.c0
  have g1 := FB.c1
  have g2 := FB.c2
  have g3 := FB.c3
  have F1 : Hid (∀ W, Below w.heap.size w W → Calls Tryz.prog 11 #[xv a.op a.n a.nm (.slice p a.args.length cap), .int .i64 60] W (tBool (decide (sz a ≤ 60)) W)) := Lib.hid fun W hb => few_any a _ 60 W _ (by omega) (hx.under hb) hb.size
  have F2 : Hid (∀ W, Below w.heap.size w W → Calls Tryz.prog 11 #[xv b.op b.n b.nm (.slice p' b.args.length cap'), .int .i64 60] W (tBool (decide (sz b ≤ 60)) W)) := Lib.hid fun W hb => few_any b _ 60 W _ (by omega) (hy.under hb) hb.size
  have AW : Hid (∀ W, Below w.heap.size w W → Calls Tryz.prog 12 #[] W (tBool true W)) := Lib.hid fun W hb => awake_any W (ht.later hb)
  by_cases ha : sz a ≤ 60
  · by_cases hb : sz b ≤ 60
    · have S1 : ∀ W, Below w.heap.size w W → Calls Tryz.prog 32 #[xv a.op a.n a.nm (.slice p a.args.length cap), xv b.op b.n b.nm (.slice p' b.args.length cap')] W (tBool (eqB a b) W) := fun W hW => same_any a b _ W _ _ (hx.under hW) (hy.under hW) hW.size (by omega)
      have S2 : ∀ W, Below w.heap.size w W → Calls Tryz.prog 30 #[xv a.op a.n a.nm (.slice p a.args.length cap), xv b.op b.n b.nm (.slice p' b.args.length cap')] W (tBool (eqB a b) W) := fun W hW => sameR_any a b _ W _ _ (hx.under hW) (hy.under hW) hW.size (by omega)
      have S3 : ∀ W, Below w.heap.size w W → Calls Tryz.prog 32 #[xv b.op b.n b.nm (.slice p' b.args.length cap'), xv a.op a.n a.nm (.slice p a.args.length cap)] W (tBool (eqB a b) W) := fun W hW => by rw [← eqB_comm]; exact same_any b a _ W _ _ (hy.under hW) (hx.under hW) hW.size (by omega)
      have S4 : ∀ W, Below w.heap.size w W → Calls Tryz.prog 32 #[xv a.op a.n a.nm (.slice p a.args.length cap), xv a.op a.n a.nm (.slice p a.args.length cap)] W (tBool true W) := fun W hW => by rw [← eqB_refl a]; exact same_any a a _ W _ _ (hx.under hW) (hx.under hW) hW.size (by omega)
      rw [decide_eq_true ha] at F1
      rw [decide_eq_true hb] at F2
      have S1 := Lib.hid S1
      have S2 := Lib.hid S2
      have S3 := Lib.hid S3
      have S4 := Lib.hid S4
      clear hx hy ht hb1 FA FB ha hb
      generalize eqB a b = v at *
      generalize a.op = ao at *
      generalize a.n = an at *
      generalize a.nm = am at *
      generalize a.args.length = ak at *
      generalize b.op = bo at *
      generalize b.n = bn at *
      generalize b.nm = bm at *
      generalize b.args.length = bk at *
      go_enter Tryz.func9, Tryz.ntmps9
      go_wp2_with (first
        | (go_at_call 11; ((with_reducible refine (F1.out _ HB1.out).mono ?_); rintro e w2 ⟨rfl, hb⟩; have f4 := HFA.out.stay hb; have f5 := HFB.out.stay hb; clear e0 e1 e2 e3 g0 g1 g2 g3; have e0 := f4.c0; have e1 := f4.c1; have e2 := f4.c2; have e3 := f4.c3; have g0 := f5.c0; have g1 := f5.c1; have g2 := f5.c2; have g3 := f5.c3; have HF4 := Lib.hid f4; have HF5 := Lib.hid f5; have HB2 := Lib.hid (HB1.out.then_ hb); clear hb f4 f5))
        | (go_at_call 11; ((with_reducible refine (F2.out _ HB2.out).mono ?_); rintro e w3 ⟨rfl, hb⟩; have f4 := HF4.out.stay hb; have f5 := HF5.out.stay hb; clear e0 e1 e2 e3 g0 g1 g2 g3; have e0 := f4.c0; have e1 := f4.c1; have e2 := f4.c2; have e3 := f4.c3; have g0 := f5.c0; have g1 := f5.c1; have g2 := f5.c2; have g3 := f5.c3; have HB3 := Lib.hid (HB2.out.then_ hb); clear hb f4 f5)))
      have m0 := cell_regrown e0
      have m1 := cell_regrown e1
      have m2 := cell_regrown e2
      have m3 := cell_regrown e3
      have m4 := cell_regrown g0
      have m5 := cell_regrown g1
      have m6 := cell_regrown g2
      have m7 := cell_regrown g3
      have E1 := reB (v := .bool v) (fun W hW => S1.out W (HB3.out.then_ hW))
      have E2 := reB (v := .bool v) (fun W hW => S2.out W (HB3.out.then_ hW))
      have E3 := reB (v := .bool v) (fun W hW => S3.out W (HB3.out.then_ hW))
      have E4 := reB (v := .bool true) (fun W hW => S4.out W (HB3.out.then_ hW))
      have E5 := reB (v := .bool true) (fun W hW => AW.out W (HB3.out.then_ hW))
      clear e0 e1 e2 e3 g0 g1 g2 g3
      cases v
      all_goals
        refine wp_region_quiet_below (by kernel_rfl) (by kernel_rfl) ?_
        repeat (first | go_big_quiet_step (first | (go_at_call 32; with_reducible (first | exact E1 _ _ | exact E3 _ _ | exact E4 _ _)) | (go_at_call 30; with_reducible exact E2 _ _) | (go_at_call 12; with_reducible exact E5 _ _)) | quiet_step (first | (go_at_call 32; with_reducible (first | exact E1 _ _ | exact E3 _ _ | exact E4 _ _)) | (go_at_call 30; with_reducible exact E2 _ _) | (go_at_call 12; with_reducible exact E5 _ _)))
        refine wpQuiet_nil ?_
        intro w4 hw'
        obtain ⟨pq, hw''⟩ := hw'
        have HX : Hid (Below w3.heap.size w3 w4) := Lib.hid (by rw [hw'']; exact below_regrown _ _ _)
        clear hw'' m0 m1 m2 m3 m4 m5 m6 m7 E1 E2 E3 E4 E5
        go_wp2
        go_ret
        exact ⟨rfl, HB3.out.then_ HX.out⟩
    · rw [decide_eq_true ha] at F1
      rw [decide_eq_false hb] at F2
      clear hx hy ht hb1 FA FB ha hb
      generalize a.op = ao at *
      generalize a.n = an at *
      generalize a.nm = am at *
      generalize a.args.length = ak at *
      generalize b.op = bo at *
      generalize b.n = bn at *
      generalize b.nm = bm at *
      generalize b.args.length = bk at *
      go_enter Tryz.func9, Tryz.ntmps9
      go_wp2_with (first
        | (go_at_call 11; ((with_reducible refine (F1.out _ HB1.out).mono ?_); rintro e w2 ⟨rfl, hb⟩; have f5 := HFB.out.stay hb; clear e0 e1 e2 e3 g0 g1 g2 g3; have g0 := f5.c0; have g1 := f5.c1; have g2 := f5.c2; have g3 := f5.c3; have HB2 := Lib.hid (HB1.out.then_ hb); clear hb f5))
        | (go_at_call 11; ((with_reducible refine (F2.out _ HB2.out).mono ?_); rintro e w3 ⟨rfl, hb⟩; have HB3 := Lib.hid (HB2.out.then_ hb); clear hb))
        | (go_at_call 12; ((with_reducible refine (AW.out _ HB3.out).mono ?_); rintro e w4 ⟨rfl, hb⟩; have HB4 := Lib.hid (HB3.out.then_ hb); clear hb)))
      go_ret
      exact ⟨rfl, HB4.out⟩
  · rw [decide_eq_false ha] at F1
    clear hx hy ht hb1 FA FB ha F2
    generalize a.op = ao at *
    generalize a.n = an at *
    generalize a.nm = am at *
    generalize a.args.length = ak at *
    generalize b.op = bo at *
    generalize b.n = bn at *
    generalize b.nm = bm at *
    generalize b.args.length = bk at *
    go_enter Tryz.func9, Tryz.ntmps9
    go_wp2_with (first
      | (go_at_call 11; ((with_reducible refine (F1.out _ HB1.out).mono ?_); rintro e w2 ⟨rfl, hb⟩; have HB2 := Lib.hid (HB1.out.then_ hb); clear hb))
      | (go_at_call 12; ((with_reducible refine (AW.out _ HB2.out).mono ?_); rintro e w4 ⟨rfl, hb⟩; have HB4 := Lib.hid (HB2.out.then_ hb); clear hb)))
    go_ret
    exact ⟨rfl, HB4.out⟩
end Go.Proofs.YtdiackcefojfkaaGreatDoor.ExW
