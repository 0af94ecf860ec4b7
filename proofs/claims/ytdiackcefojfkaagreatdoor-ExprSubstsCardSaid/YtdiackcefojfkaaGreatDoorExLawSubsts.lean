/-
  The walk of ExprSubsts.
-/
import Derived.Test.YtdiackcefojfkaaGreatDoorExSuR
import Derived.Test.YtdiackcefojfkaaGreatDoorExSubstC
import Derived.Test.YtdiackcefojfkaaGreatDoorExSameR
import Derived.Test.YtdiackcefojfkaaGreatDoorExAwakeW
import Derived.Deep.RegionHeld3
namespace Go.Proofs.YtdiackcefojfkaaGreatDoor.ExW
open Go Go.RowKit Go.Proofs.YtdiackcefojfkaaGreatDoor.NumM Go.Proofs.YtdiackcefojfkaaGreatDoor.LexW Go.Proofs.YtdiackcefojfkaaGreatDoor.LexM Go.Proofs.YtdiackcefojfkaaGreatDoor.ExM
open Go.«Sort»

theorem eqB_own (a : Ex) : eqB a a = true := @decide_eq_true _ (Classical.propDecidable _) rfl
theorem vrE_at (N : Nat) (W : World) (s : ByteArray) (hs : s.size ≤ 140737488351232) : ExAt N W (xv 2 0 s (.slice none 0 0)) (.mk 2 0 s []) :=
  ExAt.of hs (ArgsAt.nil N W none 0)
/-- Three boxes as they were, and nothing that was there has changed since w3. -/
def CelZ (w3 : World) (b : Nat) (o n : Int) (s : ByteArray) (x : Value) (b' : Nat) (o' n' : Int) (s' : ByteArray) (x' : Value) (b2 : Nat) (o2 n2 : Int) (s2 : ByteArray) (x2 : Value) (W : World) : Prop :=
  W.cell? ⟨b, 0, none⟩ = some (.int .i64 o) ∧ W.cell? ⟨b, 1, none⟩ = some (.int .i64 n) ∧ W.cell? ⟨b, 2, none⟩ = some (.string s) ∧ W.cell? ⟨b, 3, none⟩ = some x ∧
  W.cell? ⟨b', 0, none⟩ = some (.int .i64 o') ∧ W.cell? ⟨b', 1, none⟩ = some (.int .i64 n') ∧ W.cell? ⟨b', 2, none⟩ = some (.string s') ∧ W.cell? ⟨b', 3, none⟩ = some x' ∧
  W.cell? ⟨b2, 0, none⟩ = some (.int .i64 o2) ∧ W.cell? ⟨b2, 1, none⟩ = some (.int .i64 n2) ∧ W.cell? ⟨b2, 2, none⟩ = some (.string s2) ∧ W.cell? ⟨b2, 3, none⟩ = some x2 ∧ Below w3.heap.size w3 W
theorem CelZ.low {w3 : World} {b : Nat} {o n : Int} {s : ByteArray} {x : Value} {b' : Nat} {o' n' : Int} {s' : ByteArray} {x' : Value} {b2 : Nat} {o2 n2 : Int} {s2 : ByteArray} {x2 : Value} {W : World} (h : CelZ w3 b o n s x b' o' n' s' x' b2 o2 n2 s2 x2 W) : Below w3.heap.size w3 W := h.2.2.2.2.2.2.2.2.2.2.2.2
theorem CelZ.mk' {w3 : World} {b : Nat} {o n : Int} {s : ByteArray} {x : Value} {b' : Nat} {o' n' : Int} {s' : ByteArray} {x' : Value} {b2 : Nat} {o2 n2 : Int} {s2 : ByteArray} {x2 : Value} (f : Four w3 b (.int .i64 o) (.int .i64 n) (.string s) x) (f' : Four w3 b' (.int .i64 o') (.int .i64 n') (.string s') x') (f2 : Four w3 b2 (.int .i64 o2) (.int .i64 n2) (.string s2) x2) {W : World} (h : Below w3.heap.size w3 W) : CelZ w3 b o n s x b' o' n' s' x' b2 o2 n2 s2 x2 W := by
  have g := f.stay h
  have g' := f'.stay h
  have g2 := f2.stay h
  exact ⟨g.c0, g.c1, g.c2, g.c3, g'.c0, g'.c1, g'.c2, g'.c3, g2.c0, g2.c1, g2.c2, g2.c3, h⟩
set_option maxRecDepth 100000 in
set_option maxHeartbeats 16000000 in
theorem exprSubsts_any (a : Ex) (va : Value) (nm : ByteArray) (hnm : nm.size ≤ 140737488351232) (b : Ex) (vb : Value) (w : World) (hx : ExAt w.heap.size w va a) (hy : ExAt w.heap.size w vb b) (ht : Tab w) : Calls Tryz.prog 7 #[va, .string nm, vb] w (fun e w' => e = .returned (.bool true) ∧ Below w.heap.size w w') := by
  obtain ⟨p, cap, pl, cl, rfl, _, _⟩ := hx.form
  obtain ⟨p', cap', pl', cl', rfl, _, _⟩ := hy.form
  have hb1 : Below w.heap.size w ((w.alloc (.cells #[.int .i64 a.op, .int .i64 a.n, .string a.nm, .slice p a.args.length cap] 24)).alloc (.cells #[.int .i64 b.op, .int .i64 b.n, .string b.nm, .slice p' b.args.length cap'] 24)) := ((Below.refl _ _).alloc (Nat.le_refl _) _).alloc (by simp) _
  have FA := (Four.new w (.int .i64 a.op) (.int .i64 a.n) (.string a.nm) (.slice p a.args.length cap) 24).alloc (.cells #[.int .i64 b.op, .int .i64 b.n, .string b.nm, .slice p' b.args.length cap'] 24)
  have FB := Four.new (w.alloc (.cells #[.int .i64 a.op, .int .i64 a.n, .string a.nm, .slice p a.args.length cap] 24)) (.int .i64 b.op) (.int .i64 b.n) (.string b.nm) (.slice p' b.args.length cap') 24
  rw [World.size_alloc] at FB
  have HB1 := Lib.hid hb1
  have HFA := Lib.hid FA
  have HFB := Lib.hid FB
  have e0 := FA.c0
  have e1 := FA.c1
  have e2 := FA.c2
  have e3 := FA.c3
  have g0 := FB.c0
  have g1 := FB.c1
  have g2 := FB.c2
  have g3 := FB.c3
  have F1 : Hid (∀ W, Below w.heap.size w W → Calls Tryz.prog 11 #[xv a.op a.n a.nm (.slice p a.args.length cap), .int .i64 60] W (tBool (decide (sz a ≤ 60)) W)) := Lib.hid fun W hb => few_any a _ 60 W _ (by omega) (hx.under hb) hb.size
  have F2 : Hid (∀ W, Below w.heap.size w W → Calls Tryz.prog 11 #[xv b.op b.n b.nm (.slice p' b.args.length cap'), .int .i64 20] W (tBool (decide (sz b ≤ 20)) W)) := Lib.hid fun W hb => few_any b _ 20 W _ (by omega) (hy.under hb) hb.size
  have AW : Hid (∀ W, Below w.heap.size w W → Calls Tryz.prog 12 #[] W (tBool true W)) := Lib.hid fun W hb => awake_any W (ht.later hb)
  by_cases ha : sz a ≤ 60
  · by_cases hb : sz b ≤ 20
    · rw [decide_eq_true ha] at F1
      rw [decide_eq_true hb] at F2
      by_cases hn : nm.size ≤ 40
      · have hz : sz (su nm b a) ≤ 10000 := by
          have h1 := su_sz nm b a
          have h2 : sz a * sz b ≤ 60 * 20 := Nat.mul_le_mul ha hb
          omega
        have hz2 : sz (su nm (.mk 2 0 nm []) a) ≤ 10000 := by
          have h1 := su_sz nm (.mk 2 0 nm []) a
          rw [sz_mk, szs_nil] at h1
          omega
        have S1 : Hid (∀ W, Below w.heap.size w W → Calls Tryz.prog 33 #[xv a.op a.n a.nm (.slice p a.args.length cap), .string nm, xv b.op b.n b.nm (.slice p' b.args.length cap')] W (tFr (su nm b a) W)) := Lib.hid fun W hW => substCode_any a b nm _ W _ _ (hx.under hW) (hy.under hW) hW.size (by omega) (by omega)
        have S2 : Hid (∀ W, Below w.heap.size w W → Calls Tryz.prog 34 #[xv a.op a.n a.nm (.slice p a.args.length cap), .string nm, xv b.op b.n b.nm (.slice p' b.args.length cap')] W (tFo w.heap.size (su nm b a) W)) := Lib.hid fun W hW => substR_any nm b _ _ a W _ (hx.under hW) hW.size (by omega) (hy.under hW)
        have S3 : Hid (∀ W, Below w.heap.size w W → Calls Tryz.prog 33 #[xv a.op a.n a.nm (.slice p a.args.length cap), .string nm, xv 2 0 nm (.slice none 0 0)] W (tFr (su nm (.mk 2 0 nm []) a) W)) := Lib.hid fun W hW => substCode_any a (.mk 2 0 nm []) nm _ W _ _ (hx.under hW) (vrE_at _ _ _ hnm) hW.size (by omega) (by rw [sz_mk, szs_nil]; omega)
        have S4 : Hid (∀ W, Below w.heap.size w W → Calls Tryz.prog 34 #[xv a.op a.n a.nm (.slice p a.args.length cap), .string nm, xv 2 0 nm (.slice none 0 0)] W (tFo w.heap.size (su nm (.mk 2 0 nm []) a) W)) := Lib.hid fun W hW => substR_any nm (.mk 2 0 nm []) _ _ a W _ (hx.under hW) hW.size (by omega) (vrE_at _ _ _ hnm)
        have X1 : Hid (∀ W v u, ExAt W.heap.size W v (su nm b a) → ExAt W.heap.size W u (su nm b a) → Calls Tryz.prog 30 #[v, u] W (tBool true W)) := Lib.hid fun W v u h1 h2 => by
          have := sameR_any (su nm b a) (su nm b a) _ W v u h1 h2 (Nat.le_refl _) hz
          rw [eqB_own] at this
          exact this
        have X2 : Hid (∀ W v u, ExAt W.heap.size W v (su nm (.mk 2 0 nm []) a) → ExAt W.heap.size W u (su nm (.mk 2 0 nm []) a) → Calls Tryz.prog 32 #[v, u] W (tBool true W)) := Lib.hid fun W v u h1 h2 => by
          have := same_any (su nm (.mk 2 0 nm []) a) (su nm (.mk 2 0 nm []) a) _ W v u h1 h2 (Nat.le_refl _) hz2
          rw [eqB_own] at this
          exact this
        clear hx hy ht hb1 FA FB ha hb hz hz2 hnm
        generalize su nm b a = x at *
        generalize su nm (.mk 2 0 nm []) a = y at *
        generalize a.op = ao at *
        generalize a.n = an at *
        generalize a.nm = am at *
        generalize a.args.length = ak at *
        generalize b.op = bo at *
        generalize b.n = bn at *
        generalize b.nm = bm at *
        generalize b.args.length = bk at *
        go_enter Tryz.func7, Tryz.ntmps7
        go_wp2_with (first
          | (go_at_call 11; ((with_reducible refine (F1.out _ HB1.out).mono ?_); rintro e w2 ⟨rfl, hb⟩; have f4 := HFA.out.stay hb; have f5 := HFB.out.stay hb; clear e0 e1 e2 e3 g0 g1 g2 g3; have e0 := f4.c0; have e1 := f4.c1; have e2 := f4.c2; have e3 := f4.c3; have g0 := f5.c0; have g1 := f5.c1; have g2 := f5.c2; have g3 := f5.c3; have HF4 := Lib.hid f4; have HF5 := Lib.hid f5; have HB2 := Lib.hid (HB1.out.then_ hb); clear hb f4 f5))
          | (go_at_call 11; ((with_reducible refine (F2.out _ HB2.out).mono ?_); rintro e w3 ⟨rfl, hb⟩; have f4 := HF4.out.stay hb; have f5 := HF5.out.stay hb; clear e0 e1 e2 e3 g0 g1 g2 g3; have e0 := f4.c0; have e1 := f4.c1; have e2 := f4.c2; have e3 := f4.c3; have g0 := f5.c0; have g1 := f5.c1; have g2 := f5.c2; have g3 := f5.c3; have HF6 := Lib.hid f4; have HF7 := Lib.hid f5; have HB3 := Lib.hid (HB2.out.then_ hb); clear hb f4 f5))
          | (go_at_call 33; ((with_reducible refine (S1.out _ HB3.out).mono ?_); rintro e w4 ⟨v4, rfl, hfr, hb⟩; have hat := hfr.at_; obtain ⟨p4, k4, rfl, _⟩ := ex_valS hfr; have HAT := Lib.hid hat; have HF8 := Lib.hid (HF6.out.stay hb); have HF9 := Lib.hid (HF7.out.stay hb); have HB4 := Lib.hid (HB3.out.then_ hb); clear hb hfr hat e0 e1 e2 e3 g0 g1 g2 g3)))
        have hb5 : Below w4.heap.size w4 (w4.alloc (.cells #[.int .i64 x.op, .int .i64 x.n, .string x.nm, .slice p4 x.args.length k4] 24)) := (Below.refl _ _).alloc (Nat.le_refl _) _
        have FX := Four.new w4 (.int .i64 x.op) (.int .i64 x.n) (.string x.nm) (.slice p4 x.args.length k4) 24
        have FE := HF8.out.stay hb5
        have FY := HF9.out.stay hb5
        have HX5 := HAT.out.later hb5
        have HB5 := Lib.hid (HB4.out.then_ hb5)
        generalize w4.alloc (.cells #[.int .i64 x.op, .int .i64 x.n, .string x.nm, .slice p4 x.args.length k4] 24) = w5 at *
        obtain ⟨CZ, hCZ⟩ : ∃ CZ, CZ = CelZ w5 w.heap.size ao an am (.slice p ak cap) (w.heap.size + 1) bo bn bm (.slice p' bk cap') w4.heap.size x.op x.n x.nm (.slice p4 x.args.length k4) := ⟨_, rfl⟩
        have MK : Hid (∀ W, Below w5.heap.size w5 W → CZ W) := Lib.hid fun W h => by rw [hCZ]; exact CelZ.mk' FE FY FX h
        have LW : ∀ {W}, CZ W → Below w5.heap.size w5 W := fun {W} h => by rw [hCZ] at h; exact h.low
        have up : ∀ {W}, CZ W → Below w.heap.size w W := fun {W} h => HB5.out.then_ (LW h)
        have Y1 : Hid (∀ W, CZ W → Calls Tryz.prog 34 #[xv ao an am (.slice p ak cap), .string nm, xv bo bn bm (.slice p' bk cap')] W fun e w' => ∃ v, e = .returned v ∧ CZ w' ∧ Hid (ExAt w'.heap.size w' v x)) := Lib.hid fun W h => (S2.out W (up h)).mono fun e w' ⟨v, h1, h2, h3⟩ => ⟨v, h1, MK.out _ ((LW h).then_ h3), Lib.hid (tFo.at_ h2 (by have := (up h).size; have := h3.size; omega))⟩
        have Y2 : Hid (∀ W u, Hid (ExAt W.heap.size W u x) → CZ W → Calls Tryz.prog 30 #[xv x.op x.n x.nm (.slice p4 x.args.length k4), u] W fun e w' => e = .returned (.bool true) ∧ CZ w') := Lib.hid fun W u hu h => (X1.out W _ u (HX5.later (LW h)) hu.out).mono fun e w' ⟨h1, h3⟩ => ⟨h1, MK.out _ ((LW h).then_ h3)⟩
        have Y3 : Hid (∀ W, CZ W → Calls Tryz.prog 35 #[.string nm] W fun e w' => e = .returned (xv 2 0 nm (.slice none 0 0)) ∧ CZ w' ∧ Hid (Below W.heap.size W w')) := Lib.hid fun W h => (variableL_any nm W).mono fun e w' ⟨h1, h3⟩ => ⟨h1, MK.out _ ((LW h).then_ h3), Lib.hid h3⟩
        have Y4 : Hid (∀ W, CZ W → Calls Tryz.prog 33 #[xv ao an am (.slice p ak cap), .string nm, xv 2 0 nm (.slice none 0 0)] W fun e w' => ∃ v, e = .returned v ∧ CZ w' ∧ Hid (ExAt w'.heap.size w' v y)) := Lib.hid fun W h => (S3.out W (up h)).mono fun e w' ⟨v, h1, h2, h3⟩ => ⟨v, h1, MK.out _ ((LW h).then_ h3), Lib.hid h2.at_⟩
        have Y5 : Hid (∀ W, CZ W → Calls Tryz.prog 34 #[xv ao an am (.slice p ak cap), .string nm, xv 2 0 nm (.slice none 0 0)] W fun e w' => ∃ v, e = .returned v ∧ CZ w' ∧ Hid (ExAt w'.heap.size w' v y) ∧ Hid (Below W.heap.size W w')) := Lib.hid fun W h => (S4.out W (up h)).mono fun e w' ⟨v, h1, h2, h3⟩ => ⟨v, h1, MK.out _ ((LW h).then_ h3), Lib.hid (tFo.at_ h2 (by have := (up h).size; have := h3.size; omega)), Lib.hid h3⟩
        have Y6 : Hid (∀ (W0 W1 W : World) v u, Hid (ExAt W0.heap.size W0 v y) → Hid (Below W0.heap.size W0 W1) → Hid (Below W1.heap.size W1 W) → Hid (ExAt W.heap.size W u y) → CZ W → Calls Tryz.prog 32 #[v, u] W fun e w' => e = .returned (.bool true) ∧ CZ w') := Lib.hid fun W0 W1 W v u h0 h1 h2 hu h => (X2.out W v u (h0.out.later (h1.out.then_ h2.out)) hu.out).mono fun e w' ⟨h1, h3⟩ => ⟨h1, MK.out _ ((LW h).then_ h3)⟩
        have Y7 : Hid (∀ W, CZ W → Calls Tryz.prog 12 #[] W fun e w' => e = .returned (.bool true) ∧ CZ w') := Lib.hid fun W h => (AW.out W (up h)).mono fun e w' ⟨h1, h2⟩ => ⟨h1, MK.out _ ((LW h).then_ h2)⟩
        subst hCZ
        clear up LW FX FE FY HX5 hb5 S1 S2 S3 S4 X1 X2 F1 F2 HFA HFB HF4 HF5 HF6 HF7 HF8 HF9 HAT AW
        go_region_held3 (fun w' => w'.cell? ⟨w.heap.size, 0, none⟩ = some (.int .i64 ao) ∧ w'.cell? ⟨w.heap.size, 1, none⟩ = some (.int .i64 an) ∧ w'.cell? ⟨w.heap.size, 2, none⟩ = some (.string am) ∧ w'.cell? ⟨w.heap.size, 3, none⟩ = some (.slice p ak cap) ∧ w'.cell? ⟨w.heap.size + 1, 0, none⟩ = some (.int .i64 bo) ∧ w'.cell? ⟨w.heap.size + 1, 1, none⟩ = some (.int .i64 bn) ∧ w'.cell? ⟨w.heap.size + 1, 2, none⟩ = some (.string bm) ∧ w'.cell? ⟨w.heap.size + 1, 3, none⟩ = some (.slice p' bk cap') ∧ w'.cell? ⟨w4.heap.size, 0, none⟩ = some (.int .i64 x.op) ∧ w'.cell? ⟨w4.heap.size, 1, none⟩ = some (.int .i64 x.n) ∧ w'.cell? ⟨w4.heap.size, 2, none⟩ = some (.string x.nm) ∧ w'.cell? ⟨w4.heap.size, 3, none⟩ = some (.slice p4 x.args.length k4) ∧ Below w5.heap.size w5 w') (first | assumption | exact MK.out _ (Below.refl _ _).drew | fail)
          (first
            | (go_at_call 34; (with_reducible refine (Y1.out _ ?_).mono ?_); (first | assumption | exact MK.out _ (Below.refl _ _).drew); rintro e w6 ⟨v6, rfl, hg6, hs6⟩)
            | (go_at_call 30; (with_reducible refine (Y2.out _ _ hs6 ?_).mono ?_); assumption; rintro e w7 ⟨rfl, hg7⟩)
            | (go_at_call 35; (with_reducible refine (Y3.out _ ?_).mono ?_); assumption; rintro e w8 ⟨rfl, hg8, hb8⟩)
            | (go_at_call 33; (with_reducible refine (Y4.out _ ?_).mono ?_); assumption; rintro e w9 ⟨v9, rfl, hg9, hs9⟩)
            | (go_at_call 34; (with_reducible refine (Y5.out _ ?_).mono ?_); assumption; rintro e w10 ⟨v10, rfl, hg10, hs10, hb10⟩)
            | (go_at_call 32; (with_reducible refine (Y6.out _ _ _ _ _ hs9 hb8 hb10 hs10 ?_).mono ?_); assumption; rintro e w11 ⟨rfl, hg11⟩)
            | (go_at_call 12; (with_reducible refine (Y7.out _ ?_).mono ?_); assumption; rintro e w12 ⟨rfl, hg12⟩))
        go_wp2
        go_ret
        exact ⟨rfl, HB5.out.then_ hg12.low⟩
      · have hn' : (40 : Int) < nm.size := by omega
        clear hx hy ht hb1 FA FB ha hb hn hnm
        generalize a.op = ao at *
        generalize a.n = an at *
        generalize a.nm = am at *
        generalize a.args.length = ak at *
        generalize b.op = bo at *
        generalize b.n = bn at *
        generalize b.nm = bm at *
        generalize b.args.length = bk at *
        go_enter Tryz.func7, Tryz.ntmps7
        go_wp2_with (first
          | (go_at_call 11; ((with_reducible refine (F1.out _ HB1.out).mono ?_); rintro e w2 ⟨rfl, hb⟩; have f5 := HFB.out.stay hb; clear e0 e1 e2 e3 g0 g1 g2 g3; have g0 := f5.c0; have g1 := f5.c1; have g2 := f5.c2; have g3 := f5.c3; have HB2 := Lib.hid (HB1.out.then_ hb); clear hb f5))
          | (go_at_call 11; ((with_reducible refine (F2.out _ HB2.out).mono ?_); rintro e w3 ⟨rfl, hb⟩; have HB3 := Lib.hid (HB2.out.then_ hb); clear hb))
          | (go_at_call 12; ((with_reducible refine (AW.out _ HB3.out).mono ?_); rintro e w4 ⟨rfl, hb⟩; have HB4 := Lib.hid (HB3.out.then_ hb); clear hb)))
        go_ret
        exact ⟨rfl, HB4.out⟩
    · rw [decide_eq_true ha] at F1
      rw [decide_eq_false hb] at F2
      clear hx hy ht hb1 FA FB ha hb hnm
      generalize a.op = ao at *
      generalize a.n = an at *
      generalize a.nm = am at *
      generalize a.args.length = ak at *
      generalize b.op = bo at *
      generalize b.n = bn at *
      generalize b.nm = bm at *
      generalize b.args.length = bk at *
      go_enter Tryz.func7, Tryz.ntmps7
      go_wp2_with (first
        | (go_at_call 11; ((with_reducible refine (F1.out _ HB1.out).mono ?_); rintro e w2 ⟨rfl, hb⟩; have f5 := HFB.out.stay hb; clear e0 e1 e2 e3 g0 g1 g2 g3; have g0 := f5.c0; have g1 := f5.c1; have g2 := f5.c2; have g3 := f5.c3; have HB2 := Lib.hid (HB1.out.then_ hb); clear hb f5))
        | (go_at_call 11; ((with_reducible refine (F2.out _ HB2.out).mono ?_); rintro e w3 ⟨rfl, hb⟩; have HB3 := Lib.hid (HB2.out.then_ hb); clear hb))
        | (go_at_call 12; ((with_reducible refine (AW.out _ HB3.out).mono ?_); rintro e w4 ⟨rfl, hb⟩; have HB4 := Lib.hid (HB3.out.then_ hb); clear hb)))
      go_ret
      exact ⟨rfl, HB4.out⟩
  · rw [decide_eq_false ha] at F1
    clear hx hy ht hb1 FA FB ha F2 hnm
    generalize a.op = ao at *
    generalize a.n = an at *
    generalize a.nm = am at *
    generalize a.args.length = ak at *
    generalize b.op = bo at *
    generalize b.n = bn at *
    generalize b.nm = bm at *
    generalize b.args.length = bk at *
    go_enter Tryz.func7, Tryz.ntmps7
    go_wp2_with (first
      | (go_at_call 11; ((with_reducible refine (F1.out _ HB1.out).mono ?_); rintro e w2 ⟨rfl, hb⟩; have HB2 := Lib.hid (HB1.out.then_ hb); clear hb))
      | (go_at_call 12; ((with_reducible refine (AW.out _ HB2.out).mono ?_); rintro e w4 ⟨rfl, hb⟩; have HB4 := Lib.hid (HB2.out.then_ hb); clear hb)))
    go_ret
    exact ⟨rfl, HB4.out⟩
end Go.Proofs.YtdiackcefojfkaaGreatDoor.ExW
