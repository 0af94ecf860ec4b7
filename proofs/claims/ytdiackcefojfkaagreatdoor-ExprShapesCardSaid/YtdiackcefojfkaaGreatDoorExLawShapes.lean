/-
  The walk of ExprShapes.
-/
import Derived.Test.YtdiackcefojfkaaGreatDoorExShapeR
import Derived.Test.YtdiackcefojfkaaGreatDoorExAwakeW
import Derived.Deep.RegionHeld3
namespace Go.Proofs.YtdiackcefojfkaaGreatDoor.ExW
open Go Go.RowKit Go.Proofs.YtdiackcefojfkaaGreatDoor.NumM Go.Proofs.YtdiackcefojfkaaGreatDoor.LexW Go.Proofs.YtdiackcefojfkaaGreatDoor.LexM Go.Proofs.YtdiackcefojfkaaGreatDoor.ExM
open Go.«Sort»

/-- The argument's box as it was, and nothing that was there has changed since w2. -/
def Cel (w2 : World) (b : Nat) (o n : Int) (s : ByteArray) (x : Value) (W : World) : Prop :=
  W.cell? ⟨b, 0, none⟩ = some (.int .i64 o) ∧ W.cell? ⟨b, 1, none⟩ = some (.int .i64 n) ∧ W.cell? ⟨b, 2, none⟩ = some (.string s) ∧ W.cell? ⟨b, 3, none⟩ = some x ∧ Below w2.heap.size w2 W
theorem Cel.low {w2 : World} {b : Nat} {o n : Int} {s : ByteArray} {x : Value} {W : World} (h : Cel w2 b o n s x W) : Below w2.heap.size w2 W := h.2.2.2.2
theorem Cel.mk' {w2 : World} {b : Nat} {o n : Int} {s : ByteArray} {x : Value} (f : Four w2 b (.int .i64 o) (.int .i64 n) (.string s) x) {W : World} (h : Below w2.heap.size w2 W) : Cel w2 b o n s x W := by
  have g := f.stay h
  exact ⟨g.c0, g.c1, g.c2, g.c3, h⟩
set_option maxRecDepth 100000 in
set_option maxHeartbeats 16000000 in
theorem exprShapes_any (a : Ex) (va : Value) (op : Int) (w : World) (hx : ExAt w.heap.size w va a) (ht : Tab w) : Calls Tryz.prog 3 #[va, .int .i64 op] w (fun e w' => e = .returned (.bool true) ∧ Below w.heap.size w w') := by
  obtain ⟨p, cap, pl, cl, rfl, _, _⟩ := hx.form
  have hb1 : Below w.heap.size w (w.alloc (.cells #[.int .i64 a.op, .int .i64 a.n, .string a.nm, .slice p a.args.length cap] 24)) := (Below.refl _ _).alloc (Nat.le_refl _) _
  have FA := Four.new w (.int .i64 a.op) (.int .i64 a.n) (.string a.nm) (.slice p a.args.length cap) 24
  have HB1 := Lib.hid hb1
  have HFA := Lib.hid FA
  have e0 := FA.c0
  have e1 := FA.c1
  have e2 := FA.c2
  have e3 := FA.c3
  have F1 : Hid (∀ W, Below w.heap.size w W → Calls Tryz.prog 11 #[xv a.op a.n a.nm (.slice p a.args.length cap), .int .i64 450] W (tBool (decide (sz a ≤ 450)) W)) := Lib.hid fun W hb => few_any a _ 450 W _ (by omega) (hx.under hb) hb.size
  have AW : Hid (∀ W, Below w.heap.size w W → Calls Tryz.prog 12 #[] W (tBool true W)) := Lib.hid fun W hb => awake_any W (ht.later hb)
  by_cases ha : sz a ≤ 450
  · have hd := dep_sz a
    have hn1 : (namesL isVr (pre 1 a)).length ≤ 100000 := by have := names_len isVr (pre 1 a); rw [pre_len] at this; omega
    have hn2 : (namesL isAr (pre 1 a)).length ≤ 100000 := by have := names_len isAr (pre 1 a); rw [pre_len] at this; omega
    have Z1 : Hid (∀ W, Below w.heap.size w W → Calls Tryz.prog 15 #[xv a.op a.n a.nm (.slice p a.args.length cap)] W (tInt (sz a) W)) := Lib.hid fun W hW => size_any a _ W ((hx.under hW).wide hW.size) (by omega)
    have Z2 : Hid (∀ W, Below w.heap.size w W → Calls Tryz.prog 16 #[xv a.op a.n a.nm (.slice p a.args.length cap)] W (tInt (sz a) W)) := Lib.hid fun W hW => sizeR_any a _ W ((hx.under hW).wide hW.size) (by omega)
    have D1 : Hid (∀ W, Below w.heap.size w W → Calls Tryz.prog 17 #[xv a.op a.n a.nm (.slice p a.args.length cap)] W (tInt (dep a) W)) := Lib.hid fun W hW => depth_any a _ W ((hx.under hW).wide hW.size) (by omega)
    have D2 : Hid (∀ W, Below w.heap.size w W → Calls Tryz.prog 18 #[xv a.op a.n a.nm (.slice p a.args.length cap)] W (tInt (dep a) W)) := Lib.hid fun W hW => depthR_any a _ W ((hx.under hW).wide hW.size) (by omega)
    have N1 : Hid (∀ W, Below w.heap.size w W → Calls Tryz.prog 20 #[xv a.op a.n a.nm (.slice p a.args.length cap)] W (tNms (namesL isVr (pre 1 a)) W)) := Lib.hid fun W hW => names_any a _ W ((hx.under hW).wide hW.size) (by omega)
    have N2 : Hid (∀ W, Below w.heap.size w W → Calls Tryz.prog 21 #[xv a.op a.n a.nm (.slice p a.args.length cap)] W (tNms (namesL isVr (pre 1 a)) W)) := Lib.hid fun W hW => namesR_any a _ W ((hx.under hW).wide hW.size) (by omega)
    have R1 : Hid (∀ W, Below w.heap.size w W → Calls Tryz.prog 22 #[xv a.op a.n a.nm (.slice p a.args.length cap)] W (tNms (namesL isAr (pre 1 a)) W)) := Lib.hid fun W hW => arrays_any a _ W ((hx.under hW).wide hW.size) (by omega)
    have R2 : Hid (∀ W, Below w.heap.size w W → Calls Tryz.prog 23 #[xv a.op a.n a.nm (.slice p a.args.length cap)] W (tNms (namesL isAr (pre 1 a)) W)) := Lib.hid fun W hW => arraysR_any a _ W ((hx.under hW).wide hW.size) (by omega)
    rw [decide_eq_true ha] at F1
    clear hx ht hb1 FA ha hd
    generalize namesL isVr (pre 1 a) = L1 at *
    generalize namesL isAr (pre 1 a) = L2 at *
    have HN1 := Lib.hid hn1
    have HN2 := Lib.hid hn2
    clear hn1 hn2
    generalize dep a = D at *
    generalize sz a = Z at *
    generalize a.op = ao at *
    generalize a.n = an at *
    generalize a.nm = am at *
    generalize a.args.length = ak at *
    go_enter Tryz.func3, Tryz.ntmps3
    go_wp2_with (go_at_call 11; ((with_reducible refine (F1.out _ HB1.out).mono ?_); rintro e w2 ⟨rfl, hb⟩; have f4 := Lib.hid (HFA.out.stay hb); clear e0 e1 e2 e3; have HB2 := Lib.hid (HB1.out.then_ hb); clear hb))
    have MK : Hid (∀ W, Below w2.heap.size w2 W → Cel w2 w.heap.size ao an am (.slice p ak cap) W) := Lib.hid fun W h => Cel.mk' f4.out h
    have A1 : Hid (∀ o W, Cel w2 w.heap.size ao an am (.slice p ak cap) W → Calls Tryz.prog 13 #[.int .i64 o] W fun e w' => e = .returned (.int .i64 (arS o)) ∧ Cel w2 w.heap.size ao an am (.slice p ak cap) w') := Lib.hid fun o W h => (arity_any o W).mono fun e w' ⟨h1, h2⟩ => ⟨h1, h2 ▸ h⟩
    have A2 : Hid (∀ o W, Cel w2 w.heap.size ao an am (.slice p ak cap) W → Calls Tryz.prog 14 #[.int .i64 o] W fun e w' => e = .returned (.int .i64 (arS o)) ∧ Cel w2 w.heap.size ao an am (.slice p ak cap) w') := Lib.hid fun o W h => (arityR_any o W).mono fun e w' ⟨h1, h2⟩ => ⟨h1, h2 ▸ h⟩
    have up : ∀ {W}, Cel w2 w.heap.size ao an am (.slice p ak cap) W → Below w.heap.size w W := fun {W} h => HB2.out.then_ h.low
    have Y1 : Hid (∀ W, Cel w2 w.heap.size ao an am (.slice p ak cap) W → Calls Tryz.prog 15 #[xv ao an am (.slice p ak cap)] W fun e w' => e = .returned (.int .i64 (Z : Int)) ∧ Cel w2 w.heap.size ao an am (.slice p ak cap) w') := Lib.hid fun W h => (Z1.out W (up h)).mono fun e w' ⟨h1, h2⟩ => ⟨h1, MK.out _ (h.low.then_ h2)⟩
    have Y2 : Hid (∀ W, Cel w2 w.heap.size ao an am (.slice p ak cap) W → Calls Tryz.prog 16 #[xv ao an am (.slice p ak cap)] W fun e w' => e = .returned (.int .i64 (Z : Int)) ∧ Cel w2 w.heap.size ao an am (.slice p ak cap) w') := Lib.hid fun W h => (Z2.out W (up h)).mono fun e w' ⟨h1, h2⟩ => ⟨h1, MK.out _ (h.low.then_ h2)⟩
    have Y3 : Hid (∀ W, Cel w2 w.heap.size ao an am (.slice p ak cap) W → Calls Tryz.prog 17 #[xv ao an am (.slice p ak cap)] W fun e w' => e = .returned (.int .i64 (D : Int)) ∧ Cel w2 w.heap.size ao an am (.slice p ak cap) w') := Lib.hid fun W h => (D1.out W (up h)).mono fun e w' ⟨h1, h2⟩ => ⟨h1, MK.out _ (h.low.then_ h2)⟩
    have Y4 : Hid (∀ W, Cel w2 w.heap.size ao an am (.slice p ak cap) W → Calls Tryz.prog 18 #[xv ao an am (.slice p ak cap)] W fun e w' => e = .returned (.int .i64 (D : Int)) ∧ Cel w2 w.heap.size ao an am (.slice p ak cap) w') := Lib.hid fun W h => (D2.out W (up h)).mono fun e w' ⟨h1, h2⟩ => ⟨h1, MK.out _ (h.low.then_ h2)⟩
    have M1 : Hid (∀ W, Cel w2 w.heap.size ao an am (.slice p ak cap) W → Calls Tryz.prog 20 #[xv ao an am (.slice p ak cap)] W fun e w' => ∃ v, e = .returned v ∧ Cel w2 w.heap.size ao an am (.slice p ak cap) w' ∧ Hid (StrsA w' v L1) ∧ Hid (Below W.heap.size W w')) := Lib.hid fun W h => (N1.out W (up h)).mono fun e w' ⟨v, h1, h2, h3⟩ => ⟨v, h1, MK.out _ (h.low.then_ h3), Lib.hid (strs_own h2), Lib.hid h3⟩
    have M2 : Hid (∀ W, Cel w2 w.heap.size ao an am (.slice p ak cap) W → Calls Tryz.prog 21 #[xv ao an am (.slice p ak cap)] W fun e w' => ∃ v, e = .returned v ∧ Cel w2 w.heap.size ao an am (.slice p ak cap) w' ∧ Hid (StrsA w' v L1) ∧ Hid (Below W.heap.size W w')) := Lib.hid fun W h => (N2.out W (up h)).mono fun e w' ⟨v, h1, h2, h3⟩ => ⟨v, h1, MK.out _ (h.low.then_ h3), Lib.hid (strs_own h2), Lib.hid h3⟩
    have M3 : Hid (∀ W, Cel w2 w.heap.size ao an am (.slice p ak cap) W → Calls Tryz.prog 22 #[xv ao an am (.slice p ak cap)] W fun e w' => ∃ v, e = .returned v ∧ Cel w2 w.heap.size ao an am (.slice p ak cap) w' ∧ Hid (StrsA w' v L2) ∧ Hid (Below W.heap.size W w')) := Lib.hid fun W h => (R1.out W (up h)).mono fun e w' ⟨v, h1, h2, h3⟩ => ⟨v, h1, MK.out _ (h.low.then_ h3), Lib.hid (strs_own h2), Lib.hid h3⟩
    have M4 : Hid (∀ W, Cel w2 w.heap.size ao an am (.slice p ak cap) W → Calls Tryz.prog 23 #[xv ao an am (.slice p ak cap)] W fun e w' => ∃ v, e = .returned v ∧ Cel w2 w.heap.size ao an am (.slice p ak cap) w' ∧ Hid (StrsA w' v L2) ∧ Hid (Below W.heap.size W w')) := Lib.hid fun W h => (R2.out W (up h)).mono fun e w' ⟨v, h1, h2, h3⟩ => ⟨v, h1, MK.out _ (h.low.then_ h3), Lib.hid (strs_own h2), Lib.hid h3⟩
    have TX : Hid (∀ L (W0 W : World) v1 v2, Hid (StrsA W0 v1 L) → Hid (StrsA W v2 L) → Hid (Below W0.heap.size W0 W) → Hid (L.length ≤ 100000) → Cel w2 w.heap.size ao an am (.slice p ak cap) W → Calls Tryz.prog 19 #[v1, v2] W fun e w' => e = .returned (.bool true) ∧ Cel w2 w.heap.size ao an am (.slice p ak cap) w') := Lib.hid fun L W0 W v1 v2 h1 h2 h3 h4 h => (texts_any L v1 v2 W (h1.out.later h3.out) h2.out h4.out).mono fun e w' ⟨g1, g2⟩ => ⟨g1, MK.out _ (h.low.then_ g2)⟩
    have AW2 : Hid (∀ W, Cel w2 w.heap.size ao an am (.slice p ak cap) W → Calls Tryz.prog 12 #[] W fun e w' => e = .returned (.bool true) ∧ Cel w2 w.heap.size ao an am (.slice p ak cap) w') := Lib.hid fun W h => (AW.out W (up h)).mono fun e w' ⟨h1, h2⟩ => ⟨h1, MK.out _ (h.low.then_ h2)⟩
    clear up AW Z1 Z2 D1 D2 N1 N2 R1 R2 F1 HFA
    go_region_held3 (fun w' => w'.cell? ⟨w.heap.size, 0, none⟩ = some (.int .i64 ao) ∧ w'.cell? ⟨w.heap.size, 1, none⟩ = some (.int .i64 an) ∧ w'.cell? ⟨w.heap.size, 2, none⟩ = some (.string am) ∧ w'.cell? ⟨w.heap.size, 3, none⟩ = some (.slice p ak cap) ∧ Below w2.heap.size w2 w') (first | assumption | exact MK.out _ (Below.refl _ _).drew | fail)
      (first
        | (go_at_call 13; (with_reducible refine (A1.out _ _ ?_).mono ?_); (first | assumption | exact MK.out _ (Below.refl _ _).drew); rintro e w3 ⟨rfl, hg3⟩)
        | (go_at_call 14; (with_reducible refine (A2.out _ _ ?_).mono ?_); assumption; rintro e w3 ⟨rfl, hg3⟩)
        | (go_at_call 15; (with_reducible refine (Y1.out _ ?_).mono ?_); assumption; rintro e w3 ⟨rfl, hg3⟩)
        | (go_at_call 16; (with_reducible refine (Y2.out _ ?_).mono ?_); assumption; rintro e w3 ⟨rfl, hg3⟩)
        | (go_at_call 17; (with_reducible refine (Y3.out _ ?_).mono ?_); assumption; rintro e w3 ⟨rfl, hg3⟩)
        | (go_at_call 18; (with_reducible refine (Y4.out _ ?_).mono ?_); assumption; rintro e w3 ⟨rfl, hg3⟩)
        | (go_at_call 20; (with_reducible refine (M1.out _ ?_).mono ?_); assumption; rintro e w4 ⟨v4, rfl, hg4, hs4, hb4⟩)
        | (go_at_call 21; (with_reducible refine (M2.out _ ?_).mono ?_); assumption; rintro e w5 ⟨v5, rfl, hg5, hs5, hb5⟩)
        | (go_at_call 22; (with_reducible refine (M3.out _ ?_).mono ?_); assumption; rintro e w6 ⟨v6, rfl, hg6, hs6, hb6⟩)
        | (go_at_call 23; (with_reducible refine (M4.out _ ?_).mono ?_); assumption; rintro e w7 ⟨v7, rfl, hg7, hs7, hb7⟩)
        | (go_at_call 19; (with_reducible refine (TX.out _ _ _ _ _ hs4 hs5 hb5 HN1 ?_).mono ?_); assumption; rintro e w8 ⟨rfl, hg8⟩)
        | (go_at_call 19; (with_reducible refine (TX.out _ _ _ _ _ hs6 hs7 hb7 HN2 ?_).mono ?_); assumption; rintro e w9 ⟨rfl, hg9⟩)
        | (go_at_call 12; (with_reducible refine (AW2.out _ ?_).mono ?_); assumption; rintro e w10 ⟨rfl, hg10⟩))
    go_wp2
    go_ret
    exact ⟨rfl, HB2.out.then_ hg10.low⟩
  · rw [decide_eq_false ha] at F1
    clear hx ht hb1 FA ha
    generalize a.op = ao at *
    generalize a.n = an at *
    generalize a.nm = am at *
    generalize a.args.length = ak at *
    go_enter Tryz.func3, Tryz.ntmps3
    go_wp2_with (first
      | (go_at_call 11; ((with_reducible refine (F1.out _ HB1.out).mono ?_); rintro e w2 ⟨rfl, hb⟩; have HB2 := Lib.hid (HB1.out.then_ hb); clear hb))
      | (go_at_call 12; ((with_reducible refine (AW.out _ HB2.out).mono ?_); rintro e w4 ⟨rfl, hb⟩; have HB4 := Lib.hid (HB2.out.then_ hb); clear hb)))
    go_ret
    exact ⟨rfl, HB4.out⟩
end Go.Proofs.YtdiackcefojfkaaGreatDoor.ExW
