/-
  The parser's recursive methods: named put together; joined.
  The parser's recursive methods: the row of operands that ranged builds; how far the parser is.
  The parser's recursive methods: ranged.
  The parser's recursive methods: operation.
-/
import Derived.Test.YtlnomiiphlbamaaGreatDoorEtRec4
import Derived.Deep.AppendLies
import Derived.Laws.OwnMore
import Derived.Deep.RegionLaw
namespace Go.Proofs.YtlnomiiphlbamaaGreatDoor.EtW
open Go Go.RowKit Go.Proofs.YtlnomiiphlbamaaGreatDoor.NumM Go.Proofs.YtlnomiiphlbamaaGreatDoor.LexW Go.Proofs.YtlnomiiphlbamaaGreatDoor.LexM Go.Proofs.YtlnomiiphlbamaaGreatDoor.ExM Go.Proofs.YtlnomiiphlbamaaGreatDoor.ExW Go.Proofs.YtlnomiiphlbamaaGreatDoor.EtM

theorem flt_bad (l : List Tk) : flt l = .bad (fErr l) l.length := rfl
theorem named_any {L : List Tk} {sl : Value} {w0 : World} (hc : Cx L sl w0) (f : Nat) (IC : Ct L sl w0 f .ch 24 #[pp w0]) (s : List UInt8) (hs : s.length ≤ 16384) :
    Ct L sl w0 (f + 1) (.nm s) 127 #[pp w0, .string (bs s)] := by
  intro r w h hne
  rw [run] at hne ⊢
  by_cases g : s = sumW ∧ tx r = [40]
  · rw [if_pos g]
    unfold nameR
    by_cases k1 : kd r.tail = 1
    · rw [if_pos k1]
      show Calls _ _ _ _ (tRs L sl w0 (need [41] r.tail.tail _) w)
      unfold need
      by_cases q2 : tx r.tail.tail = [41]
      · rw [if_pos q2]
        exact nm_sum hc hs h g.1 g.2 k1 q2
      · rw [if_neg q2]
        exact nm_sum2 hc hs h g.1 g.2 k1 q2
    · rw [if_neg k1]
      exact nm_sum1 hc hs h g.1 g.2 k1
  rw [if_neg g] at hne ⊢
  by_cases g' : s = onesW ∧ tx r = [40]
  · rw [if_pos g'] at hne ⊢
    rcases h1 : run f .ch r.tail with ⟨x, r1⟩ | ⟨er, k⟩ | _
    · rw [bok]
      unfold need
      by_cases q2 : tx r1 = [41]
      · rw [if_pos q2]
        exact nm_ones hc hs h f IC g'.1 g'.2 h1 q2
      · rw [if_neg q2]
        exact nm_ones2 hc hs h f IC g'.1 g'.2 h1 q2
    · exact nm_ones1 hc hs h f IC g'.1 g'.2 h1
    · rw [h1] at hne; exact absurd rfl hne
  rw [if_neg g'] at hne ⊢
  by_cases q91 : tx r = [91]
  · rw [if_pos q91] at hne ⊢
    rcases h1 : run f .ch r.tail with ⟨x, r1⟩ | ⟨er, k⟩ | _
    · rw [bok]
      unfold need
      by_cases q2 : tx r1 = [93]
      · rw [if_pos q2]
        exact nm_elm hc hs h f IC g g' q91 h1 q2
      · rw [if_neg q2]
        exact nm_elm2 hc hs h f IC g g' q91 h1 q2
    · exact nm_elm1 hc hs h f IC g g' q91 h1
    · rw [h1] at hne; exact absurd rfl hne
  rw [if_neg q91] at hne ⊢
  by_cases q64 : tx r = [64]
  · rw [if_pos q64]
    unfold numR
    by_cases k1 : kd r.tail = 3
    · rw [if_pos k1]
      by_cases k2 : 65535 < nmr r.tail
      · rw [if_pos k2]
        exact nm_at2 hc hs h g g' q91 q64 k1 k2
      · rw [if_neg k2]
        exact nm_at hc hs h g g' q91 q64 k1 (by omega)
    · rw [if_neg k1]
      exact nm_at1 hc hs h g g' q91 q64 k1
  · rw [if_neg q64]
    exact nm_var hc hs h g g' q91 q64
/-- What the call of joined does: e, which lies in blocks of P, is the left operand. -/
def CtJ (L : List Tk) (sl : Value) (w0 : World) (f : Nat) : Prop :=
  ∀ (r : List Tk) (w : World) (P : Nat → Prop) (M : ByteArray) (k op : Int) (sw : Bool) (o n : Int) (s : ByteArray) (p : Option Addr) (c1 c2 : Nat) (x : Ex), In L sl w0 r w → 2 ≤ k → k ≤ 12 → (∀ b, P b → b < w.heap.size ∧ w0.heap.size < b) → ExS P w (xv o n s (.slice p c1 c2)) x → run f (.jn k op sw x) r ≠ .out →
    Calls Tryz.prog 89 #[pp w0, .agg #[.string M, .int .i64 k, .int .i64 op, .bool sw], xv o n s (.slice p c1 c2)] w (tRsP L sl w0 (run f (.jn k op sw x) r) P w)
theorem node2S {S : Nat → Prop} {w : World} {g : Nat} {o : Int} {a b : Ex} {oa na ob nb : Int} {sa sb : ByteArray} {pa pb : Option Addr} {ka ca kb cb : Nat} (ha : ExS S w (xv oa na sa (.slice pa ka ca)) a) (hb : ExS S w (xv ob nb sb (.slice pb kb cb)) b) (hg : S g)
    (hq : ∀ j, w.cell? ⟨g, j, none⟩ = (#[.int .i64 oa, .int .i64 na, .string sa, .slice pa ka ca, .int .i64 ob, .int .i64 nb, .string sb, .slice pb kb cb] : Array Value)[j]?) : ExS S w (xv o 0 ⟨#[]⟩ (.slice (some ⟨g, 0, none⟩) 2 2)) (nod o [a, b]) := by
  obtain ⟨rfl, rfl, rfl, rfl⟩ := ex_parts ha
  obtain ⟨rfl, rfl, rfl, rfl⟩ := ex_parts hb
  refine node_new (w := w) [a, b] (fun i => match i with | 0 => pa | _ => pb) (fun i => match i with | 0 => ca | _ => cb) hg (by simp) (fun i x hi => ?_) (fun i x hi => ?_)
  · match i, hi with
    | 0, hi => cases hi; exact ⟨hq 0, hq 1, hq 2, hq 3⟩
    | 1, hi => cases hi; exact ⟨hq 4, hq 5, hq 6, hq 7⟩
    | i + 2, hi => simp at hi
  · match i, hi with
    | 0, hi => cases hi; exact ha
    | 1, hi => cases hi; exact hb
    | i + 2, hi => simp at hi
set_option maxRecDepth 100000 in
set_option maxHeartbeats 16000000 in
theorem joined_any {L : List Tk} {sl : Value} {w0 : World} (f : Nat) (IO : ∀ lv : Int, Ct L sl w0 f (.op lv) 47 #[pp w0, .int .i64 lv]) : CtJ L sl w0 (f + 1) := by
  intro r w P M k op sw o n s p c1 c2 x h hk0 hk1 hP hx hne
  rw [run] at hne ⊢
  have lt := h.lt
  have hA := ((h.alloc (.cells #[.string M, .int .i64 k, .int .i64 op, .bool sw] 90)).alloc (.cells #[.int .i64 o, .int .i64 n, .string s, .slice p c1 c2] 24)).alloc (.cells #[.int .i64 0, .int .i64 0, .string ⟨#[]⟩, .slice none 0 0] 24)
  have HTA : Hid (Tn w0 w (((w.alloc (.cells #[.string M, .int .i64 k, .int .i64 op, .bool sw] 90)).alloc (.cells #[.int .i64 o, .int .i64 n, .string s, .slice p c1 c2] 24)).alloc (.cells #[.int .i64 0, .int .i64 0, .string ⟨#[]⟩, .slice none 0 0] 24))) := Lib.hid (((tn_alloc _ _ _).then_ (tn_alloc _ _ _)).then_ (tn_alloc _ _ _))
  have B0' := ((Four.new w (.string M) (.int .i64 k) (.int .i64 op) (.bool sw) 90).alloc (.cells #[.int .i64 o, .int .i64 n, .string s, .slice p c1 c2] 24)).alloc (.cells #[.int .i64 0, .int .i64 0, .string ⟨#[]⟩, .slice none 0 0] 24)
  have E0' := (Four.new (w.alloc (.cells #[.string M, .int .i64 k, .int .i64 op, .bool sw] 90)) (.int .i64 o) (.int .i64 n) (.string s) (.slice p c1 c2) 24).alloc (.cells #[.int .i64 0, .int .i64 0, .string ⟨#[]⟩, .slice none 0 0] 24)
  have R0' := Four.new ((w.alloc (.cells #[.string M, .int .i64 k, .int .i64 op, .bool sw] 90)).alloc (.cells #[.int .i64 o, .int .i64 n, .string s, .slice p c1 c2] 24)) (.int .i64 0) (.int .i64 0) (.string ⟨#[]⟩) (.slice none 0 0) 24
  rw [World.size_alloc] at E0'
  rw [World.size_alloc, World.size_alloc] at R0'
  have b0 := B0'.c0
  have b1 := B0'.c1
  have b2 := B0'.c2
  have b3 := B0'.c3
  have B0 := Lib.hid B0'
  have E0 := Lib.hid E0'
  have R0 := Lib.hid R0'
  have X0 := Lib.hid (ex_turn (ex_turn (ex_turn hx (tn_alloc w0 w (.cells #[.string M, .int .i64 k, .int .i64 op, .bool sw] 90)) hP) (tn_alloc w0 _ (.cells #[.int .i64 o, .int .i64 n, .string s, .slice p c1 c2] 24)) (fun b q => ⟨by have := (hP b q).1; simp; omega, (hP b q).2⟩)) (tn_alloc w0 _ (.cells #[.int .i64 0, .int .i64 0, .string ⟨#[]⟩, .slice none 0 0] 24)) (fun b q => ⟨by have := (hP b q).1; simp; omega, (hP b q).2⟩))
  have LC := Lib.hid (fun W => levels_any k W (by omega) (by omega))
  have HP := Lib.hid hP
  generalize (if k = 2 then (3 : Int) else k) = lf at *
  obtain ⟨rg, hrg⟩ : ∃ x, (if k = 2 then (2 : Int) else k + 1) = x := ⟨_, rfl⟩
  rw [hrg] at hne LC ⊢
  clear hrg hk0 hk1
  rcases h1 : run f (.op rg) r with ⟨y, r1⟩ | ⟨er, q⟩ | _
  · rw [bok]
    cases sw
    · show Calls _ _ _ _ (tOkP L sl w0 r1 (nod op [x, y]) P w)
      have OC := Lib.hid ((IO rg).ok hA h1)
      clear hne h h1 hA B0' E0' R0' hx hP
      go_enter Tryz.func89, Tryz.ntmps89
      go_wp2_with (first
        | (go_at_call 74; ((with_reducible refine (LC.out _).mono ?_); rintro e w2 ⟨rfl, rfl⟩; skip))
        | (go_at_call 47; ((with_reducible refine OC.out.mono ?_); rintro e w3 ⟨o3, n3, s3, p3, k3, c3, rfl, hT, hI, hF⟩; have HT3 := Lib.hid (HTA.out.then_ hT); have l3 := hT.size; rw [World.size_alloc, World.size_alloc, World.size_alloc] at l3; have I4 := Lib.hid (hI.alloc (.cells #[.int .i64 o3, .int .i64 n3, .string s3, .slice p3 k3 c3] 24)); have B4' := (four_turn B0.out hT lt).alloc (.cells #[.int .i64 o3, .int .i64 n3, .string s3, .slice p3 k3 c3] 24); have E4' := (four_turn E0.out hT (by omega)).alloc (.cells #[.int .i64 o3, .int .i64 n3, .string s3, .slice p3 k3 c3] 24); have R4 := Lib.hid ((four_turn R0.out hT (by omega)).alloc (.cells #[.int .i64 o3, .int .i64 n3, .string s3, .slice p3 k3 c3] 24)); have D4' := Four.new w3 (.int .i64 o3) (.int .i64 n3) (.string s3) (.slice p3 k3 c3) 24; have b0 := B4'.c0; have b1 := B4'.c1; have b2 := B4'.c2; have b3 := B4'.c3; have e0 := E4'.c0; have e1 := E4'.c1; have e2 := E4'.c2; have e3 := E4'.c3; have g0 := D4'.c0; have g1 := D4'.c1; have g2 := D4'.c2; have g3 := D4'.c3; have y0 := R4.out.f0; have y1 := R4.out.f1; have y2 := R4.out.f2; have y3 := R4.out.f3; have z0 := R4.out.c0; have z1 := R4.out.c1; have z2 := R4.out.c2; have z3 := R4.out.c3; have XS := Lib.hid (fun w' (hW : Below w3.heap.size w3 w') => (ex_wide (S' := fun b => (P b ∨ New w w' b) ∧ b ≠ w.heap.size + 2) (ex_turn (ex_turn X0.out hT (fun b q => ⟨by have := (HP.out b q).1; simp only [World.size_alloc]; omega, (HP.out b q).2⟩)) (tn_below (w0 := w0) hW) (fun b q => ⟨by have := (HP.out b q).1; omega, (HP.out b q).2⟩)) (fun b q => ⟨.inl q, by have := (HP.out b q).1; omega⟩))); have YS := Lib.hid (fun w' (hW : Below w3.heap.size w3 w') => (ex_wide (S' := fun b => (P b ∨ New w w' b) ∧ b ≠ w.heap.size + 2) (hF.later hW) (fun b q => by have q1 := q.1; have q2 := q.2; simp only [World.size_alloc] at q1; exact ⟨.inr ⟨by omega, q2⟩, by omega⟩))); clear hT hI hF B4' E4' D4'))
        | (go_at_call 50; ((with_reducible refine (node_any _ _ _ _ _).mono ?_); rintro e w6 ⟨rfl, hb⟩; have HB6 := Lib.hid ((((Below.refl w3.heap.size w3).alloc (Nat.le_refl _) (.cells #[.int .i64 o3, .int .i64 n3, .string s3, .slice p3 k3 c3] 24)).alloc (by simp) (.cells #[.int .i64 o, .int .i64 n, .string s, .slice p c1 c2, .int .i64 o3, .int .i64 n3, .string s3, .slice p3 k3 c3] 24)).then_ hb); have hb3 := (((Below.refl _ (w3.alloc (.cells #[.int .i64 o3, .int .i64 n3, .string s3, .slice p3 k3 c3] 24))).alloc (Nat.le_refl _) (.cells #[.int .i64 o, .int .i64 n, .string s, .slice p c1 c2, .int .i64 o3, .int .i64 n3, .string s3, .slice p3 k3 c3] 24)).then_ hb); have HI6 := Lib.hid (I4.out.later hb3); have FZ := Lib.hid (R4.out.stay hb3); have hq := fun j => (hb.cell (p := ⟨(w3.alloc (.cells #[.int .i64 o3, .int .i64 n3, .string s3, .slice p3 k3 c3] 24)).heap.size, j, none⟩) (by simp)).trans (cells_new (w3.alloc (.cells #[.int .i64 o3, .int .i64 n3, .string s3, .slice p3 k3 c3] 24)) #[.int .i64 o, .int .i64 n, .string s, .slice p c1 c2, .int .i64 o3, .int .i64 n3, .string s3, .slice p3 k3 c3] 24 j); rw [World.size_alloc] at hq; have HQ := Lib.hid hq; have l6 := hb.size; rw [World.size_alloc, World.size_alloc] at l6; have d0 := FZ.out.c0; have d1 := FZ.out.c1; have d2 := FZ.out.c2; have d3 := FZ.out.c3; have y0 := FZ.out.f0; have y1 := FZ.out.f1; have y2 := FZ.out.f2; have y3 := FZ.out.f3; clear hb hb3 hq e0 e1 e2 e3 g0 g1 g2 g3 z0 z1 z2 z3)))
      have hP := FZ.out.put (.int .i64 op) (.int .i64 0) (.string ⟨#[]⟩) (.slice (some ⟨w3.heap.size + 1, 0, none⟩) 2 2)
      have r0 := hP.c0
      have r1' := hP.c1
      have r2' := hP.c2
      have r3 := hP.c3
      clear hP
      go_wp2
      refine bodyPost_ret (v := .agg #[.int .i64 op, .int .i64 0, .string ⟨#[]⟩, .slice (some ⟨w3.heap.size + 1, 0, none⟩) 2 2]) (by simp [results, Tryz.results89, go_sem, r0, r1', r2', r3]) rfl ?_
      exact done_boxP (g := w.heap.size + 2) (by omega) lt (HT3.out.then_ (tn_below HB6.out)) HI6.out (node2S (XS.out _ HB6.out) (YS.out _ HB6.out) ⟨.inr ⟨by omega, by omega⟩, by omega⟩ HQ.out)
    · show Calls _ _ _ _ (tOkP L sl w0 r1 (nod op [y, x]) P w)
      have OC := Lib.hid ((IO rg).ok hA h1)
      clear hne h h1 hA B0' E0' R0' hx hP
      go_enter Tryz.func89, Tryz.ntmps89
      go_wp2_with (first
        | (go_at_call 74; ((with_reducible refine (LC.out _).mono ?_); rintro e w2 ⟨rfl, rfl⟩; skip))
        | (go_at_call 47; ((with_reducible refine OC.out.mono ?_); rintro e w3 ⟨o3, n3, s3, p3, k3, c3, rfl, hT, hI, hF⟩; have HT3 := Lib.hid (HTA.out.then_ hT); have l3 := hT.size; rw [World.size_alloc, World.size_alloc, World.size_alloc] at l3; have I4 := Lib.hid (hI.alloc (.cells #[.int .i64 o3, .int .i64 n3, .string s3, .slice p3 k3 c3] 24)); have B4' := (four_turn B0.out hT lt).alloc (.cells #[.int .i64 o3, .int .i64 n3, .string s3, .slice p3 k3 c3] 24); have E4' := (four_turn E0.out hT (by omega)).alloc (.cells #[.int .i64 o3, .int .i64 n3, .string s3, .slice p3 k3 c3] 24); have R4 := Lib.hid ((four_turn R0.out hT (by omega)).alloc (.cells #[.int .i64 o3, .int .i64 n3, .string s3, .slice p3 k3 c3] 24)); have D4' := Four.new w3 (.int .i64 o3) (.int .i64 n3) (.string s3) (.slice p3 k3 c3) 24; have b0 := B4'.c0; have b1 := B4'.c1; have b2 := B4'.c2; have b3 := B4'.c3; have e0 := E4'.c0; have e1 := E4'.c1; have e2 := E4'.c2; have e3 := E4'.c3; have g0 := D4'.c0; have g1 := D4'.c1; have g2 := D4'.c2; have g3 := D4'.c3; have y0 := R4.out.f0; have y1 := R4.out.f1; have y2 := R4.out.f2; have y3 := R4.out.f3; have z0 := R4.out.c0; have z1 := R4.out.c1; have z2 := R4.out.c2; have z3 := R4.out.c3; have XS := Lib.hid (fun w' (hW : Below w3.heap.size w3 w') => (ex_wide (S' := fun b => (P b ∨ New w w' b) ∧ b ≠ w.heap.size + 2) (ex_turn (ex_turn X0.out hT (fun b q => ⟨by have := (HP.out b q).1; simp only [World.size_alloc]; omega, (HP.out b q).2⟩)) (tn_below (w0 := w0) hW) (fun b q => ⟨by have := (HP.out b q).1; omega, (HP.out b q).2⟩)) (fun b q => ⟨.inl q, by have := (HP.out b q).1; omega⟩))); have YS := Lib.hid (fun w' (hW : Below w3.heap.size w3 w') => (ex_wide (S' := fun b => (P b ∨ New w w' b) ∧ b ≠ w.heap.size + 2) (hF.later hW) (fun b q => by have q1 := q.1; have q2 := q.2; simp only [World.size_alloc] at q1; exact ⟨.inr ⟨by omega, q2⟩, by omega⟩))); clear hT hI hF B4' E4' D4'))
        | (go_at_call 50; ((with_reducible refine (node_any _ _ _ _ _).mono ?_); rintro e w6 ⟨rfl, hb⟩; have HB6 := Lib.hid ((((Below.refl w3.heap.size w3).alloc (Nat.le_refl _) (.cells #[.int .i64 o3, .int .i64 n3, .string s3, .slice p3 k3 c3] 24)).alloc (by simp) (.cells #[.int .i64 o3, .int .i64 n3, .string s3, .slice p3 k3 c3, .int .i64 o, .int .i64 n, .string s, .slice p c1 c2] 24)).then_ hb); have hb3 := (((Below.refl _ (w3.alloc (.cells #[.int .i64 o3, .int .i64 n3, .string s3, .slice p3 k3 c3] 24))).alloc (Nat.le_refl _) (.cells #[.int .i64 o3, .int .i64 n3, .string s3, .slice p3 k3 c3, .int .i64 o, .int .i64 n, .string s, .slice p c1 c2] 24)).then_ hb); have HI6 := Lib.hid (I4.out.later hb3); have FZ := Lib.hid (R4.out.stay hb3); have hq := fun j => (hb.cell (p := ⟨(w3.alloc (.cells #[.int .i64 o3, .int .i64 n3, .string s3, .slice p3 k3 c3] 24)).heap.size, j, none⟩) (by simp)).trans (cells_new (w3.alloc (.cells #[.int .i64 o3, .int .i64 n3, .string s3, .slice p3 k3 c3] 24)) #[.int .i64 o3, .int .i64 n3, .string s3, .slice p3 k3 c3, .int .i64 o, .int .i64 n, .string s, .slice p c1 c2] 24 j); rw [World.size_alloc] at hq; have HQ := Lib.hid hq; have l6 := hb.size; rw [World.size_alloc, World.size_alloc] at l6; have d0 := FZ.out.c0; have d1 := FZ.out.c1; have d2 := FZ.out.c2; have d3 := FZ.out.c3; have y0 := FZ.out.f0; have y1 := FZ.out.f1; have y2 := FZ.out.f2; have y3 := FZ.out.f3; clear hb hb3 hq e0 e1 e2 e3 g0 g1 g2 g3 z0 z1 z2 z3)))
      have hP := FZ.out.put (.int .i64 op) (.int .i64 0) (.string ⟨#[]⟩) (.slice (some ⟨w3.heap.size + 1, 0, none⟩) 2 2)
      have r0 := hP.c0
      have r1' := hP.c1
      have r2' := hP.c2
      have r3 := hP.c3
      clear hP
      go_wp2
      refine bodyPost_ret (v := .agg #[.int .i64 op, .int .i64 0, .string ⟨#[]⟩, .slice (some ⟨w3.heap.size + 1, 0, none⟩) 2 2]) (by simp [results, Tryz.results89, go_sem, r0, r1', r2', r3]) rfl ?_
      exact done_boxP (g := w.heap.size + 2) (by omega) lt (HT3.out.then_ (tn_below HB6.out)) HI6.out (node2S (YS.out _ HB6.out) (XS.out _ HB6.out) ⟨.inr ⟨by omega, by omega⟩, by omega⟩ HQ.out)
  · show Calls _ _ _ _ (tBad L w0 er q w)
    have OC := Lib.hid ((IO rg).bad hA h1)
    clear hne h h1 hA B0' E0' R0' hx hP
    go_enter Tryz.func89, Tryz.ntmps89
    go_wp2_with (first
      | (go_at_call 74; ((with_reducible refine (LC.out _).mono ?_); rintro e w2 ⟨rfl, rfl⟩; skip))
      | (go_at_call 47; ((with_reducible refine OC.out.mono ?_); rintro e w3 ⟨rfl, hT⟩; have HT3 := Lib.hid (HTA.out.then_ hT); clear hT)))
    exact ⟨rfl, rfl, HT3.out⟩
  · rw [h1] at hne; exact absurd rfl hne
end Go.Proofs.YtlnomiiphlbamaaGreatDoor.EtW
namespace Go.Proofs.YtlnomiiphlbamaaGreatDoor.EtW
open Go Go.RowKit Go.Proofs.YtlnomiiphlbamaaGreatDoor.NumM Go.Proofs.YtlnomiiphlbamaaGreatDoor.LexW Go.Proofs.YtlnomiiphlbamaaGreatDoor.LexM Go.Proofs.YtlnomiiphlbamaaGreatDoor.ExM Go.Proofs.YtlnomiiphlbamaaGreatDoor.ExW Go.Proofs.YtlnomiiphlbamaaGreatDoor.EtM

/-- How many tokens are left, by the parser's own memory. -/
def leftW (L : List Tk) (w0 W : World) : Nat := L.length - (intOf ((W.cell? ⟨w0.heap.size, 1, none⟩).getD (.int .i64 0))).toNat
theorem In.left {L : List Tk} {sl : Value} {w0 : World} {r : List Tk} {w : World} (h : In L sl w0 r w) : leftW L w0 w = r.length := by
  unfold leftW
  rw [h.blk.cell 1]
  have hs := h.suf.2
  show L.length - (intOf (Value.int .i64 (pos L r))).toNat = _
  simp only [intOf, pos]
  omega
theorem in_grown {L : List Tk} {sl : Value} {w0 : World} {r : List Tk} {W W' : World} {row : Option Nat} (h : In L sl w0 r W) (hg : W.grownBy W' row) (hr : ∀ b, row = some b → w0.heap.size < b) : In L sl w0 r W' :=
  ⟨h.bel.grown hg (Nat.le_of_lt h.lt) (fun k e => Nat.le_of_lt (hr k e)), (hg.block _ h.lt (fun e => by have := hr _ e.symm; omega)).trans h.blk, h.suf⟩
theorem tn_grown {w0 w W W' : World} {row : Option Nat} (h : Tn w0 w W) (hg : W.grownBy W' row) (hr : ∀ b, row = some b → w.heap.size ≤ b) : Tn w0 w W' :=
  ⟨hg.os.trans h.os, hg.tape.trans h.tape, hg.output.trans h.output, Nat.le_trans h.size hg.size,
    fun k hk hne => (hg.block k (Nat.lt_of_lt_of_le hk h.size) (fun e => by have := hr k e.symm; omega)).trans (h.block k hk hne)⟩
/-- A row of operands of the call's own; the operands' memory is apart from it: old (P) or laid from lo on. -/
structure KQ (P : Nat → Prop) (lo : Nat) (W : World) (va : Value) (xs : List Ex) (pl : Nat → Option Addr) (cl : Nat → Nat) : Prop where
  row : W.ownsRow lo 24 4 va xs.length (exCells pl cl 0 xs)
  kid : ∀ i a, xs[i]? = some a → ExS (fun b => (P b ∨ (lo ≤ b ∧ b < W.heap.size)) ∧ va.ownBlock ≠ some b) W (xv a.op a.n a.nm (.slice (pl i) a.args.length (cl i))) a
theorem KQ.turn {P : Nat → Prop} {lo : Nat} {w0 W W' : World} {va : Value} {xs : List Ex} {pl : Nat → Option Addr} {cl : Nat → Nat} (h : KQ P lo W va xs pl cl) (hg : Tn w0 W W') (hlo : w0.heap.size < lo) (hP : ∀ b, P b → b < W.heap.size ∧ w0.heap.size < b) : KQ P lo W' va xs pl cl :=
  ⟨own_grown h.row hg (fun b hb e => by have := own_lt h.row b hb; have := Option.some.inj e; omega),
   fun i a hi => ex_wide (ex_turn (h.kid i a hi) hg (fun b q => q.1.elim (fun q => hP b q) (fun q => ⟨q.2, by omega⟩))) (fun b q => ⟨q.1.imp id (fun q => ⟨q.1, Nat.lt_of_lt_of_le q.2 hg.size⟩), q.2⟩)⟩
theorem KQ.snoc {P : Nat → Prop} {lo lo1 : Nat} {W W1 : World} {va : Value} {xs : List Ex} {pl : Nat → Option Addr} {cl : Nat → Nat} {a : Ex} {o n : Int} {s : ByteArray} {p : Option Addr} {k c g cap : Nat} (h : KQ P lo W va xs pl cl) (hP : ∀ b, P b → b < W.heap.size) (hlo : lo ≤ lo1) (hl1 : ∀ b, va.ownBlock = some b → b < lo1)
    (hf : Fr lo1 W (xv o n s (.slice p k c)) a)
    (hown : W1.ownsRow lo 24 4 (.slice (some ⟨g, 0, none⟩) (xs.length + 1) cap) (xs.length + 1) (exCells pl cl 0 xs ++ [.int .i64 o, .int .i64 n, .string s, .slice p k c])) (hgr : W.grownBy W1 va.ownBlock) (hat : va.ownBlock = some g ∨ g = W.heap.size) :
    ∃ pl' cl', KQ P lo W1 (.slice (some ⟨g, 0, none⟩) (xs.length + 1) cap) (xs ++ [a]) pl' cl' := by
  obtain ⟨rfl, rfl, rfl, rfl⟩ := ex_parts hf
  have hf' : ExS (fun b => (P b ∨ (lo ≤ b ∧ b < W.heap.size)) ∧ va.ownBlock ≠ some b) W (xv a.op a.n a.nm (.slice p a.args.length c)) a := ex_wide hf (fun b q => ⟨.inr ⟨by omega, q.2⟩, fun e => by have := hl1 b e; omega⟩)
  refine ⟨fun i => if i < xs.length then pl i else p, fun i => if i < xs.length then cl i else c, ?_, fun i x hi => ?_⟩
  · rw [List.length_append, exCells_snoc, exCells_congr (pl' := pl) (cl' := cl) xs 0 (fun i _ hi => by rw [if_pos (by omega), if_pos (by omega)]; exact ⟨rfl, rfl⟩)]
    rw [if_neg (by omega), if_neg (by omega)]
    exact hown
  · have fit : ∀ b, ((P b ∨ (lo ≤ b ∧ b < W.heap.size)) ∧ va.ownBlock ≠ some b) → ((P b ∨ (lo ≤ b ∧ b < W1.heap.size)) ∧ (Value.slice (some ⟨g, 0, none⟩) (xs.length + 1) cap).ownBlock ≠ some b) ∧ b < W.heap.size ∧ va.ownBlock ≠ some b := by
      rintro b ⟨k1, k2⟩
      have hlt : b < W.heap.size := k1.elim (fun q => hP b q) (fun q => q.2)
      have := hgr.size
      refine ⟨⟨k1.imp id (fun q => ⟨q.1, by omega⟩), fun e => ?_⟩, hlt, k2⟩
      obtain rfl : g = b := by simpa [Value.ownBlock] using e
      rcases hat with e2 | e2
      · exact k2 e2
      · omega
    rcases Nat.lt_or_ge i xs.length with hlt | hge
    · rw [List.getElem?_append_left hlt] at hi
      simp only [if_pos hlt]
      exact (h.kid i x hi).grown hgr fit
    · rw [List.getElem?_append_right hge] at hi
      have hil : i - xs.length < 1 := by
        have := (List.getElem?_eq_some_iff.1 hi).1
        simpa using this
      have h0 : i - xs.length = 0 := by omega
      rw [h0] at hi
      obtain rfl : a = x := by simpa using hi
      simp only [if_neg (show ¬ i < xs.length by omega)]
      exact hf'.grown hgr fit
theorem KQ.done {P : Nat → Prop} {lo : Nat} {W : World} {va : Value} {xs : List Ex} {pl : Nat → Option Addr} {cl : Nat → Nat} {o n : Int} {s : ByteArray} (h : KQ P lo W va xs pl cl) (hs : s.size ≤ 140737488351232) (hk : xs.length ≤ 100000) : ExS (fun b => P b ∨ (lo ≤ b ∧ b < W.heap.size)) W (xv o n s va) (.mk o n s xs) := by
  obtain ⟨hrow, hkid⟩ := h
  rcases hrow.2 with ⟨hv, hn⟩ | ⟨g, cap, cur, hv, hB, hg, hle, _, _, htake⟩
  · have : xs = [] := List.length_eq_zero_iff.1 hn
    subst this
    rw [hv]
    exact ExS.leaf hs
  · rw [hv]
    refine ExS.mk pl cl hs (by omega) hle (fun _ => ⟨g, 0, rfl, .inr ⟨by omega, (Array.getElem?_eq_some_iff.1 hg).1⟩, fun i a hi => ?_⟩) (fun i a hi => (hkid i a hi).weak (fun b hb => hb.1))
    have hil := (List.getElem?_eq_some_iff.1 hi).1
    have rd : ∀ r, r < 4 → W.cell? ⟨g, i * 4 + r, none⟩ = some (cellR a (pl i) (cl i) r) := fun r hr => by
      rw [cell_of_row W g _ cur 24 (0, 0) hg]
      have q := exCells_at pl cl xs 0 i r a hi hr
      rw [Nat.zero_add] at q
      rw [← q, ← htake, List.getElem?_take, if_pos (by omega)]
      simp
    rw [Nat.zero_add]
    exact ⟨rd 0 (by omega), rd 1 (by omega), rd 2 (by omega), rd 3 (by omega)⟩
/-- What stands while ranges are read: the parser, the result's box, the row. -/
structure RgS (L : List Tk) (sl : Value) (w0 w : World) (P : Nat → Prop) (r : List Tk) (W : World) (va : Value) (xs : List Ex) : Prop where
  i : In L sl w0 r W
  t : Tn w0 w W
  z : Four W (w.heap.size + 1) (.int .i64 0) (.int .i64 0) (.string ⟨#[]⟩) (.slice none 0 0)
  k : ∃ pl cl, KQ P (w.heap.size + 2) W va xs pl cl
theorem RgS.turn {L : List Tk} {sl : Value} {w0 w : World} {P : Nat → Prop} {r r' : List Tk} {W W' : World} {va : Value} {xs : List Ex} (h : RgS L sl w0 w P r W va xs) (lt : w0.heap.size < w.heap.size) (hP : ∀ b, P b → b < w.heap.size ∧ w0.heap.size < b) (hg : Tn w0 W W') (hi : In L sl w0 r' W') : RgS L sl w0 w P r' W' va xs := by
  obtain ⟨pl, cl, k⟩ := h.k
  have hs := h.t.size
  exact ⟨hi, h.t.then_ hg, four_turn h.z hg (by omega), pl, cl, k.turn hg (by omega) (fun b q => ⟨by have := (hP b q).1; omega, (hP b q).2⟩)⟩
theorem RgS.snoc {L : List Tk} {sl : Value} {w0 w : World} {P : Nat → Prop} {r r1 : List Tk} {W w5 w6 : World} {va : Value} {xs : List Ex} {pl : Nat → Option Addr} {cl : Nat → Nat} {a : Ex} {o n : Int} {s : ByteArray} {p : Option Addr} {k c g cap : Nat} (h : RgS L sl w0 w P r W va xs) (hk : KQ P (w.heap.size + 2) W va xs pl cl) (lt : w0.heap.size < w.heap.size) (hP : ∀ b, P b → b < w.heap.size ∧ w0.heap.size < b)
    (hT : Tn w0 W w5) (hI : In L sl w0 r1 w5) (hF : Fr W.heap.size w5 (xv o n s (.slice p k c)) a)
    (hown : w6.ownsRow (w.heap.size + 2) 24 4 (.slice (some ⟨g, 0, none⟩) (xs.length + 1) cap) (xs.length + 1) (exCells pl cl 0 xs ++ [.int .i64 o, .int .i64 n, .string s, .slice p k c])) (hgr : (w5.alloc (.cells #[.int .i64 o, .int .i64 n, .string s, .slice p k c] 24)).grownBy w6 va.ownBlock) (hat : va.ownBlock = some g ∨ g = w5.heap.size + 1) :
    RgS L sl w0 w P r1 w6 (.slice (some ⟨g, 0, none⟩) (xs.length + 1) cap) (xs ++ [a]) := by
  have h5 := h.turn lt hP hT hI
  have hl := own_lt hk.row
  have hs := h.t.size
  have hs5 := hT.size
  have hz := h.z.lt
  have hP' : ∀ b, P b → b < w5.heap.size ∧ w0.heap.size < b := fun b q => ⟨by have := (hP b q).1; omega, (hP b q).2⟩
  have hk5 := (hk.turn hT (by omega) (fun b q => ⟨by have := (hP b q).1; omega, (hP b q).2⟩)).turn (tn_alloc w0 w5 (.cells #[.int .i64 o, .int .i64 n, .string s, .slice p k c] 24)) (by omega) hP'
  obtain ⟨pl', cl', h6⟩ := hk5.snoc (lo1 := W.heap.size) (fun b q => by have := (hP' b q).1; rw [World.size_alloc]; omega) (by omega) (fun b e => (hl b e).2.1) (fr_alloc hF _) hown hgr (hat.imp id (fun e => by rw [World.size_alloc]; exact e))
  refine ⟨in_grown (h5.i.alloc _) hgr (fun b e => ?_), tn_grown (h5.t.then_ (tn_alloc w0 w5 _)) hgr (fun b e => ?_), four_grown (h5.z.alloc _) hgr (fun e => ?_), pl', cl', h6⟩
  · have := (hl b e).1; omega
  · have := (hl b e).1; omega
  · have := (hl _ e.symm).1; omega
theorem RgS.len {L : List Tk} {sl : Value} {w0 w : World} {P : Nat → Prop} {r : List Tk} {W : World} {va : Value} {xs : List Ex} (h : RgS L sl w0 w P r W va xs) (hc : Cx L sl w0) : r.length ≤ 16384 := Nat.le_trans h.i.suf.2 hc.len
/-- The end: node makes the expression, which is put into the result's box. -/
theorem RgS.done {L : List Tk} {sl : Value} {w0 w : World} {P : Nat → Prop} {r : List Tk} {W Wz : World} {p : Option Addr} {k c : Nat} {xs : List Ex} (h : RgS L sl w0 w P r W (.slice p k c) xs) (lt : w0.heap.size < w.heap.size) (hP : ∀ b, P b → b < w.heap.size ∧ w0.heap.size < b) (hb : Below W.heap.size W Wz) (hl : xs.length ≤ 100000) :
    tOkP L sl w0 r (nod 23 xs) P w (.returned (xv 23 0 ⟨#[]⟩ (.slice p k c))) ((((Wz.setCell ⟨w.heap.size + 1, 0, none⟩ (.int .i64 23)).setCell ⟨w.heap.size + 1, 1, none⟩ (.int .i64 0)).setCell ⟨w.heap.size + 1, 2, none⟩ (.string ⟨#[]⟩)).setCell ⟨w.heap.size + 1, 3, none⟩ (.slice p k c)) := by
  have h2 := h.turn lt hP (tn_below hb) (h.i.later hb)
  obtain ⟨pl, cl, k2⟩ := h2.k
  exact done_boxP (by omega) lt h2.t h2.i (ex_wide (k2.done (by decide) hl) (fun b q => ⟨q.imp id (fun q => ⟨by omega, q.2⟩), q.elim (fun q => by have := (hP b q).1; omega) (fun q => by omega)⟩))
/-- The start: one operand. -/
theorem RgS.one {L : List Tk} {sl : Value} {w0 w : World} {P : Nat → Prop} {r : List Tk} {x : Ex} {o n : Int} {s : ByteArray} {p : Option Addr} {c1 c2 : Nat} (h : In L sl w0 r w) (hP : ∀ b, P b → b < w.heap.size ∧ w0.heap.size < b) (hx : ExS P w (xv o n s (.slice p c1 c2)) x) :
    RgS L sl w0 w P r (((w.alloc (.cells #[.int .i64 o, .int .i64 n, .string s, .slice p c1 c2] 24)).alloc (.cells #[.int .i64 0, .int .i64 0, .string ⟨#[]⟩, .slice none 0 0] 24)).alloc (.cells #[.int .i64 o, .int .i64 n, .string s, .slice p c1 c2] 24)) (.slice (some ⟨w.heap.size + 2, 0, none⟩) 1 1) [x] := by
  obtain ⟨rfl, rfl, rfl, rfl⟩ := ex_parts hx
  have hT : Tn w0 w (((w.alloc (.cells #[.int .i64 x.op, .int .i64 x.n, .string x.nm, .slice p x.args.length c2] 24)).alloc (.cells #[.int .i64 0, .int .i64 0, .string ⟨#[]⟩, .slice none 0 0] 24)).alloc (.cells #[.int .i64 x.op, .int .i64 x.n, .string x.nm, .slice p x.args.length c2] 24)) := ((tn_alloc _ _ _).then_ (tn_alloc _ _ _)).then_ (tn_alloc _ _ _)
  have hz := (Four.new (w.alloc (.cells #[.int .i64 x.op, .int .i64 x.n, .string x.nm, .slice p x.args.length c2] 24)) (.int .i64 0) (.int .i64 0) (.string ⟨#[]⟩) (.slice none 0 0) 24).alloc (.cells #[.int .i64 x.op, .int .i64 x.n, .string x.nm, .slice p x.args.length c2] 24)
  rw [World.size_alloc] at hz
  refine ⟨((h.alloc _).alloc _).alloc _, hT, hz, fun _ => p, fun _ => c2, ?_, fun i a hi => ?_⟩
  · have := World.ownsRow_lit (base := w.heap.size + 2) (e := 24) (size := 4) ((w.alloc (.cells #[.int .i64 x.op, .int .i64 x.n, .string x.nm, .slice p x.args.length c2] 24)).alloc (.cells #[.int .i64 0, .int .i64 0, .string ⟨#[]⟩, .slice none 0 0] 24)) #[.int .i64 x.op, .int .i64 x.n, .string x.nm, .slice p x.args.length c2] 1 (by simp) (by unfold maxLen; omega) rfl
    rw [World.size_alloc, World.size_alloc] at this
    exact this
  · match i, hi with
    | 0, hi =>
      cases hi
      exact ex_wide (ex_turn hx hT hP) (fun b q => ⟨.inl q, fun e => by have := (hP b q).1; simp [Value.ownBlock] at e; omega⟩)
    | i + 1, hi => simp at hi
end Go.Proofs.YtlnomiiphlbamaaGreatDoor.EtW
namespace Go.Proofs.YtlnomiiphlbamaaGreatDoor.EtW
open Go Go.RowKit Go.Proofs.YtlnomiiphlbamaaGreatDoor.NumM Go.Proofs.YtlnomiiphlbamaaGreatDoor.LexW Go.Proofs.YtlnomiiphlbamaaGreatDoor.LexM Go.Proofs.YtlnomiiphlbamaaGreatDoor.ExM Go.Proofs.YtlnomiiphlbamaaGreatDoor.ExW Go.Proofs.YtlnomiiphlbamaaGreatDoor.EtM

/-- What the call of ranged does: e, which lies in blocks of P, is the left operand. -/
def CtR (L : List Tk) (sl : Value) (w0 : World) (f : Nat) : Prop :=
  ∀ (r : List Tk) (w : World) (P : Nat → Prop) (o n : Int) (s : ByteArray) (p : Option Addr) (c1 c2 : Nat) (x : Ex), In L sl w0 r w → (∀ b, P b → b < w.heap.size ∧ w0.heap.size < b) → ExS P w (xv o n s (.slice p c1 c2)) x → run f (.rg x) r ≠ .out →
    Calls Tryz.prog 90 #[pp w0, xv o n s (.slice p c1 c2)] w (tRsP L sl w0 (run f (.rg x) r) P w)
theorem kq_in {P : Nat → Prop} {lo : Nat} {w0 W w5 : World} {va : Value} {xs : List Ex} {pl : Nat → Option Addr} {cl : Nat → Nat} (h : KQ P lo W va xs pl cl) (hT : Tn w0 W w5) (hlo : w0.heap.size < lo) (o : Obj) : (w5.alloc o).ownsRow lo 24 4 va xs.length (exCells pl cl 0 xs) :=
  (own_grown h.row hT (fun b hb e => by have := own_lt h.row b hb; have := Option.some.inj e; omega)).alloc o
set_option maxRecDepth 100000 in
set_option maxHeartbeats 16000000 in
theorem ranged_any {L : List Tk} {sl : Value} {w0 : World} (hc : Cx L sl w0) (f : Nat) (IC : ∀ g, g ≤ f → Ct L sl w0 g .ch 24 #[pp w0]) : CtR L sl w0 (f + 1) := by
  intro r w P o n s p c1 c2 x h hP hx hne
  rw [run] at hne ⊢
  have lt := h.lt
  have h3 := RgS.one h hP hx
  obtain ⟨j0, gi, gz0, gz1, gz2⟩ := info_parts infoE
  have E0 := (Four.new w (.int .i64 o) (.int .i64 n) (.string s) (.slice p c1 c2) 24).alloc (.cells #[.int .i64 0, .int .i64 0, .string ⟨#[]⟩, .slice none 0 0] 24)
  have b0 := E0.c0
  have b1 := E0.c1
  have b2 := E0.c2
  have b3 := E0.c3
  have HTA : Hid (Tn w0 w (((w.alloc (.cells #[.int .i64 o, .int .i64 n, .string s, .slice p c1 c2] 24)).alloc (.cells #[.int .i64 0, .int .i64 0, .string ⟨#[]⟩, .slice none 0 0] 24)).alloc (.cells #[.int .i64 o, .int .i64 n, .string s, .slice p c1 c2] 24))) := Lib.hid h3.t
  by_cases q : tx r = [123]
  · have hr := tx_pos q (by decide)
    unfold need at hne ⊢
    rw [if_pos q] at hne ⊢
    obtain ⟨X, hX⟩ : ∃ X, run f (.rl [x]) r.tail = X := ⟨_, rfl⟩
    change run f (.rl [x]) r.tail ≠ .out at hne
    change Calls _ _ _ _ (tRsP L sl w0 (run f (.rl [x]) r.tail) P w)
    rw [hX] at hne ⊢
    have NC := Lib.hid (need_yes' hc h3.i ⟨#[123]⟩ q hr)
    have H3 := Lib.hid h3
    have HX := Lib.hid hX
    have HP := Lib.hid hP
    have HNE := Lib.hid hne
    have HIC := Lib.hid IC
    have hrl : r.tail.length ≤ 16384 := by have := h.suf.2; have := hc.len; rw [tl_len]; omega
    clear h h3 hx E0 hX hne hP q IC
    go_enter Tryz.func90, Tryz.ntmps90
    go_wp2_with (first
      | (go_at_call 49; ((with_reducible refine NC.out.mono ?_); rintro e w4 ⟨rfl, hT, hI⟩; have H4 := Lib.hid (H3.out.turn lt HP.out hT hI); clear hT hI)))
    go_loopw [5] (fun vo wr => ∃ (g : Nat) (rr : List Tk) (acc : List Ex) (p : Option Addr) (c : Nat), g ≤ f ∧ acc.length + rr.length ≤ 16385 ∧ 0 < acc.length ∧ vo = .slice p acc.length c ∧ Hid (RgS L sl w0 w P rr wr (.slice p acc.length c) acc) ∧ Hid (run g (.rl acc) rr = X)) (fun _ W => leftW L w0 W)
    case atStart => exact ⟨f, r.tail, [x], _, _, Nat.le_refl _, by simp only [List.length_cons, List.length_nil]; omega, by simp, rfl, H4, HX⟩
    case round =>
      obtain ⟨g, rr, acc, vp, vc, hg, hle, hpos, rfl, ST, RN⟩ := hrel
      clear b0 b1 b2 b3
      have hrun := RN.out
      have hne := HNE.out
      rcases g with _ | g
      · exact absurd hrun.symm hne
      rw [run] at hrun
      have hIC := HIC.out g (by omega)
      have hst := ST.out
      have MZ := Lib.hid (hst.i.left)
      obtain ⟨pl, cl, kq⟩ := hst.k
      have KQ0 := Lib.hid kq
      have hwr := hst.t.size
      have hzl := hst.z.lt
      obtain ⟨N, hN⟩ : ∃ N, acc.length = N := ⟨_, rfl⟩
      rw [hN] at hle hpos ST kq KQ0 hst ⊢
      have HN := Lib.hid hN
      rcases h1 : run g .ch rr with ⟨a, r1⟩ | ⟨er, k⟩ | _
      · rw [h1, bok] at hrun
        have CH1 := Lib.hid (hIC.ok hst.i h1)
        have hl1 := run_len _ _ _ _ _ h1
        simp only [tk1] at hl1
        have HN2 : Hid ((acc ++ [a]).length = N + 1) := Lib.hid (by rw [List.length_append, hN]; rfl)
        by_cases q1 : tx r1 = [46, 46]
        · have hr1 := tx_pos q1 (by decide)
          unfold need at hrun
          rw [if_pos q1] at hrun
          dsimp only at hrun
          rcases h2 : run g .ch r1.tail with ⟨b, r2⟩ | ⟨er, k⟩ | _
          · rw [h2, bok] at hrun
            have hl2 := run_len _ _ _ _ _ h2
            simp only [tk1, tl_len] at hl2
            by_cases q2 : tx r2 = [44]
            · rw [if_pos q2] at hrun
              have hr2 := tx_pos q2 (by decide)
              have HR := Lib.hid hrun
              clear h1 kq hst hrun hN
              go_wp2_with (first
                | (go_at_call 24; ((with_reducible refine CH1.out.mono ?_); rintro e w51 ⟨o1, n1, s1, p1, k1, c1, rfl, hT, hI, hF⟩; have HT1 := Lib.hid hT; have HI1 := Lib.hid hI; have HF1 := Lib.hid hF; have hsz1 := hT.size; clear hT hI hF))
                | (at_builtin; (refine wpList_append_lies _ rfl _ _ 22 rfl (w.heap.size + 2) 24 j0 (.agg #[.int .i64 0, .int .i64 0, .string ⟨#[]⟩, .slice none 0 0]) 4 56 Tryz.underlying22 gi gz0 gz1 gz2 rfl (by decide) (.slice vp N vc) N _ rfl (by have := kq_in KQ0.out HT1.out (by omega) (.cells #[.int .i64 o1, .int .i64 n1, .string s1, .slice p1 k1 c1] 24); rw [HN.out] at this; exact this) ⟨w51.heap.size, 0, none⟩ 1 1 [.int .i64 o1, .int .i64 n1, .string s1, .slice p1 k1 c1] rfl rfl (by exact ExW.cell_four_at rfl _ _ _ _ _) (one_four _ _ _ _ _ _) (by omega) (by unfold maxLen; omega) (by omega) (by simp only [World.size_alloc]; omega) _ rfl ?_); intro g1 cp1 w61 hown hgr hat _; have H6 := ST.out.snoc KQ0.out lt HP.out HT1.out HI1.out HF1.out (by rw [HN.out]; exact hown) hgr (hat.imp id (fun e => by rw [e]; simp)); rw [HN.out] at H6; have H6 := Lib.hid H6; clear hown hgr hat; have N1 := Lib.hid (need_yes' hc H6.out.i ⟨#[46, 46]⟩ q1 hr1))
                | (go_at_call 49; ((with_reducible refine N1.out.mono ?_); rintro e w7 ⟨rfl, hT, hI⟩; have H7 := Lib.hid (H6.out.turn lt HP.out hT hI); have hs7 := H7.out.t.size; have hz7 := H7.out.z.lt; obtain ⟨pl2, cl2, kq2⟩ := H7.out.k; have KQ2 := Lib.hid kq2; have CH2 := Lib.hid (hIC.ok H7.out.i h2); clear hT hI kq2))
                | (go_at_call 24; ((with_reducible refine CH2.out.mono ?_); rintro e w52 ⟨o2, n2, s2, p2, k2, c2, rfl, hT, hI, hF⟩; have HT2 := Lib.hid hT; have HI2 := Lib.hid hI; have HF2 := Lib.hid hF; have hsz2 := hT.size; clear hT hI hF))
                | (at_builtin; (refine wpList_append_lies _ rfl _ _ 22 rfl (w.heap.size + 2) 24 j0 (.agg #[.int .i64 0, .int .i64 0, .string ⟨#[]⟩, .slice none 0 0]) 4 56 Tryz.underlying22 gi gz0 gz1 gz2 rfl (by decide) (.slice (some ⟨g1, 0, none⟩) (N + 1) cp1) (N + 1) _ rfl (by have := kq_in KQ2.out HT2.out (by omega) (.cells #[.int .i64 o2, .int .i64 n2, .string s2, .slice p2 k2 c2] 24); rw [HN2.out] at this; exact this) ⟨w52.heap.size, 0, none⟩ 1 1 [.int .i64 o2, .int .i64 n2, .string s2, .slice p2 k2 c2] rfl rfl (by exact ExW.cell_four_at rfl _ _ _ _ _) (one_four _ _ _ _ _ _) (by omega) (by unfold maxLen; omega) (by omega) (by simp only [World.size_alloc]; omega) _ rfl ?_); intro g2 cp2 w62 hown hgr hat _; have H8 := H7.out.snoc KQ2.out lt HP.out HT2.out HI2.out HF2.out (by rw [HN2.out]; exact hown) hgr (hat.imp id (fun e => by rw [e]; simp)); rw [HN2.out] at H8; have H8 := Lib.hid H8; clear hown hgr hat; have SK := Lib.hid (skip_yes hc H8.out.i ⟨#[44]⟩ q2 hr2))
                | (go_at_call 48; ((with_reducible refine SK.out.mono ?_); rintro e w9 ⟨rfl, hT, hI⟩; have H9 := Lib.hid (H8.out.turn lt HP.out hT hI); clear hT hI)))
              have HL : Hid ((acc ++ [a] ++ [b]).length = N + 1 + 1) := Lib.hid (by rw [List.length_append, HN2.out]; rfl)
              go_roundw
              case rel => exact ⟨g, r2.tail, acc ++ [a] ++ [b], _, _, by omega, by rw [HL.out, tl_len]; omega, by rw [HL.out]; omega, by rw [HL.out], by rw [HL.out]; exact H9, Lib.hid (by rw [List.append_assoc]; exact HR.out)⟩
              case measure => rw [H9.out.i.left, MZ.out, tl_len]; omega
            · rw [if_neg q2] at hrun
              by_cases q3 : tx r2 = [125]
              · have hr2 := tx_pos q3 (by decide)
                rw [if_pos q3] at hrun
                subst hrun
                have HLL : Hid (acc ++ [a, b] = acc ++ [a] ++ [b]) := Lib.hid (by rw [List.append_assoc]; rfl)
                have HL : Hid ((acc ++ [a] ++ [b]).length = N + 1 + 1) := Lib.hid (by rw [List.length_append, HN2.out]; rfl)
                clear h1 kq hst hN
                go_wp2_with (first
                  | (go_at_call 24; ((with_reducible refine CH1.out.mono ?_); rintro e w51 ⟨o1, n1, s1, p1, k1, c1, rfl, hT, hI, hF⟩; have HT1 := Lib.hid hT; have HI1 := Lib.hid hI; have HF1 := Lib.hid hF; have hsz1 := hT.size; clear hT hI hF))
                  | (at_builtin; (refine wpList_append_lies _ rfl _ _ 22 rfl (w.heap.size + 2) 24 j0 (.agg #[.int .i64 0, .int .i64 0, .string ⟨#[]⟩, .slice none 0 0]) 4 56 Tryz.underlying22 gi gz0 gz1 gz2 rfl (by decide) (.slice vp N vc) N _ rfl (by have := kq_in KQ0.out HT1.out (by omega) (.cells #[.int .i64 o1, .int .i64 n1, .string s1, .slice p1 k1 c1] 24); rw [HN.out] at this; exact this) ⟨w51.heap.size, 0, none⟩ 1 1 [.int .i64 o1, .int .i64 n1, .string s1, .slice p1 k1 c1] rfl rfl (by exact ExW.cell_four_at rfl _ _ _ _ _) (one_four _ _ _ _ _ _) (by omega) (by unfold maxLen; omega) (by omega) (by simp only [World.size_alloc]; omega) _ rfl ?_); intro g1 cp1 w61 hown hgr hat _; have H6 := ST.out.snoc KQ0.out lt HP.out HT1.out HI1.out HF1.out (by rw [HN.out]; exact hown) hgr (hat.imp id (fun e => by rw [e]; simp)); rw [HN.out] at H6; have H6 := Lib.hid H6; clear hown hgr hat; have N1 := Lib.hid (need_yes' hc H6.out.i ⟨#[46, 46]⟩ q1 hr1))
                  | (go_at_call 49; ((with_reducible refine N1.out.mono ?_); rintro e w7 ⟨rfl, hT, hI⟩; have H7 := Lib.hid (H6.out.turn lt HP.out hT hI); have hs7 := H7.out.t.size; have hz7 := H7.out.z.lt; obtain ⟨pl2, cl2, kq2⟩ := H7.out.k; have KQ2 := Lib.hid kq2; have CH2 := Lib.hid (hIC.ok H7.out.i h2); clear hT hI kq2))
                  | (go_at_call 24; ((with_reducible refine CH2.out.mono ?_); rintro e w52 ⟨o2, n2, s2, p2, k2, c2, rfl, hT, hI, hF⟩; have HT2 := Lib.hid hT; have HI2 := Lib.hid hI; have HF2 := Lib.hid hF; have hsz2 := hT.size; clear hT hI hF))
                  | (at_builtin; (refine wpList_append_lies _ rfl _ _ 22 rfl (w.heap.size + 2) 24 j0 (.agg #[.int .i64 0, .int .i64 0, .string ⟨#[]⟩, .slice none 0 0]) 4 56 Tryz.underlying22 gi gz0 gz1 gz2 rfl (by decide) (.slice (some ⟨g1, 0, none⟩) (N + 1) cp1) (N + 1) _ rfl (by have := kq_in KQ2.out HT2.out (by omega) (.cells #[.int .i64 o2, .int .i64 n2, .string s2, .slice p2 k2 c2] 24); rw [HN2.out] at this; exact this) ⟨w52.heap.size, 0, none⟩ 1 1 [.int .i64 o2, .int .i64 n2, .string s2, .slice p2 k2 c2] rfl rfl (by exact ExW.cell_four_at rfl _ _ _ _ _) (one_four _ _ _ _ _ _) (by omega) (by unfold maxLen; omega) (by omega) (by simp only [World.size_alloc]; omega) _ rfl ?_); intro g2 cp2 w62 hown hgr hat _; have H8 := H7.out.snoc KQ2.out lt HP.out HT2.out HI2.out HF2.out (by rw [HN2.out]; exact hown) hgr (hat.imp id (fun e => by rw [e]; simp)); rw [HN2.out] at H8; have H8 := Lib.hid H8; clear hown hgr hat; have SK := Lib.hid (skip_no H8.out.i ⟨#[44]⟩ q2))
                  | (go_at_call 48; ((with_reducible refine SK.out.mono ?_); rintro e w9 ⟨rfl, rfl⟩; have N3 := Lib.hid (need_yes' hc H8.out.i ⟨#[125]⟩ q3 hr2)))
                  | (go_at_call 49; ((with_reducible refine N3.out.mono ?_); rintro e wA ⟨rfl, hT, hI⟩; have HA := Lib.hid (H8.out.turn lt HP.out hT hI); clear hT hI))
                  | (go_at_call 50; ((with_reducible refine (node_any _ _ _ _ _).mono ?_); rintro e wB ⟨rfl, hb⟩; have FZ := Lib.hid (HA.out.z.stay hb); have d0 := FZ.out.c0; have d1 := FZ.out.c1; have d2 := FZ.out.c2; have d3 := FZ.out.c3; have y0 := FZ.out.f0; have y1 := FZ.out.f1; have y2 := FZ.out.f2; have y3 := FZ.out.f3; have HB := Lib.hid hb; clear hb)))
                have hF := FZ.out.put (.int .i64 23) (.int .i64 0) (.string ⟨#[]⟩) (.slice (some ⟨g2, 0, none⟩) (N + 1 + 1) cp2)
                have r0' := hF.c0
                have r1' := hF.c1
                have r2' := hF.c2
                have r3' := hF.c3
                clear hF
                refine bodyPost_ret (v := xv 23 0 ⟨#[]⟩ (.slice (some ⟨g2, 0, none⟩) (N + 1 + 1) cp2)) (by simp [results, Tryz.results90, go_sem, r0', r1', r2', r3']) rfl ?_
                show tOkP L sl w0 r2.tail (nod 23 (acc ++ [a, b])) P w _ _
                rw [HLL.out]
                exact HA.out.done lt HP.out HB.out (by rw [HL.out]; omega)
              · rw [if_neg q3] at hrun
                subst hrun
                clear h1 kq hst hN
                go_wp2_with (first
                  | (go_at_call 24; ((with_reducible refine CH1.out.mono ?_); rintro e w51 ⟨o1, n1, s1, p1, k1, c1, rfl, hT, hI, hF⟩; have HT1 := Lib.hid hT; have HI1 := Lib.hid hI; have HF1 := Lib.hid hF; have hsz1 := hT.size; clear hT hI hF))
                  | (at_builtin; (refine wpList_append_lies _ rfl _ _ 22 rfl (w.heap.size + 2) 24 j0 (.agg #[.int .i64 0, .int .i64 0, .string ⟨#[]⟩, .slice none 0 0]) 4 56 Tryz.underlying22 gi gz0 gz1 gz2 rfl (by decide) (.slice vp N vc) N _ rfl (by have := kq_in KQ0.out HT1.out (by omega) (.cells #[.int .i64 o1, .int .i64 n1, .string s1, .slice p1 k1 c1] 24); rw [HN.out] at this; exact this) ⟨w51.heap.size, 0, none⟩ 1 1 [.int .i64 o1, .int .i64 n1, .string s1, .slice p1 k1 c1] rfl rfl (by exact ExW.cell_four_at rfl _ _ _ _ _) (one_four _ _ _ _ _ _) (by omega) (by unfold maxLen; omega) (by omega) (by simp only [World.size_alloc]; omega) _ rfl ?_); intro g1 cp1 w61 hown hgr hat _; have H6 := ST.out.snoc KQ0.out lt HP.out HT1.out HI1.out HF1.out (by rw [HN.out]; exact hown) hgr (hat.imp id (fun e => by rw [e]; simp)); rw [HN.out] at H6; have H6 := Lib.hid H6; clear hown hgr hat; have N1 := Lib.hid (need_yes' hc H6.out.i ⟨#[46, 46]⟩ q1 hr1))
                  | (go_at_call 49; ((with_reducible refine N1.out.mono ?_); rintro e w7 ⟨rfl, hT, hI⟩; have H7 := Lib.hid (H6.out.turn lt HP.out hT hI); have hs7 := H7.out.t.size; have hz7 := H7.out.z.lt; obtain ⟨pl2, cl2, kq2⟩ := H7.out.k; have KQ2 := Lib.hid kq2; have CH2 := Lib.hid (hIC.ok H7.out.i h2); clear hT hI kq2))
                  | (go_at_call 24; ((with_reducible refine CH2.out.mono ?_); rintro e w52 ⟨o2, n2, s2, p2, k2, c2, rfl, hT, hI, hF⟩; have HT2 := Lib.hid hT; have HI2 := Lib.hid hI; have HF2 := Lib.hid hF; have hsz2 := hT.size; clear hT hI hF))
                  | (at_builtin; (refine wpList_append_lies _ rfl _ _ 22 rfl (w.heap.size + 2) 24 j0 (.agg #[.int .i64 0, .int .i64 0, .string ⟨#[]⟩, .slice none 0 0]) 4 56 Tryz.underlying22 gi gz0 gz1 gz2 rfl (by decide) (.slice (some ⟨g1, 0, none⟩) (N + 1) cp1) (N + 1) _ rfl (by have := kq_in KQ2.out HT2.out (by omega) (.cells #[.int .i64 o2, .int .i64 n2, .string s2, .slice p2 k2 c2] 24); rw [HN2.out] at this; exact this) ⟨w52.heap.size, 0, none⟩ 1 1 [.int .i64 o2, .int .i64 n2, .string s2, .slice p2 k2 c2] rfl rfl (by exact ExW.cell_four_at rfl _ _ _ _ _) (one_four _ _ _ _ _ _) (by omega) (by unfold maxLen; omega) (by omega) (by simp only [World.size_alloc]; omega) _ rfl ?_); intro g2 cp2 w62 hown hgr hat _; have H8 := H7.out.snoc KQ2.out lt HP.out HT2.out HI2.out HF2.out (by rw [HN2.out]; exact hown) hgr (hat.imp id (fun e => by rw [e]; simp)); rw [HN2.out] at H8; have H8 := Lib.hid H8; clear hown hgr hat; have SK := Lib.hid (skip_no H8.out.i ⟨#[44]⟩ q2))
                  | (go_at_call 48; ((with_reducible refine SK.out.mono ?_); rintro e w9 ⟨rfl, rfl⟩; have N3 := Lib.hid (need_no' hc H8.out.i ⟨#[125]⟩ q3)))
                  | (go_at_call 49; ((with_reducible refine N3.out.mono ?_); rintro e wA ⟨rfl, hT⟩; have HA := Lib.hid (H8.out.t.then_ hT); clear hT)))
                exact ⟨rfl, rfl, HA.out⟩
          · rw [h2] at hrun
            have hX : Rs.bad er k = X := hrun
            subst hX
            clear h1 kq hst hN hrun
            go_wp2_with (first
              | (go_at_call 24; ((with_reducible refine CH1.out.mono ?_); rintro e w51 ⟨o1, n1, s1, p1, k1, c1, rfl, hT, hI, hF⟩; have HT1 := Lib.hid hT; have HI1 := Lib.hid hI; have HF1 := Lib.hid hF; have hsz1 := hT.size; clear hT hI hF))
              | (at_builtin; (refine wpList_append_lies _ rfl _ _ 22 rfl (w.heap.size + 2) 24 j0 (.agg #[.int .i64 0, .int .i64 0, .string ⟨#[]⟩, .slice none 0 0]) 4 56 Tryz.underlying22 gi gz0 gz1 gz2 rfl (by decide) (.slice vp N vc) N _ rfl (by have := kq_in KQ0.out HT1.out (by omega) (.cells #[.int .i64 o1, .int .i64 n1, .string s1, .slice p1 k1 c1] 24); rw [HN.out] at this; exact this) ⟨w51.heap.size, 0, none⟩ 1 1 [.int .i64 o1, .int .i64 n1, .string s1, .slice p1 k1 c1] rfl rfl (by exact ExW.cell_four_at rfl _ _ _ _ _) (one_four _ _ _ _ _ _) (by omega) (by unfold maxLen; omega) (by omega) (by simp only [World.size_alloc]; omega) _ rfl ?_); intro g1 cp1 w61 hown hgr hat _; have H6 := ST.out.snoc KQ0.out lt HP.out HT1.out HI1.out HF1.out (by rw [HN.out]; exact hown) hgr (hat.imp id (fun e => by rw [e]; simp)); rw [HN.out] at H6; have H6 := Lib.hid H6; clear hown hgr hat; have N1 := Lib.hid (need_yes' hc H6.out.i ⟨#[46, 46]⟩ q1 hr1))
              | (go_at_call 49; ((with_reducible refine N1.out.mono ?_); rintro e w7 ⟨rfl, hT, hI⟩; have H7 := Lib.hid (H6.out.turn lt HP.out hT hI); have hs7 := H7.out.t.size; have hz7 := H7.out.z.lt; obtain ⟨pl2, cl2, kq2⟩ := H7.out.k; have KQ2 := Lib.hid kq2; have CH2 := Lib.hid (hIC.bad H7.out.i h2); clear hT hI kq2))
              | (go_at_call 24; ((with_reducible refine CH2.out.mono ?_); rintro e wA ⟨rfl, hT⟩; have HA := Lib.hid (H7.out.t.then_ hT); clear hT)))
            exact ⟨rfl, rfl, HA.out⟩
          · rw [h2] at hrun; exact absurd hrun.symm hne
        · unfold need at hrun
          rw [if_neg q1] at hrun
          subst hrun
          clear h1 kq hst hN
          go_wp2_with (first
            | (go_at_call 24; ((with_reducible refine CH1.out.mono ?_); rintro e w51 ⟨o1, n1, s1, p1, k1, c1, rfl, hT, hI, hF⟩; have HT1 := Lib.hid hT; have HI1 := Lib.hid hI; have HF1 := Lib.hid hF; have hsz1 := hT.size; clear hT hI hF))
            | (at_builtin; (refine wpList_append_lies _ rfl _ _ 22 rfl (w.heap.size + 2) 24 j0 (.agg #[.int .i64 0, .int .i64 0, .string ⟨#[]⟩, .slice none 0 0]) 4 56 Tryz.underlying22 gi gz0 gz1 gz2 rfl (by decide) (.slice vp N vc) N _ rfl (by have := kq_in KQ0.out HT1.out (by omega) (.cells #[.int .i64 o1, .int .i64 n1, .string s1, .slice p1 k1 c1] 24); rw [HN.out] at this; exact this) ⟨w51.heap.size, 0, none⟩ 1 1 [.int .i64 o1, .int .i64 n1, .string s1, .slice p1 k1 c1] rfl rfl (by exact ExW.cell_four_at rfl _ _ _ _ _) (one_four _ _ _ _ _ _) (by omega) (by unfold maxLen; omega) (by omega) (by simp only [World.size_alloc]; omega) _ rfl ?_); intro g1 cp1 w61 hown hgr hat _; have H6 := ST.out.snoc KQ0.out lt HP.out HT1.out HI1.out HF1.out (by rw [HN.out]; exact hown) hgr (hat.imp id (fun e => by rw [e]; simp)); rw [HN.out] at H6; have H6 := Lib.hid H6; clear hown hgr hat; have N1 := Lib.hid (need_no' hc H6.out.i ⟨#[46, 46]⟩ q1))
            | (go_at_call 49; ((with_reducible refine N1.out.mono ?_); rintro e wA ⟨rfl, hT⟩; have HA := Lib.hid (H6.out.t.then_ hT); clear hT)))
          exact ⟨rfl, rfl, HA.out⟩
      · rw [h1] at hrun
        have hX : Rs.bad er k = X := hrun
        subst hX
        have CH1 := Lib.hid (hIC.bad hst.i h1)
        clear h1 kq hst hN hrun
        go_wp2_with (first
          | (go_at_call 24; ((with_reducible refine CH1.out.mono ?_); rintro e wA ⟨rfl, hT⟩; have HA := Lib.hid (ST.out.t.then_ hT); clear hT)))
        exact ⟨rfl, rfl, HA.out⟩
      · rw [h1] at hrun; exact absurd hrun.symm hne
  · unfold need
    rw [if_neg q]
    show Calls _ _ _ _ (tBad L w0 (fErr r) r.length w)
    have NC := Lib.hid (need_no' hc h3.i ⟨#[123]⟩ q)
    clear hne h h3 hx E0 hP
    go_enter Tryz.func90, Tryz.ntmps90
    go_wp2_with (first
      | (go_at_call 49; ((with_reducible refine NC.out.mono ?_); rintro e w4 ⟨rfl, hT⟩; have HT4 := Lib.hid (HTA.out.then_ hT); clear hT)))
    exact ⟨rfl, rfl, HT4.out⟩
end Go.Proofs.YtlnomiiphlbamaaGreatDoor.EtW
namespace Go.Proofs.YtlnomiiphlbamaaGreatDoor.EtW
open Go Go.RowKit Go.Proofs.YtlnomiiphlbamaaGreatDoor.NumM Go.Proofs.YtlnomiiphlbamaaGreatDoor.LexW Go.Proofs.YtlnomiiphlbamaaGreatDoor.LexM Go.Proofs.YtlnomiiphlbamaaGreatDoor.ExM Go.Proofs.YtlnomiiphlbamaaGreatDoor.ExW Go.Proofs.YtlnomiiphlbamaaGreatDoor.EtM

/-- What stands while an operation is read: the parser, the result's box, the box of the expression so far, in new memory. -/
structure OpS (L : List Tk) (sl : Value) (w0 w : World) (E : Nat) (r : List Tk) (W : World) (o n : Int) (s : ByteArray) (p : Option Addr) (k c : Nat) (x : Ex) : Prop where
  i : In L sl w0 r W
  t : Tn w0 w W
  z : Four W w.heap.size (.int .i64 0) (.int .i64 0) (.string ⟨#[]⟩) (.slice none 0 0)
  b : Four W E (.int .i64 o) (.int .i64 n) (.string s) (.slice p k c)
  x : ExS (fun b => New w W b ∧ b ≠ w.heap.size ∧ b ≠ E) W (xv o n s (.slice p k c)) x
  e : w.heap.size < E
theorem OpS.turn {L : List Tk} {sl : Value} {w0 w : World} {E : Nat} {r : List Tk} {W : World} {o n : Int} {s : ByteArray} {p : Option Addr} {k c : Nat} {x : Ex} (h : OpS L sl w0 w E r W o n s p k c x) (lt : w0.heap.size < w.heap.size) {r' : List Tk} {W' : World} (hg : Tn w0 W W') (hi : In L sl w0 r' W') : OpS L sl w0 w E r' W' o n s p k c x :=
  ⟨hi, h.t.then_ hg, four_turn h.z hg lt, four_turn h.b hg (by have := h.e; omega), ex_wide (ex_turn h.x hg (fun b q => ⟨q.1.2, by have := q.1.1; omega⟩)) (fun b q => ⟨⟨q.1.1, Nat.lt_of_lt_of_le q.1.2 hg.size⟩, q.2⟩), h.e⟩
theorem OpS.later {L : List Tk} {sl : Value} {w0 w : World} {E : Nat} {r : List Tk} {W : World} {o n : Int} {s : ByteArray} {p : Option Addr} {k c : Nat} {x : Ex} (h : OpS L sl w0 w E r W o n s p k c x) (lt : w0.heap.size < w.heap.size) {W' : World} (hb : Below W.heap.size W W') : OpS L sl w0 w E r W' o n s p k c x := h.turn lt (tn_below hb) (h.i.later hb)
theorem OpS.put {L : List Tk} {sl : Value} {w0 w : World} {E : Nat} {r : List Tk} {W : World} {o n : Int} {s : ByteArray} {p : Option Addr} {k c : Nat} {x : Ex} (h : OpS L sl w0 w E r W o n s p k c x) (lt : w0.heap.size < w.heap.size) {r' : List Tk} {W' : World} {o' n' : Int} {s' : ByteArray} {p' : Option Addr} {k' c' : Nat} {x' : Ex} (hT : Tn w0 W W') (hI : In L sl w0 r' W') (hX : ExS (fun b => (New w W b ∧ b ≠ w.heap.size ∧ b ≠ E) ∨ New W W' b) W' (xv o' n' s' (.slice p' k' c')) x') :
    OpS L sl w0 w E r' ((((W'.setCell ⟨E, 0, none⟩ (.int .i64 o')).setCell ⟨E, 1, none⟩ (.int .i64 n')).setCell ⟨E, 2, none⟩ (.string s')).setCell ⟨E, 3, none⟩ (.slice p' k' c')) o' n' s' p' k' c' x' := by
  have he := h.e
  have hbl := h.b.lt
  have hs := hT.size
  have hsw := h.t.size
  refine ⟨in_put hI (by omega) _ _ _ _, tn_put (h.t.then_ hT) (by omega) _ _ _ _, four_away (four_turn h.z hT lt) (by omega) _ _ _ _, (four_turn h.b hT (by omega)).put _ _ _ _, ex_wide (ex_away4 hX (fun q => q.elim (fun q => q.2.2 rfl) (fun q => by have := q.1; omega)) _ _ _ _) (fun b q => ?_), he⟩
  simp only [New, setCell_size] at *
  rcases q with q | q
  · exact ⟨⟨q.1.1, by omega⟩, q.2⟩
  · have := h.z.lt
    exact ⟨⟨by omega, q.2⟩, by omega, by omega⟩
theorem OpS.done {L : List Tk} {sl : Value} {w0 w : World} {E : Nat} {r : List Tk} {W : World} {o n : Int} {s : ByteArray} {p : Option Addr} {k c : Nat} {x : Ex} (h : OpS L sl w0 w E r W o n s p k c x) (lt : w0.heap.size < w.heap.size) : tOk L sl w0 r x w (.returned (xv o n s (.slice p k c))) ((((W.setCell ⟨w.heap.size, 0, none⟩ (.int .i64 o)).setCell ⟨w.heap.size, 1, none⟩ (.int .i64 n)).setCell ⟨w.heap.size, 2, none⟩ (.string s)).setCell ⟨w.heap.size, 3, none⟩ (.slice p k c)) :=
  done_box lt h.t h.i (ex_wide h.x (fun b q => ⟨by have := q.1.1; omega, q.1.2⟩))
theorem OpS.one {L : List Tk} {sl : Value} {w0 w w2 : World} {r : List Tk} {o n : Int} {s : ByteArray} {p : Option Addr} {k c : Nat} {x : Ex} (lt : w0.heap.size < w.heap.size) (hT : Tn w0 (w.alloc (.cells #[.int .i64 0, .int .i64 0, .string ⟨#[]⟩, .slice none 0 0] 24)) w2) (hI : In L sl w0 r w2) (hF : Fr (w.alloc (.cells #[.int .i64 0, .int .i64 0, .string ⟨#[]⟩, .slice none 0 0] 24)).heap.size w2 (xv o n s (.slice p k c)) x) :
    OpS L sl w0 w w2.heap.size r (w2.alloc (.cells #[.int .i64 o, .int .i64 n, .string s, .slice p k c] 24)) o n s p k c x := by
  have hs := hT.size
  rw [World.size_alloc] at hs
  refine ⟨hI.alloc _, ((tn_alloc _ _ _).then_ hT).then_ (tn_alloc _ _ _), (four_turn (Four.new w (.int .i64 0) (.int .i64 0) (.string ⟨#[]⟩) (.slice none 0 0) 24) hT lt).alloc _, Four.new _ _ _ _ _ _, ex_wide (ex_turn hF (tn_alloc w0 w2 _) (fun b q => ⟨q.2, by have := q.1; rw [World.size_alloc] at this; omega⟩)) (fun b q => ?_), by omega⟩
  have h1 := q.1
  have h2 := q.2
  rw [World.size_alloc] at h1
  exact ⟨⟨by omega, by rw [World.size_alloc]; omega⟩, by omega, by omega⟩
theorem bin_one (x : ByteArray) (w : World) (ht : TabE w) : ∃ (M : ByteArray) (k o : Int) (sw fd : Bool), Calls Tryz.prog 88 #[.string x] w (fun e w' => e = .returned (.tuple #[.agg #[.string M, .int .i64 k, .int .i64 o, .bool sw], .bool fd]) ∧ Below w.heap.size w w') ∧
    (fd = true → M = x ∧ bT x.data.toList = (k, o, sw) ∧ k ≠ 0) ∧ (fd = false → (bT x.data.toList).1 = 0) := by
  by_cases h : (bT x.data.toList).1 = 0
  · exact ⟨_, _, _, _, _, binMarked_no x w ht h, fun e => (by cases e), fun _ => h⟩
  · exact ⟨_, _, _, _, _, binMarked_yes x w ht h, fun _ => ⟨rfl, rfl, h⟩, fun e => (by cases e)⟩
def Rg (t : Int × Int × Bool) : Prop := t.1 = 0 ∨ (2 ≤ t.1 ∧ t.1 ≤ 12)
theorem rg_ite {p : Prop} [Decidable p] {a b : Int × Int × Bool} (h : Rg a) (k : Rg b) : Rg (if p then a else b) := by split <;> assumption
theorem bT_rng (x : List UInt8) (h : (bT x).1 ≠ 0) : 2 ≤ (bT x).1 ∧ (bT x).1 ≤ 12 := by
  have this : Rg (bT x) := by
    unfold bT
    repeat' (refine rg_ite ?_ ?_)
    all_goals first | (exact .inr ⟨by decide, by decide⟩) | (exact .inl rfl)
  exact this.resolve_left h
/-- What stands at each turn of the loop. -/
def OpR (L : List Tk) (sl : Value) (w0 w : World) (E f : Nat) (lv : Int) (X : Rs) (rc : Value) (wr : World) : Prop := ∃ (g : Nat) (rr : List Tk) (q o n : Int) (s : ByteArray) (p : Option Addr) (k c : Nat) (x : Ex), g ≤ f ∧ rc = .int .i64 q ∧ Hid (OpS L sl w0 w E rr wr o n s p k c x) ∧ Hid (run g (.lp lv q x) rr = X)
set_option maxRecDepth 100000 in
set_option maxHeartbeats 16000000 in
theorem operation_any {L : List Tk} {sl : Value} {w0 : World} (hc : Cx L sl w0) (f : Nat) (IP : Ct L sl w0 f .pf 87 #[pp w0]) (IJ : ∀ g, g ≤ f → CtJ L sl w0 g) (IR : ∀ g, g ≤ f → CtR L sl w0 g) (lv : Int) :
    Ct L sl w0 (f + 1) (.op lv) 47 #[pp w0, .int .i64 lv] := by
  intro r w h hne
  rw [run] at hne ⊢
  have lt := h.lt
  have hA := h.alloc (.cells #[.int .i64 0, .int .i64 0, .string ⟨#[]⟩, .slice none 0 0] 24)
  have HTA : Hid (Tn w0 w (w.alloc (.cells #[.int .i64 0, .int .i64 0, .string ⟨#[]⟩, .slice none 0 0] 24))) := Lib.hid (tn_alloc _ _ _)
  rcases h1 : run f .pf r with ⟨x1, r1⟩ | ⟨er, q⟩ | _
  · have PC := Lib.hid (IP.ok hA h1)
    rw [h1, bok] at hne
    rw [bok]
    obtain ⟨X, hX⟩ : ∃ X, run f (.lp lv 13 x1) r1 = X := ⟨_, rfl⟩
    rw [hX] at hne ⊢
    have HX := Lib.hid hX
    have HNE := Lib.hid hne
    have HIJ := Lib.hid IJ
    have HIR := Lib.hid IR
    clear h hA hX hne h1 IP IJ IR
    go_enter Tryz.func47, Tryz.ntmps47
    go_wp2_with (first
      | (go_at_call 87; ((with_reducible refine PC.out.mono ?_); rintro e w2 ⟨o2, n2, s2, p2, k2, c2, rfl, hT, hI, hF⟩; have S1 := Lib.hid (OpS.one lt hT hI hF); have hlE := hT.size; rw [World.size_alloc] at hlE; clear hT hI hF)))
    go_loopw [6] (fun rc wr => OpR L sl w0 w w2.heap.size f lv X rc wr) (fun _ W => leftW L w0 W)
    case atStart => exact ⟨f, r1, 13, _, _, _, _, _, _, _, Nat.le_refl _, rfl, S1, HX⟩
    case round =>
      obtain ⟨g, rr, q, o, n, s, p, k, c, x, hg, rfl, ST, RN⟩ := hrel
      have hrun := RN.out
      have hne := HNE.out
      rcases g with _ | g
      · exact absurd hrun.symm hne
      rw [run] at hrun
      have hIJ := HIJ.out g (by omega)
      have hIR := HIR.out g (by omega)
      have hst := ST.out
      have MZ := Lib.hid (hst.i.left)
      have b4 : wr.cell? ⟨w0.heap.size, 4, none⟩ = some (.string (bs (hdT rr).text)) := hst.i.blk.cell 4
      obtain ⟨M, bk, bo, sw, fd, hBM, hB1, hB2⟩ := bin_one (bs (hdT rr).text) wr (hst.i.tab hc)
      have BM := Lib.hid hBM
      obtain ⟨m, hm⟩ : ∃ m, bs (hdT rr).text = m := ⟨_, rfl⟩
      have hmt : tx rr = m.data.toList := by rw [← hm]; rfl
      rw [hm] at b4 BM hB1 hB2
      have lr := hst.t.size
      have lE := hst.b.lt
      by_cases a : (bT (tx rr)).1 ≠ 0 ∧ lv ≤ (bT (tx rr)).1 ∧ (bT (tx rr)).1 ≤ q
      · rw [if_pos a] at hrun
        have hr := bT_pos a.1
        have hrg := bT_rng _ a.1
        cases fd
        · exact absurd (by rw [hmt]; exact hB2 rfl) a.1
        obtain ⟨rfl, hbT, hk0⟩ := hB1 rfl
        rw [← hmt] at hbT
        rw [hbT] at hrun a hrg
        obtain ⟨_, a1, a2⟩ := a
        dsimp only at hrun a1 a2 hrg
        rcases h2 : run g (.jn bk bo sw x) rr.tail with ⟨x5, r5⟩ | ⟨er, k5⟩ | _
        · rw [h2, bok] at hrun
          have hl := run_len _ _ _ _ _ h2
          simp only [tk1, tl_len] at hl
          have HR := Lib.hid hrun
          have JC0 := Lib.hid (fun (w4 : World) (S4 : OpS L sl w0 w w2.heap.size rr.tail w4 o n s p k c x) (W : World) (hW : Below w4.heap.size w4 W) => show Calls _ _ _ W (tOkP L sl w0 r5 x5 (fun b => New w w4 b ∧ b ≠ w.heap.size ∧ b ≠ w2.heap.size) W) from by
            have := hIJ rr.tail W (fun b => New w w4 b ∧ b ≠ w.heap.size ∧ b ≠ w2.heap.size) M bk bo sw o n s p k c x (S4.i.later hW) hrg.1 hrg.2 (fun b q => ⟨Nat.lt_of_lt_of_le q.1.2 hW.size, by have := q.1.1; omega⟩) (ex_turn S4.x (tn_below (w0 := w0) hW) (fun b q => ⟨q.1.2, by have := q.1.1; omega⟩)) (by rw [h2]; exact ok_ne)
            rw [h2] at this
            exact this)
          clear hst hBM hB1 hB2 hrun h2 hIJ hIR hbT hm HIJ HIR
          go_wp2_with (first
            | (go_at_call 88; ((with_reducible refine BM.out.mono ?_); rintro e w3 ⟨rfl, hb⟩; have S3' := (ST.out.later lt hb).later lt ((Below.refl _ w3).alloc (Nat.le_refl _) (.cells #[.string M, .int .i64 bk, .int .i64 bo, .bool sw] 90)); have B3' := Four.new w3 (.string M) (.int .i64 bk) (.int .i64 bo) (.bool sw) 90; have g0 := B3'.c0; have g1 := B3'.c1; have g2 := B3'.c2; have g3 := B3'.c3; have x0 := S3'.b.c0; have x1 := S3'.b.c1; have x2 := S3'.b.c2; have x3 := S3'.b.c3; have l3 := hb.size; have lr := ST.out.t.size; have S3 := Lib.hid S3'; have B3 := Lib.hid B3'; have NC := Lib.hid (need_yes' hc S3'.i M hmt hr); clear hb b4 S3' B3'))
            | (go_at_call 49; ((with_reducible refine NC.out.mono ?_); rintro e w4 ⟨rfl, hT, hI⟩; have S4' := S3.out.turn lt hT hI; have B4' := four_turn B3.out hT (by omega); have l4 := hT.size; rw [World.size_alloc] at l4; clear g0 g1 g2 g3 x0 x1 x2 x3; have g0 := B4'.c0; have g1 := B4'.c1; have g2 := B4'.c2; have g3 := B4'.c3; have x0 := S4'.b.c0; have x1 := S4'.b.c1; have x2 := S4'.b.c2; have x3 := S4'.b.c3; have y0 := S4'.b.f0; have y1 := S4'.b.f1; have y2 := S4'.b.f2; have y3 := S4'.b.f3; have S4 := Lib.hid S4'; have B4 := Lib.hid B4'; clear hT hI S4' B4')))
          have JC := Lib.hid (JC0.out w4 S4.out)
          go_region_law (go_simp; go_at_call 89; (with_reducible refine (JC.out _ ?_).mono ?_); (first | exact (Below.refl _ _).drew | exact Below.refl _ _); rintro e w5 ⟨o5, n5, s5, p5, k5, c5, rfl, hT, hI, hX⟩; have hW := (Below.refl w4.heap.size w4).drew; have S5' := S4.out.later lt hW; have B5' := four_turn (B4.out.stay hW) hT (by omega); have F5 := four_turn S5'.b hT (by omega); clear g0 g1 g2 g3 x0 x1 x2 x3 y0 y1 y2 y3; have g0 := B5'.c0; have g1 := B5'.c1; have g2 := B5'.c2; have g3 := B5'.c3; have x0 := F5.c0; have x1 := F5.c1; have x2 := F5.c2; have x3 := F5.c3; have y0 := F5.f0; have y1 := F5.f1; have y2 := F5.f2; have y3 := F5.f3; have gz := (four_away B5' (b := w2.heap.size) (by omega) (.int .i64 o5) (.int .i64 n5) (.string s5) (.slice p5 k5 c5)).c1; have HTT := Lib.hid hT; have HII := Lib.hid hI; have HXX := Lib.hid hX; clear hT hI hX hW S5' B5' F5)
          all_goals
            go_wp2_with fail
            have S6 := Lib.hid ((S4.out.later lt (Below.refl w4.heap.size w4).drew).put lt HTT.out HII.out HXX.out)
            go_roundw
            case rel => exact ⟨g, r5, bk, _, _, _, _, _, _, _, by omega, rfl, S6, HR⟩
            case measure => rw [S6.out.i.left, MZ.out]; omega
        · rw [h2] at hrun
          have hX : Rs.bad er k5 = X := hrun
          subst hX
          have JC0 := Lib.hid (fun (w4 : World) (S4 : OpS L sl w0 w w2.heap.size rr.tail w4 o n s p k c x) (W : World) (hW : Below w4.heap.size w4 W) => show Calls _ _ _ W (tBad L w0 er k5 W) from by
            have := hIJ rr.tail W (fun b => New w w4 b ∧ b ≠ w.heap.size ∧ b ≠ w2.heap.size) M bk bo sw o n s p k c x (S4.i.later hW) hrg.1 hrg.2 (fun b q => ⟨Nat.lt_of_lt_of_le q.1.2 hW.size, by have := q.1.1; omega⟩) (ex_turn S4.x (tn_below (w0 := w0) hW) (fun b q => ⟨q.1.2, by have := q.1.1; omega⟩)) (by rw [h2]; intro e; cases e)
            rw [h2] at this
            exact this)
          clear hst hBM hB1 hB2 hrun h2 hIJ hIR hbT hm HIJ HIR
          go_wp2_with (first
            | (go_at_call 88; ((with_reducible refine BM.out.mono ?_); rintro e w3 ⟨rfl, hb⟩; have S3' := (ST.out.later lt hb).later lt ((Below.refl _ w3).alloc (Nat.le_refl _) (.cells #[.string M, .int .i64 bk, .int .i64 bo, .bool sw] 90)); have B3' := Four.new w3 (.string M) (.int .i64 bk) (.int .i64 bo) (.bool sw) 90; have g0 := B3'.c0; have g1 := B3'.c1; have g2 := B3'.c2; have g3 := B3'.c3; have x0 := S3'.b.c0; have x1 := S3'.b.c1; have x2 := S3'.b.c2; have x3 := S3'.b.c3; have l3 := hb.size; have lr := ST.out.t.size; have S3 := Lib.hid S3'; have B3 := Lib.hid B3'; have NC := Lib.hid (need_yes' hc S3'.i M hmt hr); clear hb b4 S3' B3'))
            | (go_at_call 49; ((with_reducible refine NC.out.mono ?_); rintro e w4 ⟨rfl, hT, hI⟩; have S4' := S3.out.turn lt hT hI; have B4' := four_turn B3.out hT (by omega); have l4 := hT.size; rw [World.size_alloc] at l4; clear g0 g1 g2 g3 x0 x1 x2 x3; have g0 := B4'.c0; have g1 := B4'.c1; have g2 := B4'.c2; have g3 := B4'.c3; have x0 := S4'.b.c0; have x1 := S4'.b.c1; have x2 := S4'.b.c2; have x3 := S4'.b.c3; have y0 := S4'.b.f0; have y1 := S4'.b.f1; have y2 := S4'.b.f2; have y3 := S4'.b.f3; have S4 := Lib.hid S4'; have B4 := Lib.hid B4'; clear hT hI S4' B4')))
          have JC := Lib.hid (JC0.out w4 S4.out)
          have KK := Lib.hid (fun W (hW : Below w4.heap.size w4 W) => s8 (B4.out.stay hW) (S4.out.b.stay hW))
          refine wp_region_held_drew (S := (fun w' => w'.cell? ⟨w3.heap.size, 0, none⟩ = some (.string M) ∧ w'.cell? ⟨w3.heap.size, 1, none⟩ = some (.int .i64 bk) ∧ w'.cell? ⟨w3.heap.size, 2, none⟩ = some (.int .i64 bo) ∧ w'.cell? ⟨w3.heap.size, 3, none⟩ = some (.bool sw) ∧ w'.cell? ⟨w2.heap.size, 0, none⟩ = some (.int .i64 o) ∧ w'.cell? ⟨w2.heap.size, 1, none⟩ = some (.int .i64 n) ∧ w'.cell? ⟨w2.heap.size, 2, none⟩ = some (.string s) ∧ w'.cell? ⟨w2.heap.size, 3, none⟩ = some (.slice p k c))) (by kernel_rfl) ?_ (fun hHeld => ?_)
          · exact KK.out _ (Below.refl _ _).drew
          refine wpAnyH_take (i := 0) (v := pp w0) rfl (by kernel_rfl) (by kernel_rfl) (by kernel_rfl) (fun _ _ _ h => h) (Or.inl ⟨by rfl, ?_⟩) hHeld ?_
          · intro w hSw
            (try dsimp only at hSw)
            go_simp
          simp only [Act.put]
          refine wpAnyH_take (i := 1) (v := (.agg #[.string M, .int .i64 bk, .int .i64 bo, .bool sw])) rfl (by kernel_rfl) (by kernel_rfl) (by kernel_rfl) (fun _ _ _ h => h) (Or.inl ⟨by rfl, ?_⟩) hHeld ?_
          · intro w hSw
            (try dsimp only at hSw)
            go_simp
          simp only [Act.put]
          refine wpAnyH_take (i := 2) (v := (.agg #[.int .i64 o, .int .i64 n, .string s, .slice p k c])) rfl (by kernel_rfl) (by kernel_rfl) (by kernel_rfl) (fun _ _ _ h => h) (Or.inl ⟨by rfl, ?_⟩) hHeld ?_
          · intro w hSw
            (try dsimp only at hSw)
            go_simp
          simp only [Act.put]
          refine wpAnyH_take (i := 4) (v := (.pointer (some ⟨w3.heap.size, 1, none⟩))) rfl (by kernel_rfl) (by kernel_rfl) (by kernel_rfl) (fun _ _ _ h => h) (Or.inl ⟨by rfl, ?_⟩) hHeld ?_
          · intro w hSw
            (try dsimp only at hSw)
            go_simp
          simp only [Act.put]
          refine wpAnyH_take (i := 5) (v := (.int .i64 bk)) rfl (by kernel_rfl) (by kernel_rfl) (by kernel_rfl) (fun _ _ _ h => h) (Or.inl ⟨by rfl, ?_⟩) hHeld ?_
          · intro w hSw
            (try dsimp only at hSw)
            go_simp
          simp only [Act.put]
          refine wpAnyH_ready (rs := [3]) (by kernel_rfl) (by simp) (AllReadyH.cons rfl (fun K hK => ?_) AllReadyH.nil)
          go_simp
          (go_at_call 89; (with_reducible refine (JC.out _ ?_).mono ?_); (first | exact (Below.refl _ _).drew | exact Below.refl _ _); rintro e w8 ⟨rfl, hT⟩; exact ⟨rfl, rfl, S4.out.t.then_ ((tn_below (w0 := w0) (Below.refl w4.heap.size w4).drew).then_ hT)⟩)
        · rw [h2] at hrun; exact absurd hrun.symm hne
      · rw [if_neg a] at hrun
        have hw : fd = false ∨ (fd = true ∧ ¬ lv ≤ bk) ∨ (fd = true ∧ lv ≤ bk ∧ ¬ bk ≤ q) := by
          cases fd
          · exact .inl rfl
          · obtain ⟨_, hbT, hk0⟩ := hB1 rfl
            rw [← hmt] at hbT
            rw [hbT] at a
            dsimp only at a
            by_cases a1 : lv ≤ bk
            · exact .inr (.inr ⟨rfl, a1, fun a2 => a ⟨hk0, a1, a2⟩⟩)
            · exact .inr (.inl ⟨rfl, a1⟩)
        by_cases a9 : lv ≤ 9
        · by_cases ai : tx rr = insW
          · rw [if_pos ⟨a9, ai⟩] at hrun
            have hr := tx_pos ai (by decide)
            rcases h2 : run g (.rg x) rr.tail with ⟨x5, r5⟩ | ⟨er, k5⟩ | _
            · rw [h2, bok] at hrun
              have hl := run_len _ _ _ _ _ h2
              simp only [tk1, tl_len] at hl
              have HR := Lib.hid hrun
              have JC0 := Lib.hid (fun (W : World) (S4 : OpS L sl w0 w w2.heap.size rr.tail W o n s p k c x) => show Calls _ _ _ W (tOkP L sl w0 r5 x5 (fun b => New w W b ∧ b ≠ w.heap.size ∧ b ≠ w2.heap.size) W) from by
                have := hIR rr.tail W (fun b => New w W b ∧ b ≠ w.heap.size ∧ b ≠ w2.heap.size) o n s p k c x S4.i (fun b q => ⟨q.1.2, by have := q.1.1; omega⟩) S4.x (by rw [h2]; exact ok_ne)
                rw [h2] at this
                exact this)
              clear hst hBM hB1 hB2 hrun h2 hIJ hIR hm a HIJ HIR
              rcases hw with rfl | ⟨rfl, hw1⟩ | ⟨rfl, hw1, hw2⟩
              all_goals
                go_wp2_with (first
                  | (go_at_call 88; ((with_reducible refine BM.out.mono ?_); rintro e w3 ⟨rfl, hb⟩; have S3' := (ST.out.later lt hb).later lt ((Below.refl _ w3).alloc (Nat.le_refl _) (.cells #[.string M, .int .i64 bk, .int .i64 bo, .bool sw] 90)); have B3' := Four.new w3 (.string M) (.int .i64 bk) (.int .i64 bo) (.bool sw) 90; have g0 := B3'.c0; have g1 := B3'.c1; have g2 := B3'.c2; have g3 := B3'.c3; have x0 := S3'.b.c0; have x1 := S3'.b.c1; have x2 := S3'.b.c2; have x3 := S3'.b.c3; have l3 := hb.size; have lr := ST.out.t.size; have S3 := Lib.hid S3'; have B3 := Lib.hid B3'; have SK := Lib.hid (skip_yes hc S3'.i ⟨#[105, 110, 115, 105, 100, 101]⟩ ai hr); clear hb b4 S3' B3'))
                  | (go_at_call 48; ((with_reducible refine SK.out.mono ?_); rintro e w4 ⟨rfl, hT, hI⟩; have S4' := S3.out.turn lt hT hI; clear x0 x1 x2 x3; have x0 := S4'.b.c0; have x1 := S4'.b.c1; have x2 := S4'.b.c2; have x3 := S4'.b.c3; have y0 := S4'.b.f0; have y1 := S4'.b.f1; have y2 := S4'.b.f2; have y3 := S4'.b.f3; have S4 := Lib.hid S4'; have JC := Lib.hid (JC0.out w4 S4'); clear hT hI S4'))
                  | (go_at_call 90; ((with_reducible refine JC.out.mono ?_); rintro e w5 ⟨o5, n5, s5, p5, k5, c5, rfl, hT, hI, hX⟩; have F5 := four_turn S4.out.b hT (by have := S4.out.e; omega); have S5 := Lib.hid (S4.out.put lt hT hI hX); clear x0 x1 x2 x3 y0 y1 y2 y3; have x0 := F5.c0; have x1 := F5.c1; have x2 := F5.c2; have x3 := F5.c3; have y0 := F5.f0; have y1 := F5.f1; have y2 := F5.f2; have y3 := F5.f3; clear hT hI hX F5)))
                go_roundw
                case rel => exact ⟨g, r5, 9, _, _, _, _, _, _, _, by omega, rfl, S5, HR⟩
                case measure => rw [S5.out.i.left, MZ.out]; omega
            · rw [h2] at hrun
              have hX : Rs.bad er k5 = X := hrun
              subst hX
              have JC0 := Lib.hid (fun (W : World) (S4 : OpS L sl w0 w w2.heap.size rr.tail W o n s p k c x) => show Calls _ _ _ W (tBad L w0 er k5 W) from by
                have := hIR rr.tail W (fun b => New w W b ∧ b ≠ w.heap.size ∧ b ≠ w2.heap.size) o n s p k c x S4.i (fun b q => ⟨q.1.2, by have := q.1.1; omega⟩) S4.x (by rw [h2]; intro e; cases e)
                rw [h2] at this
                exact this)
              clear hst hBM hB1 hB2 hrun h2 hIJ hIR hm a HIJ HIR
              rcases hw with rfl | ⟨rfl, hw1⟩ | ⟨rfl, hw1, hw2⟩
              all_goals
                go_wp2_with (first
                  | (go_at_call 88; ((with_reducible refine BM.out.mono ?_); rintro e w3 ⟨rfl, hb⟩; have S3' := (ST.out.later lt hb).later lt ((Below.refl _ w3).alloc (Nat.le_refl _) (.cells #[.string M, .int .i64 bk, .int .i64 bo, .bool sw] 90)); have B3' := Four.new w3 (.string M) (.int .i64 bk) (.int .i64 bo) (.bool sw) 90; have g0 := B3'.c0; have g1 := B3'.c1; have g2 := B3'.c2; have g3 := B3'.c3; have x0 := S3'.b.c0; have x1 := S3'.b.c1; have x2 := S3'.b.c2; have x3 := S3'.b.c3; have l3 := hb.size; have lr := ST.out.t.size; have S3 := Lib.hid S3'; have B3 := Lib.hid B3'; have SK := Lib.hid (skip_yes hc S3'.i ⟨#[105, 110, 115, 105, 100, 101]⟩ ai hr); clear hb b4 S3' B3'))
                  | (go_at_call 48; ((with_reducible refine SK.out.mono ?_); rintro e w4 ⟨rfl, hT, hI⟩; have S4' := S3.out.turn lt hT hI; clear x0 x1 x2 x3; have x0 := S4'.b.c0; have x1 := S4'.b.c1; have x2 := S4'.b.c2; have x3 := S4'.b.c3; have y0 := S4'.b.f0; have y1 := S4'.b.f1; have y2 := S4'.b.f2; have y3 := S4'.b.f3; have S4 := Lib.hid S4'; have JC := Lib.hid (JC0.out w4 S4'); clear hT hI S4'))
                  | (go_at_call 90; ((with_reducible refine JC.out.mono ?_); rintro e w5 ⟨rfl, hT⟩; have HB := Lib.hid (S4.out.t.then_ hT); clear hT)))
                exact ⟨rfl, rfl, HB.out⟩
            · rw [h2] at hrun; exact absurd hrun.symm hne
          · rw [if_neg (fun q => ai q.2)] at hrun
            subst hrun
            clear hst hBM hB1 hB2 hIJ hIR hm a HIJ HIR
            rcases hw with rfl | ⟨rfl, hw1⟩ | ⟨rfl, hw1, hw2⟩
            all_goals
              go_wp2_with (first
                | (go_at_call 88; ((with_reducible refine BM.out.mono ?_); rintro e w3 ⟨rfl, hb⟩; have S3' := (ST.out.later lt hb).later lt ((Below.refl _ w3).alloc (Nat.le_refl _) (.cells #[.string M, .int .i64 bk, .int .i64 bo, .bool sw] 90)); have B3' := Four.new w3 (.string M) (.int .i64 bk) (.int .i64 bo) (.bool sw) 90; have g0 := B3'.c0; have g1 := B3'.c1; have g2 := B3'.c2; have g3 := B3'.c3; have x0 := S3'.b.c0; have x1 := S3'.b.c1; have x2 := S3'.b.c2; have x3 := S3'.b.c3; have l3 := hb.size; have lr := ST.out.t.size; have S3 := Lib.hid S3'; have B3 := Lib.hid B3'; have SK := Lib.hid (skip_no S3'.i ⟨#[105, 110, 115, 105, 100, 101]⟩ ai); have d0 := S3.out.z.c0; have d1 := S3.out.z.c1; have d2 := S3.out.z.c2; have d3 := S3.out.z.c3; have y0 := S3.out.z.f0; have y1 := S3.out.z.f1; have y2 := S3.out.z.f2; have y3 := S3.out.z.f3; clear hb b4 S3' B3'))
                | (go_at_call 48; ((with_reducible refine SK.out.mono ?_); rintro e w4 ⟨rfl, rfl⟩; skip)))
              have hF := S3.out.z.put (.int .i64 o) (.int .i64 n) (.string s) (.slice p k c)
              have r0' := hF.c0
              have r1' := hF.c1
              have r2' := hF.c2
              have r3' := hF.c3
              clear hF
              refine bodyPost_ret (v := xv o n s (.slice p k c)) (by simp [results, Tryz.results47, go_sem, r0', r1', r2', r3']) rfl ?_
              exact S3.out.done lt
        · rw [if_neg (fun q => a9 q.1)] at hrun
          subst hrun
          clear hst hBM hB1 hB2 hIJ hIR hm a HIJ HIR
          rcases hw with rfl | ⟨rfl, hw1⟩ | ⟨rfl, hw1, hw2⟩
          all_goals
            go_wp2_with (go_at_call 88; ((with_reducible refine BM.out.mono ?_); rintro e w3 ⟨rfl, hb⟩; have S3' := (ST.out.later lt hb).later lt ((Below.refl _ w3).alloc (Nat.le_refl _) (.cells #[.string M, .int .i64 bk, .int .i64 bo, .bool sw] 90)); have B3' := Four.new w3 (.string M) (.int .i64 bk) (.int .i64 bo) (.bool sw) 90; have g0 := B3'.c0; have g1 := B3'.c1; have g2 := B3'.c2; have g3 := B3'.c3; have x0 := S3'.b.c0; have x1 := S3'.b.c1; have x2 := S3'.b.c2; have x3 := S3'.b.c3; have l3 := hb.size; have lr := ST.out.t.size; have S3 := Lib.hid S3'; have B3 := Lib.hid B3'; skip; have d0 := S3.out.z.c0; have d1 := S3.out.z.c1; have d2 := S3.out.z.c2; have d3 := S3.out.z.c3; have y0 := S3.out.z.f0; have y1 := S3.out.z.f1; have y2 := S3.out.z.f2; have y3 := S3.out.z.f3; clear hb b4 S3' B3'))
            have hF := S3.out.z.put (.int .i64 o) (.int .i64 n) (.string s) (.slice p k c)
            have r0' := hF.c0
            have r1' := hF.c1
            have r2' := hF.c2
            have r3' := hF.c3
            clear hF
            refine bodyPost_ret (v := xv o n s (.slice p k c)) (by simp [results, Tryz.results47, go_sem, r0', r1', r2', r3']) rfl ?_
            exact S3.out.done lt
  · show Calls _ _ _ _ (tBad L w0 er q w)
    have PC := Lib.hid (IP.bad hA h1)
    clear hne h h1 hA IJ IR
    go_enter Tryz.func47, Tryz.ntmps47
    go_wp2_with (go_at_call 87; ((with_reducible refine PC.out.mono ?_); rintro e w2 ⟨rfl, hT⟩; have HT2 := Lib.hid (HTA.out.then_ hT); clear hT))
    exact ⟨rfl, rfl, HT2.out⟩
  · rw [h1] at hne; exact absurd rfl hne
end Go.Proofs.YtlnomiiphlbamaaGreatDoor.EtW
