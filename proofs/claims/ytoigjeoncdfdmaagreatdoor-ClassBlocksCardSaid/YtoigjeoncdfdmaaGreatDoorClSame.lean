/-
  What the reference's Same, SameItems and texts return for equal arguments.
-/
import Derived.Test.YtoigjeoncdfdmaaGreatDoorClOwn
import Derived.BigQuiet
import Derived.Deep.QuietTactic
namespace Go.Proofs.YtoigjeoncdfdmaaGreatDoor.ClW
open Go Go.RowKit Go.Proofs.YtoigjeoncdfdmaaGreatDoor.NumM Go.Proofs.YtoigjeoncdfdmaaGreatDoor.LexW Go.Proofs.YtoigjeoncdfdmaaGreatDoor.LexM Go.Proofs.YtoigjeoncdfdmaaGreatDoor.ClM
open Go.«Sort»

theorem drewB {W w1 : World} {n : Nat} (h : Below W.heap.size W w1) : Below W.heap.size W (w1.drewN n) := ⟨h.os, h.tape, h.output, h.size, h.block⟩
set_option maxRecDepth 100000 in
set_option maxHeartbeats 4000000 in
theorem texts_any (l : List (List Lf)) (p p' : Option Addr) (cap cap' : Nat) (G G' : Nat → Nat → Value) (N : Nat) (w : World) (ha : RowA (Lo N) w .strs p cap G l) (hb : RowA (Lo N) w .strs p' cap' G' l) (hN : N ≤ w.heap.size) :
    Calls Tryz.prog 88 #[.slice p l.length cap, .slice p' l.length cap'] w (tBool true w) := by
  have HA := Lib.hid ha
  have HB := Lib.hid hb
  have hl := ha.hl
  simp only [byt] at hl
  obtain ⟨K, hK⟩ : ∃ K, l.length = K := ⟨_, rfl⟩
  have HK := Lib.hid hK
  rw [hK] at hl ⊢
  have hk : K ≤ 140737488351232 := by omega
  clear hK ha hb hl
  have HB0 := Lib.hid (Below.refl w.heap.size w)
  go_enter Tryz.func88, Tryz.ntmps88
  go_wp2
  go_loopw [5] (fun i wr => ∃ j : Nat, j ≤ K ∧ i = .int .i64 j ∧ Hid (Below w.heap.size w wr)) (fun i _ => K - (intOf i).toNat)
  case atStart => exact ⟨0, Nat.zero_le _, rfl, HB0⟩
  case round =>
    obtain ⟨j, hj, rfl, BW⟩ := hrel
    by_cases hlt : j < K
    · obtain ⟨x, hx⟩ : ∃ x, l[j]? = some x := ⟨_, List.getElem?_eq_getElem (by rw [HK.out]; exact hlt)⟩
      have hbw : Below N w wr := BW.out.mono hN
      obtain ⟨b, off, s, ex, rfl, hb, c0, hs⟩ := (HA.out.under hbw).st hx
      obtain ⟨b', off', s', ex', rfl, hb', c0', hs'⟩ := (HB.out.under hbw).st hx
      rw [ex] at ex'
      cases ex'
      clear ex hx hbw
      go_wp2
      go_quiet (fail)
      go_wp2
      go_roundw
      case rel => exact ⟨j + 1, by omega, by go_num, Lib.hid (drewB BW.out)⟩
      case measure => simp [intOf]; omega
    · go_wp2
      go_ret
      exact ⟨rfl, BW.out⟩
/-- An expression as a value. -/
abbrev ev (o n : Int) (s : ByteArray) (a : Value) : Value := .agg #[.int .i64 o, .int .i64 n, .string s, a]
set_option maxRecDepth 100000 in
set_option maxHeartbeats 8000000 in
theorem sameE_row (lf : Lf) : ∀ (l : List (List Lf)), lf = .row .exprs l → ∀ (o n : Int) (s : ByteArray) (N : Nat) (w : World) (p p' : Option Addr) (cap cap' : Nat), At (Lo N) w (.r .exprs) (.slice p l.length cap) (.row .exprs l) → At (Lo N) w (.r .exprs) (.slice p' l.length cap') (.row .exprs l) → N ≤ w.heap.size →
    Calls Tryz.prog 87 #[ev o n s (.slice p l.length cap), ev o n s (.slice p' l.length cap')] w (tBool true w) := by
  induction lf using lf_ind with
  | hn i => intro l h; cases h
  | hs t => intro l h; cases h
  | hb v => intro l h; cases h
  | hr k l0 ih =>
    intro l h
    injection h with hk0 hl0
    subst hk0
    obtain rfl : l = l0 := hl0.symm
    intro o n s N w p p' cap cap' ha hb hN
    obtain ⟨q1, c1, G, e1, ra⟩ := ha.rowOf
    obtain ⟨q2, c2, G', e2, rb⟩ := hb.rowOf
    cases e1
    cases e2
    have HA := Lib.hid ra
    have HB := Lib.hid rb
    have hl := ra.hl
    simp only [byt] at hl
    have HIH : Hid (∀ x ∈ l, ∀ y ∈ x, ∀ (l' : List (List Lf)), y = .row .exprs l' → ∀ (o n : Int) (s : ByteArray) (w : World) (p p' : Option Addr) (cap cap' : Nat), At (Lo N) w (.r .exprs) (.slice p l'.length cap) (.row .exprs l') → At (Lo N) w (.r .exprs) (.slice p' l'.length cap') (.row .exprs l') → N ≤ w.heap.size →
        Calls Tryz.prog 87 #[ev o n s (.slice p l'.length cap), ev o n s (.slice p' l'.length cap')] w (tBool true w)) := Lib.hid fun x hx y hy l' e o n s w p p' cap cap' a b c => ih x hx y hy l' e o n s N w p p' cap cap' a b c
    obtain ⟨K, hK⟩ : ∃ K, l.length = K := ⟨_, rfl⟩
    have HK := Lib.hid hK
    rw [hK] at hl ⊢
    have hk : K ≤ 140737488351232 := by omega
    clear hK ha hb hl ra rb ih
    have FA := (Blk.new w [.int .i64 o, .int .i64 n, .string s, .slice p K cap] 82).alloc (.cells #[.int .i64 o, .int .i64 n, .string s, .slice p' K cap'] 82)
    have FB := Blk.new (w.alloc (.cells #[.int .i64 o, .int .i64 n, .string s, .slice p K cap] 82)) [.int .i64 o, .int .i64 n, .string s, .slice p' K cap'] 82
    rw [World.size_alloc] at FB
    have HB1 : Hid (Below w.heap.size w ((w.alloc (.cells #[.int .i64 o, .int .i64 n, .string s, .slice p K cap] 82)).alloc (.cells #[.int .i64 o, .int .i64 n, .string s, .slice p' K cap'] 82))) := Lib.hid (((Below.refl _ _).alloc (Nat.le_refl _) _).alloc (by simp) _)
    have e0 := FA.c 0 _ rfl
    have e1 := FA.c 1 _ rfl
    have e2 := FA.c 2 _ rfl
    have e3 := FA.c 3 _ rfl
    have g0 := FB.c 0 _ rfl
    have g1 := FB.c 1 _ rfl
    have g2 := FB.c 2 _ rfl
    have g3 := FB.c 3 _ rfl
    have HFA := Lib.hid FA
    have HFB := Lib.hid FB
    clear FA FB
    go_enter Tryz.func87, Tryz.ntmps87
    go_wp2
    go_loopw [5] (fun i wr => ∃ j : Nat, j ≤ K ∧ i = .int .i64 j ∧ Hid (Below w.heap.size w wr) ∧ Hid (Blk wr w.heap.size [.int .i64 o, .int .i64 n, .string s, .slice p K cap]) ∧ Hid (Blk wr (w.heap.size + 1) [.int .i64 o, .int .i64 n, .string s, .slice p' K cap'])) (fun i _ => K - (intOf i).toNat)
    case atStart => exact ⟨0, Nat.zero_le _, rfl, HB1, HFA, HFB⟩
    case round =>
      obtain ⟨j, hj, rfl, BW, FA, FB⟩ := hrel
      clear e0 e1 e2 e3 g0 g1 g2 g3
      have e3 := FA.out.c 3 _ rfl
      have g3 := FB.out.c 3 _ rfl
      by_cases hlt : j < K
      · obtain ⟨x, hx⟩ : ∃ x, l[j]? = some x := ⟨_, List.getElem?_eq_getElem (by rw [HK.out]; exact hlt)⟩
        have hbw : Below N w wr := BW.out.mono hN
        obtain ⟨b, off, ao, an, am, ak, pa, ca, ex, rfl, hb, a0, a1, a2, a3, hs, hat⟩ := (HA.out.under hbw).ex hx
        obtain ⟨b', off', ao', an', am', ak', pa', ca', ex', rfl, hb', a0', a1', a2', a3', hs', hat'⟩ := (HB.out.under hbw).ex hx
        rw [ex] at ex'
        cases ex'
        have HC : ∀ W, Below wr.heap.size wr W → Calls Tryz.prog 87 #[ev ao an am (.slice pa ak.length ca), ev ao an am (.slice pa' ak.length ca')] W (tBool true W) := fun W hW =>
          HIH.out x (List.mem_of_getElem? hx) (.row .exprs ak) (by rw [ex]; simp) ak rfl ao an am W pa pa' ca ca' (hat.under (hW.mono (by have := BW.out.size; omega))) (hat'.under (hW.mono (by have := BW.out.size; omega))) (by have := BW.out.size; have := hW.size; omega)
        have EC := reB (v := .bool true) HC
        have m1 := cell_regrown e3
        have m2 := cell_regrown g3
        have m3 := cell_regrown a0
        have m4 := cell_regrown a1
        have m5 := cell_regrown a2
        have m6 := cell_regrown a3
        have m7 := cell_regrown a0'
        have m8 := cell_regrown a1'
        have m9 := cell_regrown a2'
        have m10 := cell_regrown a3'
        clear hbw hat hat' hx ex HC
        go_wp2
        refine wp_region_quiet_below (by kernel_rfl) (by kernel_rfl) ?_
        repeat (first | go_big_quiet_step ((go_at_call 87; with_reducible exact EC _ _)) | quiet_step ((go_at_call 87; with_reducible exact EC _ _)))
        refine wpQuiet_nil ?_
        intro w4 hw'
        obtain ⟨pq, hw''⟩ := hw'
        have HX : Hid (Below wr.heap.size wr w4) := Lib.hid (by rw [hw'']; exact below_regrown _ _ _)
        clear hw'' m1 m2 m3 m4 m5 m6 m7 m8 m9 m10 EC e3 g3 a0 a1 a2 a3 a0' a1' a2' a3'
        go_wp2
        go_roundw
        case rel => exact ⟨j + 1, by omega, by go_num, Lib.hid (BW.out.then_ HX.out), Lib.hid (FA.out.stay HX.out), Lib.hid (FB.out.stay HX.out)⟩
        case measure => simp [intOf]; omega
      · go_wp2
        go_ret
        exact ⟨rfl, BW.out⟩
theorem sameE_any (l : List (List Lf)) (o n : Int) (s : ByteArray) (N : Nat) (w : World) (p p' : Option Addr) (cap cap' : Nat) (ha : At (Lo N) w (.r .exprs) (.slice p l.length cap) (.row .exprs l)) (hb : At (Lo N) w (.r .exprs) (.slice p' l.length cap') (.row .exprs l)) (hN : N ≤ w.heap.size) :
    Calls Tryz.prog 87 #[ev o n s (.slice p l.length cap), ev o n s (.slice p' l.length cap')] w (tBool true w) := sameE_row _ l rfl o n s N w p p' cap cap' ha hb hN
theorem run_wt_neq (W : World) (a b c : Int) (d : Bool) : (binOp .neq 115 (.agg #[.int .i64 a, .int .i64 b, .int .i64 c, .bool d]) (.agg #[.int .i64 a, .int .i64 b, .int .i64 c, .bool d])).run Tryz.prog W = .ok (.bool false) W := by
  simp [go_sem]
theorem run_fd_neq (W : World) (s : ByteArray) (a b c d : Int) : (binOp .neq 27 (fv s a b c d) (fv s a b c d)).run Tryz.prog W = .ok (.bool false) W := by
  simp [go_sem]
/-- The cells of a constraint. -/
abbrev ic (y : ItL) (q : ItP) : List Value := [.int .i64 y.kd, .int .i64 y.op, .int .i64 y.n, .string y.en, .slice q.p4 y.ea.length q.c4, .string y.nm, .string y.ix, .slice q.p7 y.ws.length q.c7, .slice q.p8 y.it.length q.c8, .slice q.p9 y.el.length q.c9, .slice q.p10 y.bf.length q.c10, .slice q.p11 y.af.length q.c11]
abbrev iv (y : ItL) (q : ItP) : Value := .agg (ic y q).toArray
set_option maxRecDepth 100000 in
set_option maxHeartbeats 16000000 in
theorem sameItem_any (y : ItL) (N : Nat) (w : World) (q r : ItP) (ha : IV (Lo N) w q y) (hb : IV (Lo N) w r y) (hN : N ≤ w.heap.size)
    (hi : ∀ W, Below w.heap.size w W → Calls Tryz.prog 53 #[.slice q.p8 y.it.length q.c8, .slice r.p8 y.it.length r.c8] W (tBool true W))
    (he : ∀ W, Below w.heap.size w W → Calls Tryz.prog 53 #[.slice q.p9 y.el.length q.c9, .slice r.p9 y.el.length r.c9] W (tBool true W)) :
    Calls Tryz.prog 75 #[iv y q, iv y r] w (tBool true w) := by
  have SE : Hid (∀ W, Below w.heap.size w W → Calls Tryz.prog 87 #[ev y.op y.n y.en (.slice q.p4 y.ea.length q.c4), ev y.op y.n y.en (.slice r.p4 y.ea.length r.c4)] W (tBool true W)) := Lib.hid fun W hW => sameE_any y.ea y.op y.n y.en N W q.p4 r.p4 q.c4 r.c4 (ha.ea.under (hW.mono hN)) (hb.ea.under (hW.mono hN)) (by have := hW.size; omega)
  have SB : Hid (∀ W, Below w.heap.size w W → Calls Tryz.prog 88 #[.slice q.p10 y.bf.length q.c10, .slice r.p10 y.bf.length r.c10] W (tBool true W)) := Lib.hid fun W hW => by
    obtain ⟨_, _, G, e1, ra⟩ := ha.bf.rowOf
    obtain ⟨_, _, G', e2, rb⟩ := hb.bf.rowOf
    cases e1
    cases e2
    exact texts_any y.bf _ _ _ _ G G' N W (ra.under (hW.mono hN)) (rb.under (hW.mono hN)) (by have := hW.size; omega)
  have SA : Hid (∀ W, Below w.heap.size w W → Calls Tryz.prog 88 #[.slice q.p11 y.af.length q.c11, .slice r.p11 y.af.length r.c11] W (tBool true W)) := Lib.hid fun W hW => by
    obtain ⟨_, _, G, e1, ra⟩ := ha.af.rowOf
    obtain ⟨_, _, G', e2, rb⟩ := hb.af.rowOf
    cases e1
    cases e2
    exact texts_any y.af _ _ _ _ G G' N W (ra.under (hW.mono hN)) (rb.under (hW.mono hN)) (by have := hW.size; omega)
  have SI := Lib.hid hi
  have SL := Lib.hid he
  obtain ⟨_, _, G, e1, ra⟩ := ha.ws.rowOf
  obtain ⟨_, _, G', e2, rb⟩ := hb.ws.rowOf
  cases e1
  cases e2
  have HA := Lib.hid ra
  have HB := Lib.hid rb
  have hl := ra.hl
  simp only [byt] at hl
  obtain ⟨K, hK⟩ : ∃ K, y.ws.length = K := ⟨_, rfl⟩
  have HK := Lib.hid hK
  have FA := (Blk.new w (ic y q) 85).alloc (.cells (ic y r).toArray 85)
  have FB := Blk.new (w.alloc (.cells (ic y q).toArray 85)) (ic y r) 85
  rw [World.size_alloc] at FB
  have HB1 : Hid (Below w.heap.size w ((w.alloc (.cells (ic y q).toArray 85)).alloc (.cells (ic y r).toArray 85))) := Lib.hid (((Below.refl _ _).alloc (Nat.le_refl _) _).alloc (by simp) _)
  simp only [iv, ic] at FA FB HB1 ⊢
  rw [hK] at hl FA FB HB1 ⊢
  have hk : K ≤ 140737488351232 := by omega
  have l1 := ha.ea.rowOf
  have hea : y.ea.length ≤ 140737488351232 := by obtain ⟨_, _, _, _, r⟩ := l1; have := r.hl; simp only [byt] at this; omega
  clear hK ra rb hl hi he ha hb l1
  generalize y.ea.length = k4 at *
  generalize y.it.length = k8 at *
  generalize y.el.length = k9 at *
  generalize y.bf.length = k10 at *
  generalize y.af.length = k11 at *
  have e0 := FA.c 0 _ rfl
  have e1 := FA.c 1 _ rfl
  have e2 := FA.c 2 _ rfl
  have e3 := FA.c 3 _ rfl
  have e4 := FA.c 4 _ rfl
  have e5 := FA.c 5 _ rfl
  have e6 := FA.c 6 _ rfl
  have e7 := FA.c 7 _ rfl
  have g0 := FB.c 0 _ rfl
  have g1 := FB.c 1 _ rfl
  have g2 := FB.c 2 _ rfl
  have g3 := FB.c 3 _ rfl
  have g4 := FB.c 4 _ rfl
  have g5 := FB.c 5 _ rfl
  have g6 := FB.c 6 _ rfl
  have g7 := FB.c 7 _ rfl
  have HFA := Lib.hid FA
  have HFB := Lib.hid FB
  clear FA FB
  go_enter Tryz.func75, Tryz.ntmps75
  go_wp2_with (go_at_call 87; ((with_reducible refine (SE.out _ HB1.out).mono ?_); rintro e w1 ⟨rfl, hb1⟩; have HB2 := Lib.hid (HB1.out.then_ hb1); have FA := HFA.out.stay hb1; have FB := HFB.out.stay hb1; clear e0 e1 e2 e3 e4 e5 e6 e7 g0 g1 g2 g3 g4 g5 g6 g7; have e5 := FA.c 5 _ rfl; have e6 := FA.c 6 _ rfl; have e7 := FA.c 7 _ rfl; have g5 := FB.c 5 _ rfl; have g6 := FB.c 6 _ rfl; have g7 := FB.c 7 _ rfl; have HF1 := Lib.hid FA; have HF2 := Lib.hid FB; clear hb1 FA FB))
  go_loopw [5] (fun i wr => ∃ j : Nat, j ≤ K ∧ i = .int .i64 j ∧ Hid (Below w.heap.size w wr) ∧ Hid (Blk wr w.heap.size [.int .i64 y.kd, .int .i64 y.op, .int .i64 y.n, .string y.en, .slice q.p4 k4 q.c4, .string y.nm, .string y.ix, .slice q.p7 K q.c7, .slice q.p8 k8 q.c8, .slice q.p9 k9 q.c9, .slice q.p10 k10 q.c10, .slice q.p11 k11 q.c11]) ∧ Hid (Blk wr (w.heap.size + 1) [.int .i64 y.kd, .int .i64 y.op, .int .i64 y.n, .string y.en, .slice r.p4 k4 r.c4, .string y.nm, .string y.ix, .slice r.p7 K r.c7, .slice r.p8 k8 r.c8, .slice r.p9 k9 r.c9, .slice r.p10 k10 r.c10, .slice r.p11 k11 r.c11])) (fun i _ => K - (intOf i).toNat)
  case atStart => exact ⟨0, Nat.zero_le _, rfl, HB2, HF1, HF2⟩
  case round =>
    obtain ⟨j, hj, rfl, BW, FA, FB⟩ := hrel
    clear e5 e6 e7 g5 g6 g7
    have e7 := FA.out.c 7 _ rfl
    have g7 := FB.out.c 7 _ rfl
    by_cases hlt : j < K
    · obtain ⟨x, hx⟩ : ∃ x, y.ws[j]? = some x := ⟨_, List.getElem?_eq_getElem (by rw [HK.out]; exact hlt)⟩
      have hbw : Below N w wr := BW.out.mono hN
      obtain ⟨b, off, a, c, d, e, ex, ep, hb, a0, a1, a2, a3⟩ := (HA.out.under hbw).wt hx
      obtain ⟨b', off', a', c', d', e', ex', ep', hb', a0', a1', a2', a3'⟩ := (HB.out.under hbw).wt hx
      rw [ex] at ex'
      cases ex'
      rw [ep] at e7
      rw [ep'] at g7
      have HQ := fun W => run_wt_neq W a c d e
      clear ex hx hbw ep ep'
      go_wp2
      go_quiet (fail)
      go_wp2
      go_roundw
      case rel => exact ⟨j + 1, by omega, by go_num, Lib.hid (drewB BW.out), Lib.hid (FA.out.stay (drewB (Below.refl _ _))), Lib.hid (FB.out.stay (drewB (Below.refl _ _)))⟩
      case measure => simp [intOf]; omega
    · have e8 := FA.out.c 8 _ rfl
      have e9 := FA.out.c 9 _ rfl
      have e10 := FA.out.c 10 _ rfl
      have e11 := FA.out.c 11 _ rfl
      have g8 := FB.out.c 8 _ rfl
      have g9 := FB.out.c 9 _ rfl
      have g10 := FB.out.c 10 _ rfl
      have g11 := FB.out.c 11 _ rfl
      go_wp2_with (first
        | (go_at_call 53; ((with_reducible refine (SI.out _ BW.out).mono ?_); rintro e w1 ⟨rfl, hb1⟩; have HB3 := Lib.hid (BW.out.then_ hb1); have FA2 := FA.out.stay hb1; have FB2 := FB.out.stay hb1; clear e8 e9 e10 e11 g8 g9 g10 g11 e7 g7; have e9 := FA2.c 9 _ rfl; have g9 := FB2.c 9 _ rfl; have HF3 := Lib.hid FA2; have HF4 := Lib.hid FB2; clear hb1 FA2 FB2))
        | (go_at_call 53; ((with_reducible refine (SL.out _ HB3.out).mono ?_); rintro e w1 ⟨rfl, hb1⟩; have HB4 := Lib.hid (HB3.out.then_ hb1); have FA2 := HF3.out.stay hb1; have FB2 := HF4.out.stay hb1; clear e9 g9; have e10 := FA2.c 10 _ rfl; have g10 := FB2.c 10 _ rfl; have HF5 := Lib.hid FA2; have HF6 := Lib.hid FB2; clear hb1 FA2 FB2))
        | (go_at_call 88; ((with_reducible refine (SB.out _ HB4.out).mono ?_); rintro e w1 ⟨rfl, hb1⟩; have HB5 := Lib.hid (HB4.out.then_ hb1); have FA2 := HF5.out.stay hb1; have FB2 := HF6.out.stay hb1; clear e10 g10; have e11 := FA2.c 11 _ rfl; have g11 := FB2.c 11 _ rfl; clear hb1 FA2 FB2))
        | (go_at_call 88; ((with_reducible refine (SA.out _ HB5.out).mono ?_); rintro e w1 ⟨rfl, hb1⟩; have HB6 := Lib.hid (HB5.out.then_ hb1); clear hb1)))
      go_ret
      exact ⟨rfl, HB6.out⟩
set_option maxRecDepth 100000 in
set_option maxHeartbeats 8000000 in
theorem sameI_row (lf : Lf) : ∀ (l : List (List Lf)), lf = .row .items l → ∀ (N : Nat) (w : World) (p p' : Option Addr) (cap cap' : Nat), At (Lo N) w (.r .items) (.slice p l.length cap) (.row .items l) → At (Lo N) w (.r .items) (.slice p' l.length cap') (.row .items l) → N ≤ w.heap.size →
    Calls Tryz.prog 53 #[.slice p l.length cap, .slice p' l.length cap'] w (tBool true w) := by
  induction lf using lf_ind with
  | hn i => intro l h; cases h
  | hs t => intro l h; cases h
  | hb v => intro l h; cases h
  | hr k l0 ih =>
    intro l h
    injection h with hk0 hl0
    subst hk0
    obtain rfl : l = l0 := hl0.symm
    intro N w p p' cap cap' ha hb hN
    obtain ⟨q1, c1, G, e1, ra⟩ := ha.rowOf
    obtain ⟨q2, c2, G', e2, rb⟩ := hb.rowOf
    cases e1
    cases e2
    have HA := Lib.hid ra
    have HB := Lib.hid rb
    have hl := ra.hl
    simp only [byt] at hl
    have HIH : Hid (∀ x ∈ l, ∀ y ∈ x, ∀ (l' : List (List Lf)), y = .row .items l' → ∀ (w : World) (p p' : Option Addr) (cap cap' : Nat), At (Lo N) w (.r .items) (.slice p l'.length cap) (.row .items l') → At (Lo N) w (.r .items) (.slice p' l'.length cap') (.row .items l') → N ≤ w.heap.size →
        Calls Tryz.prog 53 #[.slice p l'.length cap, .slice p' l'.length cap'] w (tBool true w)) := Lib.hid fun x hx y hy l' e w p p' cap cap' a b c => ih x hx y hy l' e N w p p' cap cap' a b c
    obtain ⟨K, hK⟩ : ∃ K, l.length = K := ⟨_, rfl⟩
    have HK := Lib.hid hK
    rw [hK] at hl ⊢
    have hk : K ≤ 140737488351232 := by omega
    clear hK ha hb hl ra rb ih
    have HB0 := Lib.hid (Below.refl w.heap.size w)
    go_enter Tryz.func53, Tryz.ntmps53
    go_wp2
    go_loopw [5] (fun i wr => ∃ j : Nat, j ≤ K ∧ i = .int .i64 j ∧ Hid (Below w.heap.size w wr)) (fun i _ => K - (intOf i).toNat)
    case atStart => exact ⟨0, Nat.zero_le _, rfl, HB0⟩
    case round =>
      obtain ⟨j, hj, rfl, BW⟩ := hrel
      by_cases hlt : j < K
      · obtain ⟨x, hx⟩ : ∃ x, l[j]? = some x := ⟨_, List.getElem?_eq_getElem (by rw [HK.out]; exact hlt)⟩
        have hbw : Below N w wr := BW.out.mono hN
        obtain ⟨b, off, y, q, ex, rfl, hb, vq, a0, a1, a2, a3, a4, a5, a6, a7, a8, a9, a10, a11⟩ := (HA.out.under hbw).iv hx
        obtain ⟨b', off', y', r, ex', rfl, hb', vr, b0, b1, b2, b3, b4, b5, b6, b7, b8, b9, b10, b11⟩ := (HB.out.under hbw).iv hx
        obtain rfl : y = y' := by
          rw [ex] at ex'
          cases y
          cases y'
          simp only [ItL.lf, List.cons.injEq, Lf.n.injEq, Lf.s.injEq, Lf.row.injEq, true_and, and_true] at ex'
          simp only [ItL.mk.injEq]
          exact ex'
        have HC : ∀ W, Below wr.heap.size wr W → Calls Tryz.prog 75 #[iv y q, iv y r] W (tBool true W) := fun W hW => by
          have k1 : Below N wr W := hW.mono (by have := BW.out.size; omega)
          have k2 : N ≤ W.heap.size := by have := BW.out.size; have := hW.size; omega
          refine sameItem_any y N W q r (vq.under k1) (vr.under k1) k2 (fun W' hW' => ?_) (fun W' hW' => ?_)
          · exact HIH.out x (List.mem_of_getElem? hx) (.row .items y.it) (by rw [ex]; simp [ItL.lf]) y.it rfl W' _ _ _ _ ((vq.it.under k1).under (hW'.mono k2)) ((vr.it.under k1).under (hW'.mono k2)) (by have := hW'.size; omega)
          · exact HIH.out x (List.mem_of_getElem? hx) (.row .items y.el) (by rw [ex]; simp [ItL.lf]) y.el rfl W' _ _ _ _ ((vq.el.under k1).under (hW'.mono k2)) ((vr.el.under k1).under (hW'.mono k2)) (by have := hW'.size; omega)
        have EC := reB (v := .bool true) HC
        have m0 := cell_regrown a0
        have n0 := cell_regrown b0
        have m1 := cell_regrown a1
        have n1 := cell_regrown b1
        have m2 := cell_regrown a2
        have n2 := cell_regrown b2
        have m3 := cell_regrown a3
        have n3 := cell_regrown b3
        have m4 := cell_regrown a4
        have n4 := cell_regrown b4
        have m5 := cell_regrown a5
        have n5 := cell_regrown b5
        have m6 := cell_regrown a6
        have n6 := cell_regrown b6
        have m7 := cell_regrown a7
        have n7 := cell_regrown b7
        have m8 := cell_regrown a8
        have n8 := cell_regrown b8
        have m9 := cell_regrown a9
        have n9 := cell_regrown b9
        have m10 := cell_regrown a10
        have n10 := cell_regrown b10
        have m11 := cell_regrown a11
        have n11 := cell_regrown b11
        clear hbw vq vr hx ex ex' HC
        simp only [iv, ic] at EC
        generalize y.ea.length = k4 at *
        generalize y.ws.length = k7 at *
        generalize y.it.length = k8 at *
        generalize y.el.length = k9 at *
        generalize y.bf.length = k10 at *
        generalize y.af.length = k11 at *
        go_wp2
        refine wp_region_quiet_below (by kernel_rfl) (by kernel_rfl) ?_
        repeat (first | go_big_quiet_step ((go_at_call 75; with_reducible exact EC _ _)) | quiet_step ((go_at_call 75; with_reducible exact EC _ _)))
        refine wpQuiet_nil ?_
        intro w4 hw'
        obtain ⟨pq, hw''⟩ := hw'
        have HX : Hid (Below wr.heap.size wr w4) := Lib.hid (by rw [hw'']; exact below_regrown _ _ _)
        clear hw'' EC m0 n0 a0 b0 m1 n1 a1 b1 m2 n2 a2 b2 m3 n3 a3 b3 m4 n4 a4 b4 m5 n5 a5 b5 m6 n6 a6 b6 m7 n7 a7 b7 m8 n8 a8 b8 m9 n9 a9 b9 m10 n10 a10 b10 m11 n11 a11 b11
        go_wp2
        go_roundw
        case rel => exact ⟨j + 1, by omega, by go_num, Lib.hid (BW.out.then_ HX.out)⟩
        case measure => simp [intOf]; omega
      · go_wp2
        go_ret
        exact ⟨rfl, BW.out⟩
theorem sameI_any (l : List (List Lf)) (N : Nat) (w : World) (p p' : Option Addr) (cap cap' : Nat) (ha : At (Lo N) w (.r .items) (.slice p l.length cap) (.row .items l)) (hb : At (Lo N) w (.r .items) (.slice p' l.length cap') (.row .items l)) (hN : N ≤ w.heap.size) :
    Calls Tryz.prog 53 #[.slice p l.length cap, .slice p' l.length cap'] w (tBool true w) := sameI_row _ l rfl N w p p' cap cap' ha hb hN
set_option maxRecDepth 100000 in
set_option maxHeartbeats 16000000 in
/-- Same, for two classes that are equal. -/
theorem sameC_any (c : Cl) (N : Nat) (w : World) (pf pb qf qb : Option Addr) (cf cb df db : Nat) (ha : CV (Lo N) w pf cf pb cb c) (hb : CV (Lo N) w qf df qb db c) (hN : N ≤ w.heap.size) :
    Calls Tryz.prog 22 #[cv c.nm c.par (.slice pf c.fs.length cf) (.slice pb c.bs.length cb), cv c.nm c.par (.slice qf c.fs.length df) (.slice qb c.bs.length db)] w (tBool true w) := by
  obtain ⟨_, _, G, e1, ra⟩ := ha.fs.rowOf
  rw [List.length_map] at e1
  obtain ⟨_, _, G', e2, rb⟩ := hb.fs.rowOf
  rw [List.length_map] at e2
  obtain ⟨_, _, M, e3, sa⟩ := ha.bs.rowOf
  rw [List.length_map] at e3
  obtain ⟨_, _, M', e4, sb⟩ := hb.bs.rowOf
  rw [List.length_map] at e4
  cases e1
  cases e2
  cases e3
  cases e4
  have RA := Lib.hid ra
  have RB := Lib.hid rb
  have SA := Lib.hid sa
  have SB := Lib.hid sb
  have l1 := ra.hl
  have l2 := sa.hl
  rw [List.length_map] at l1 l2
  simp only [byt] at l1 l2
  obtain ⟨K, hK⟩ : ∃ K, c.fs.length = K := ⟨_, rfl⟩
  obtain ⟨L, hL⟩ : ∃ L, c.bs.length = L := ⟨_, rfl⟩
  have HK := Lib.hid hK
  have HL := Lib.hid hL
  rw [hK] at l1 ⊢
  rw [hL] at l2 ⊢
  have hk : K ≤ 140737488351232 := by omega
  have hl : L ≤ 140737488351232 := by omega
  clear hK hL l1 l2 ra rb sa sb ha hb
  generalize c.nm = nm at *
  generalize c.par = par at *
  have FA := (Blk.new w [.string nm, .string par, .slice pf K cf, .slice pb L cb] 25).alloc (.cells #[.string nm, .string par, .slice qf K df, .slice qb L db] 25)
  have FB := Blk.new (w.alloc (.cells #[.string nm, .string par, .slice pf K cf, .slice pb L cb] 25)) [.string nm, .string par, .slice qf K df, .slice qb L db] 25
  rw [World.size_alloc] at FB
  have HB1 : Hid (Below w.heap.size w ((w.alloc (.cells #[.string nm, .string par, .slice pf K cf, .slice pb L cb] 25)).alloc (.cells #[.string nm, .string par, .slice qf K df, .slice qb L db] 25))) := Lib.hid (((Below.refl _ _).alloc (Nat.le_refl _) _).alloc (by simp) _)
  have e0 := FA.c 0 _ rfl
  have e1 := FA.c 1 _ rfl
  have e2 := FA.c 2 _ rfl
  have e3 := FA.c 3 _ rfl
  have g0 := FB.c 0 _ rfl
  have g1 := FB.c 1 _ rfl
  have g2 := FB.c 2 _ rfl
  have g3 := FB.c 3 _ rfl
  have HFA := Lib.hid FA
  have HFB := Lib.hid FB
  clear FA FB
  go_enter Tryz.func22, Tryz.ntmps22
  go_wp2
  go_loopw [5] (fun i wr => ∃ j : Nat, j ≤ K ∧ i = .int .i64 j ∧ Hid (Below w.heap.size w wr) ∧ Hid (Blk wr w.heap.size [.string nm, .string par, .slice pf K cf, .slice pb L cb]) ∧ Hid (Blk wr (w.heap.size + 1) [.string nm, .string par, .slice qf K df, .slice qb L db])) (fun i _ => K - (intOf i).toNat)
  case atStart => exact ⟨0, Nat.zero_le _, rfl, HB1, HFA, HFB⟩
  case round =>
    obtain ⟨j, hj, rfl, BW, FA, FB⟩ := hrel
    clear e0 e1 e2 e3 g0 g1 g2 g3
    have e2 := FA.out.c 2 _ rfl
    have g2 := FB.out.c 2 _ rfl
    by_cases hlt : j < K
    · obtain ⟨f, hf⟩ : ∃ f, c.fs[j]? = some f := ⟨_, List.getElem?_eq_getElem (by rw [HK.out]; exact hlt)⟩
      have hbw : Below N w wr := BW.out.mono hN
      obtain ⟨b, off, ep, hb, a0, a1, a2, a3, a4, hs⟩ := (RA.out.under hbw).fd hf
      obtain ⟨b', off', ep', hb', a0', a1', a2', a3', a4', hs'⟩ := (RB.out.under hbw).fd hf
      rw [ep] at e2
      rw [ep'] at g2
      have HQ := fun W => run_fd_neq W f.nm f.wd f.sz f.md f.ini
      clear hf hbw ep ep'
      go_wp2
      go_quiet (fail)
      go_wp2
      go_roundw
      case rel => exact ⟨j + 1, by omega, by go_num, Lib.hid (drewB BW.out), Lib.hid (FA.out.stay (drewB (Below.refl _ _))), Lib.hid (FB.out.stay (drewB (Below.refl _ _)))⟩
      case measure => simp [intOf]; omega
    · obtain ⟨w9, rfl⟩ : ∃ x, x = wr := ⟨_, rfl⟩
      go_wp2
      clear e2 g2
      go_loopw [6] (fun i wr => ∃ j : Nat, j ≤ L ∧ i = .int .i64 j ∧ Hid (Below w.heap.size w wr) ∧ Hid (Blk wr w.heap.size [.string nm, .string par, .slice pf K cf, .slice pb L cb]) ∧ Hid (Blk wr (w.heap.size + 1) [.string nm, .string par, .slice qf K df, .slice qb L db])) (fun i _ => L - (intOf i).toNat)
      case atStart => exact ⟨0, Nat.zero_le _, rfl, BW, FA, FB⟩
      case round =>
        obtain ⟨k, hk2, rfl, BX, FC, FD⟩ := hrel
        have e3 := FC.out.c 3 _ rfl
        have g3 := FD.out.c 3 _ rfl
        by_cases hlt2 : k < L
        · obtain ⟨y, hy⟩ : ∃ y, c.bs[k]? = some y := ⟨_, List.getElem?_eq_getElem (by rw [HL.out]; exact hlt2)⟩
          have hbw : Below N w wr := BX.out.mono hN
          obtain ⟨b, off, pi, ci, ep, hb, a0, a1, hs, hat⟩ := (SA.out.under hbw).bk hy
          obtain ⟨b', off', pi', ci', ep', hb', a0', a1', hs', hat'⟩ := (SB.out.under hbw).bk hy
          rw [ep] at e3
          rw [ep'] at g3
          have HC : ∀ W, Below wr.heap.size wr W → Calls Tryz.prog 53 #[.slice pi y.it.length ci, .slice pi' y.it.length ci'] W (tBool true W) := fun W hW =>
            sameI_any y.it N W pi pi' ci ci' (hat.under (hW.mono (by have := BX.out.size; omega))) (hat'.under (hW.mono (by have := BX.out.size; omega))) (by have := BX.out.size; have := hW.size; omega)
          have EC := reB (v := .bool true) HC
          have m1 := cell_regrown e3
          have m2 := cell_regrown g3
          have m3 := cell_regrown a0
          have m4 := cell_regrown a1
          have m5 := cell_regrown a0'
          have m6 := cell_regrown a1'
          have hne : (y.nm.toList != y.nm.toList) = false := by simp
          clear hbw hat hat' hy ep ep' HC
          go_wp2
          refine wp_region_quiet_below (by kernel_rfl) (by kernel_rfl) ?_
          repeat (first | go_big_quiet_step ((go_at_call 53; with_reducible exact EC _ _)) | quiet_step ((go_at_call 53; with_reducible exact EC _ _)))
          refine wpQuiet_nil ?_
          intro w4 hw'
          obtain ⟨pq, hw''⟩ := hw'
          have HX : Hid (Below wr.heap.size wr w4) := Lib.hid (by rw [hw'']; exact below_regrown _ _ _)
          clear hw'' m1 m2 m3 m4 m5 m6 EC e3 g3 a0 a1 a0' a1'
          go_wp2
          go_roundw
          case rel => exact ⟨k + 1, by omega, by go_num, Lib.hid (BX.out.then_ HX.out), Lib.hid (FC.out.stay HX.out), Lib.hid (FD.out.stay HX.out)⟩
          case measure => simp [intOf]; omega
        · go_wp2
          go_ret
          exact ⟨rfl, BX.out⟩
end Go.Proofs.YtoigjeoncdfdmaaGreatDoor.ClW
