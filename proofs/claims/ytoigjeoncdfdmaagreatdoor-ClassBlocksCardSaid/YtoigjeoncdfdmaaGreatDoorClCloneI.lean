/-
  What cloneItem returns.
-/
import Derived.Test.YtoigjeoncdfdmaaGreatDoorClCloneE
namespace Go.Proofs.YtoigjeoncdfdmaaGreatDoor.ClW
open Go Go.RowKit Go.Proofs.YtoigjeoncdfdmaaGreatDoor.NumM Go.Proofs.YtoigjeoncdfdmaaGreatDoor.LexW Go.Proofs.YtoigjeoncdfdmaaGreatDoor.LexM Go.Proofs.YtoigjeoncdfdmaaGreatDoor.ClM
open Go.«Sort»

set_option maxRecDepth 100000 in
set_option maxHeartbeats 16000000 in
theorem cloneItem_of (y : ItL) (q : ItP) (N : Nat) (w : World) (hv : IV (Lo N) w q y) (hN : N ≤ w.heap.size)
    (hi : ∀ W, Below w.heap.size w W → Calls Tryz.prog 84 #[.slice q.p8 y.it.length q.c8, .func (.func 85) #[] #[]] W (tRow .items y.it W))
    (he : ∀ W, Below w.heap.size w W → Calls Tryz.prog 84 #[.slice q.p9 y.el.length q.c9, .func (.func 85) #[] #[]] W (tRow .items y.el W)) :
    Calls Tryz.prog 85 #[iv y q] w (tIt y w) := by
  have HB0 : Hid (Below w.heap.size w ((w.alloc (.cells #[.int .i64 y.kd, .int .i64 y.op, .int .i64 y.n, .string y.en, .slice q.p4 y.ea.length q.c4, .string y.nm, .string y.ix, .slice q.p7 y.ws.length q.c7, .slice q.p8 y.it.length q.c8, .slice q.p9 y.el.length q.c9, .slice q.p10 y.bf.length q.c10, .slice q.p11 y.af.length q.c11] 85)).alloc (.cells #[.int .i64 0, .int .i64 0, .int .i64 0, .string ⟨#[]⟩, .slice none 0 0, .string ⟨#[]⟩, .string ⟨#[]⟩, .slice none 0 0, .slice none 0 0, .slice none 0 0, .slice none 0 0, .slice none 0 0] 85))) := Lib.hid (((Below.refl _ _).alloc (Nat.le_refl _) _).alloc (by simp) _)
  have H0 := Lib.hid ((Blk.new w [.int .i64 y.kd, .int .i64 y.op, .int .i64 y.n, .string y.en, .slice q.p4 y.ea.length q.c4, .string y.nm, .string y.ix, .slice q.p7 y.ws.length q.c7, .slice q.p8 y.it.length q.c8, .slice q.p9 y.el.length q.c9, .slice q.p10 y.bf.length q.c10, .slice q.p11 y.af.length q.c11] 85).alloc (.cells #[.int .i64 0, .int .i64 0, .int .i64 0, .string ⟨#[]⟩, .slice none 0 0, .string ⟨#[]⟩, .string ⟨#[]⟩, .slice none 0 0, .slice none 0 0, .slice none 0 0, .slice none 0 0, .slice none 0 0] 85))
  have fz := Blk.new (w.alloc (.cells #[.int .i64 y.kd, .int .i64 y.op, .int .i64 y.n, .string y.en, .slice q.p4 y.ea.length q.c4, .string y.nm, .string y.ix, .slice q.p7 y.ws.length q.c7, .slice q.p8 y.it.length q.c8, .slice q.p9 y.el.length q.c9, .slice q.p10 y.bf.length q.c10, .slice q.p11 y.af.length q.c11] 85)) [.int .i64 0, .int .i64 0, .int .i64 0, .string ⟨#[]⟩, .slice none 0 0, .string ⟨#[]⟩, .string ⟨#[]⟩, .slice none 0 0, .slice none 0 0, .slice none 0 0, .slice none 0 0, .slice none 0 0] 85
  rw [World.size_alloc] at fz
  have Z0 := Lib.hid fz
  obtain ⟨W0, hW0⟩ : ∃ W0, ((w.alloc (.cells #[.int .i64 y.kd, .int .i64 y.op, .int .i64 y.n, .string y.en, .slice q.p4 y.ea.length q.c4, .string y.nm, .string y.ix, .slice q.p7 y.ws.length q.c7, .slice q.p8 y.it.length q.c8, .slice q.p9 y.el.length q.c9, .slice q.p10 y.bf.length q.c10, .slice q.p11 y.af.length q.c11] 85)).alloc (.cells #[.int .i64 0, .int .i64 0, .int .i64 0, .string ⟨#[]⟩, .slice none 0 0, .string ⟨#[]⟩, .string ⟨#[]⟩, .slice none 0 0, .slice none 0 0, .slice none 0 0, .slice none 0 0, .slice none 0 0] 85)) = W0 := ⟨_, rfl⟩
  rw [hW0] at HB0 H0 Z0
  have hs0 : W0.heap.size = w.heap.size + 2 := by rw [← hW0]; simp
  have HS0 := Lib.hid hs0
  have C4 : Hid (∀ W, Below w.heap.size w W → Calls Tryz.prog 101 #[ev y.op y.n y.en (.slice q.p4 y.ea.length q.c4)] W (tEx y.op y.n y.en y.ea W)) := Lib.hid fun W hW => cloneExpr_any y.op y.n y.en y.ea q.p4 q.c4 N W (hv.ea.under (hW.mono hN)) (by have := hW.size; omega)
  have C7 : Hid (∀ W, Below w.heap.size w W → Calls Tryz.prog 102 #[.slice q.p7 y.ws.length q.c7] W (tRow .weights y.ws W)) := Lib.hid fun W hW => cloneWeights_any y.ws q.p7 q.c7 N W (hv.ws.under (hW.mono hN)) (by have := hW.size; omega)
  have C10 : Hid (∀ W, Below w.heap.size w W → Calls Tryz.prog 103 #[.slice q.p10 y.bf.length q.c10] W (tRow .strs y.bf W)) := Lib.hid fun W hW => cloneStrs_any y.bf q.p10 q.c10 N W (hv.bf.under (hW.mono hN)) (by have := hW.size; omega)
  have C11 : Hid (∀ W, Below w.heap.size w W → Calls Tryz.prog 103 #[.slice q.p11 y.af.length q.c11] W (tRow .strs y.af W)) := Lib.hid fun W hW => cloneStrs_any y.af q.p11 q.c11 N W (hv.af.under (hW.mono hN)) (by have := hW.size; omega)
  have C8 := Lib.hid hi
  have C9 := Lib.hid he
  have HV := Lib.hid hv
  simp only [iv, ic]
  clear hi he hv
  have H0' := H0.out
  have c0 := H0'.c 0 _ rfl
  have fr0 := H0'.f 0
  have c1 := H0'.c 1 _ rfl
  have fr1 := H0'.f 1
  have c2 := H0'.c 2 _ rfl
  have fr2 := H0'.f 2
  have c3 := H0'.c 3 _ rfl
  have fr3 := H0'.f 3
  have c4 := H0'.c 4 _ rfl
  have fr4 := H0'.f 4
  have c5 := H0'.c 5 _ rfl
  have fr5 := H0'.f 5
  have c6 := H0'.c 6 _ rfl
  have fr6 := H0'.f 6
  have c7 := H0'.c 7 _ rfl
  have fr7 := H0'.f 7
  have c8 := H0'.c 8 _ rfl
  have fr8 := H0'.f 8
  have c9 := H0'.c 9 _ rfl
  have fr9 := H0'.f 9
  have c10 := H0'.c 10 _ rfl
  have fr10 := H0'.f 10
  have c11 := H0'.c 11 _ rfl
  have fr11 := H0'.f 11
  clear fz H0' hs0
  go_enter Tryz.func85, Tryz.ntmps85
  go_upto_region 1 with (fail)
  try rw [hW0]
  clear hW0
  have hlt0 := H0.out.lt
  have hlt1 := Z0.out.lt
  go_wp2_with (first
    | (go_at_call 101; ((with_reducible refine (C4.out _ HB0.out).mono ?_); rintro e W1 ⟨p4, k4, rfl, at1, hb1⟩; have H1 : Hid (Blk W1 w.heap.size [.int .i64 y.kd, .int .i64 y.op, .int .i64 y.n, .string y.en, .slice q.p4 y.ea.length q.c4, .string y.nm, .string y.ix, .slice q.p7 y.ws.length q.c7, .slice q.p8 y.it.length q.c8, .slice q.p9 y.el.length q.c9, .slice q.p10 y.bf.length q.c10, .slice q.p11 y.af.length q.c11]) := Lib.hid (H0.out.stay hb1); have Z1 : Hid (Blk W1 (w.heap.size + 1) [.int .i64 0, .int .i64 0, .int .i64 0, .string ⟨#[]⟩, .slice none 0 0, .string ⟨#[]⟩, .string ⟨#[]⟩, .slice none 0 0, .slice none 0 0, .slice none 0 0, .slice none 0 0, .slice none 0 0]) := Lib.hid (Z0.out.stay hb1); have HB1 : Hid (Below w.heap.size w W1) := Lib.hid (HB0.out.trans (hb1.mono (HB0.out).size)); have U1 : Hid (Up (w.heap.size + 2) W0 W1) := Lib.hid ((Up.refl (w.heap.size + 2) W0).below hb1); have AT1 := Lib.hid at1; (try clear c0 fr0); (try clear c1 fr1); (try clear c2 fr2); (try clear c3 fr3); (try clear c4 fr4); (try clear c5 fr5); (try clear c6 fr6); (try clear c7 fr7); (try clear c8 fr8); (try clear c9 fr9); (try clear c10 fr10); (try clear c11 fr11); have hb_1 := hb1.size; have hlt2 := H1.out.lt; have hlz1 := Z1.out.lt; have c1 := H1.out.c 1 _ rfl; have fr1 := H1.out.f 1; have c2 := H1.out.c 2 _ rfl; have fr2 := H1.out.f 2; have c3 := H1.out.c 3 _ rfl; have fr3 := H1.out.f 3; have c4 := H1.out.c 4 _ rfl; have fr4 := H1.out.f 4; have c7 := H1.out.c 7 _ rfl; have fr7 := H1.out.f 7; clear hb1 at1))
    | (go_at_call 102; ((with_reducible refine (C7.out _ ((((HB1.out.setCell (p := ⟨w.heap.size, 1, none⟩) (Nat.le_refl _) (.int .i64 y.op)).setCell (p := ⟨w.heap.size, 2, none⟩) (Nat.le_refl _) (.int .i64 y.n)).setCell (p := ⟨w.heap.size, 3, none⟩) (Nat.le_refl _) (.string y.en)).setCell (p := ⟨w.heap.size, 4, none⟩) (Nat.le_refl _) (.slice p4 y.ea.length k4))).mono ?_); rintro e W2 ⟨p7, k7, rfl, at2, hb2⟩; have H2 : Hid (Blk W2 w.heap.size [.int .i64 y.kd, .int .i64 y.op, .int .i64 y.n, .string y.en, .slice p4 y.ea.length k4, .string y.nm, .string y.ix, .slice q.p7 y.ws.length q.c7, .slice q.p8 y.it.length q.c8, .slice q.p9 y.el.length q.c9, .slice q.p10 y.bf.length q.c10, .slice q.p11 y.af.length q.c11]) := Lib.hid (((((H1.out.set 1 (.int .i64 y.op) (by simp)).set 2 (.int .i64 y.n) (by simp)).set 3 (.string y.en) (by simp)).set 4 (.slice p4 y.ea.length k4) (by simp)).stay hb2); have Z2 : Hid (Blk W2 (w.heap.size + 1) [.int .i64 0, .int .i64 0, .int .i64 0, .string ⟨#[]⟩, .slice none 0 0, .string ⟨#[]⟩, .string ⟨#[]⟩, .slice none 0 0, .slice none 0 0, .slice none 0 0, .slice none 0 0, .slice none 0 0]) := Lib.hid (((((Z1.out.far (b := w.heap.size) (o := 1) (v := .int .i64 y.op) (by omega)).far (b := w.heap.size) (o := 2) (v := .int .i64 y.n) (by omega)).far (b := w.heap.size) (o := 3) (v := .string y.en) (by omega)).far (b := w.heap.size) (o := 4) (v := .slice p4 y.ea.length k4) (by omega)).stay hb2); have HB2 : Hid (Below w.heap.size w W2) := Lib.hid (((((HB1.out.setCell (p := ⟨w.heap.size, 1, none⟩) (Nat.le_refl _) (.int .i64 y.op)).setCell (p := ⟨w.heap.size, 2, none⟩) (Nat.le_refl _) (.int .i64 y.n)).setCell (p := ⟨w.heap.size, 3, none⟩) (Nat.le_refl _) (.string y.en)).setCell (p := ⟨w.heap.size, 4, none⟩) (Nat.le_refl _) (.slice p4 y.ea.length k4)).trans (hb2.mono (((((HB1.out.setCell (p := ⟨w.heap.size, 1, none⟩) (Nat.le_refl _) (.int .i64 y.op)).setCell (p := ⟨w.heap.size, 2, none⟩) (Nat.le_refl _) (.int .i64 y.n)).setCell (p := ⟨w.heap.size, 3, none⟩) (Nat.le_refl _) (.string y.en)).setCell (p := ⟨w.heap.size, 4, none⟩) (Nat.le_refl _) (.slice p4 y.ea.length k4))).size)); have U2 : Hid (Up (w.heap.size + 2) W1 W2) := Lib.hid ((((((Up.refl (w.heap.size + 2) W1).set (g := w.heap.size) (o := 1) (by omega) (.int .i64 y.op)).set (g := w.heap.size) (o := 2) (by omega) (.int .i64 y.n)).set (g := w.heap.size) (o := 3) (by omega) (.string y.en)).set (g := w.heap.size) (o := 4) (by omega) (.slice p4 y.ea.length k4)).below hb2); have AT2 := Lib.hid at2; (try clear c0 fr0); (try clear c1 fr1); (try clear c2 fr2); (try clear c3 fr3); (try clear c4 fr4); (try clear c5 fr5); (try clear c6 fr6); (try clear c7 fr7); (try clear c8 fr8); (try clear c9 fr9); (try clear c10 fr10); (try clear c11 fr11); have hb_2 := hb2.size; have hlt3 := H2.out.lt; have hlz2 := Z2.out.lt; have c7 := H2.out.c 7 _ rfl; have fr7 := H2.out.f 7; have c8 := H2.out.c 8 _ rfl; have fr8 := H2.out.f 8; clear hb2 at2))
    | (go_at_call 84; ((with_reducible refine (C8.out _ (HB2.out.setCell (p := ⟨w.heap.size, 7, none⟩) (Nat.le_refl _) (.slice p7 y.ws.length k7))).mono ?_); rintro e W3 ⟨p8, k8, rfl, at3, hb3⟩; have H3 : Hid (Blk W3 w.heap.size [.int .i64 y.kd, .int .i64 y.op, .int .i64 y.n, .string y.en, .slice p4 y.ea.length k4, .string y.nm, .string y.ix, .slice p7 y.ws.length k7, .slice q.p8 y.it.length q.c8, .slice q.p9 y.el.length q.c9, .slice q.p10 y.bf.length q.c10, .slice q.p11 y.af.length q.c11]) := Lib.hid ((H2.out.set 7 (.slice p7 y.ws.length k7) (by simp)).stay hb3); have Z3 : Hid (Blk W3 (w.heap.size + 1) [.int .i64 0, .int .i64 0, .int .i64 0, .string ⟨#[]⟩, .slice none 0 0, .string ⟨#[]⟩, .string ⟨#[]⟩, .slice none 0 0, .slice none 0 0, .slice none 0 0, .slice none 0 0, .slice none 0 0]) := Lib.hid ((Z2.out.far (b := w.heap.size) (o := 7) (v := .slice p7 y.ws.length k7) (by omega)).stay hb3); have HB3 : Hid (Below w.heap.size w W3) := Lib.hid ((HB2.out.setCell (p := ⟨w.heap.size, 7, none⟩) (Nat.le_refl _) (.slice p7 y.ws.length k7)).trans (hb3.mono ((HB2.out.setCell (p := ⟨w.heap.size, 7, none⟩) (Nat.le_refl _) (.slice p7 y.ws.length k7))).size)); have U3 : Hid (Up (w.heap.size + 2) W2 W3) := Lib.hid (((Up.refl (w.heap.size + 2) W2).set (g := w.heap.size) (o := 7) (by omega) (.slice p7 y.ws.length k7)).below hb3); have AT3 := Lib.hid at3; (try clear c0 fr0); (try clear c1 fr1); (try clear c2 fr2); (try clear c3 fr3); (try clear c4 fr4); (try clear c5 fr5); (try clear c6 fr6); (try clear c7 fr7); (try clear c8 fr8); (try clear c9 fr9); (try clear c10 fr10); (try clear c11 fr11); have hb_3 := hb3.size; have hlt4 := H3.out.lt; have hlz3 := Z3.out.lt; have c8 := H3.out.c 8 _ rfl; have fr8 := H3.out.f 8; have c9 := H3.out.c 9 _ rfl; have fr9 := H3.out.f 9; clear hb3 at3))
    | (go_at_call 84; ((with_reducible refine (C9.out _ (HB3.out.setCell (p := ⟨w.heap.size, 8, none⟩) (Nat.le_refl _) (.slice p8 y.it.length k8))).mono ?_); rintro e W4 ⟨p9, k9, rfl, at4, hb4⟩; have H4 : Hid (Blk W4 w.heap.size [.int .i64 y.kd, .int .i64 y.op, .int .i64 y.n, .string y.en, .slice p4 y.ea.length k4, .string y.nm, .string y.ix, .slice p7 y.ws.length k7, .slice p8 y.it.length k8, .slice q.p9 y.el.length q.c9, .slice q.p10 y.bf.length q.c10, .slice q.p11 y.af.length q.c11]) := Lib.hid ((H3.out.set 8 (.slice p8 y.it.length k8) (by simp)).stay hb4); have Z4 : Hid (Blk W4 (w.heap.size + 1) [.int .i64 0, .int .i64 0, .int .i64 0, .string ⟨#[]⟩, .slice none 0 0, .string ⟨#[]⟩, .string ⟨#[]⟩, .slice none 0 0, .slice none 0 0, .slice none 0 0, .slice none 0 0, .slice none 0 0]) := Lib.hid ((Z3.out.far (b := w.heap.size) (o := 8) (v := .slice p8 y.it.length k8) (by omega)).stay hb4); have HB4 : Hid (Below w.heap.size w W4) := Lib.hid ((HB3.out.setCell (p := ⟨w.heap.size, 8, none⟩) (Nat.le_refl _) (.slice p8 y.it.length k8)).trans (hb4.mono ((HB3.out.setCell (p := ⟨w.heap.size, 8, none⟩) (Nat.le_refl _) (.slice p8 y.it.length k8))).size)); have U4 : Hid (Up (w.heap.size + 2) W3 W4) := Lib.hid (((Up.refl (w.heap.size + 2) W3).set (g := w.heap.size) (o := 8) (by omega) (.slice p8 y.it.length k8)).below hb4); have AT4 := Lib.hid at4; (try clear c0 fr0); (try clear c1 fr1); (try clear c2 fr2); (try clear c3 fr3); (try clear c4 fr4); (try clear c5 fr5); (try clear c6 fr6); (try clear c7 fr7); (try clear c8 fr8); (try clear c9 fr9); (try clear c10 fr10); (try clear c11 fr11); have hb_4 := hb4.size; have hlt5 := H4.out.lt; have hlz4 := Z4.out.lt; have c9 := H4.out.c 9 _ rfl; have fr9 := H4.out.f 9; have c10 := H4.out.c 10 _ rfl; have fr10 := H4.out.f 10; clear hb4 at4))
    | (go_at_call 103; ((with_reducible refine (C10.out _ (HB4.out.setCell (p := ⟨w.heap.size, 9, none⟩) (Nat.le_refl _) (.slice p9 y.el.length k9))).mono ?_); rintro e W5 ⟨p10, k10, rfl, at5, hb5⟩; have H5 : Hid (Blk W5 w.heap.size [.int .i64 y.kd, .int .i64 y.op, .int .i64 y.n, .string y.en, .slice p4 y.ea.length k4, .string y.nm, .string y.ix, .slice p7 y.ws.length k7, .slice p8 y.it.length k8, .slice p9 y.el.length k9, .slice q.p10 y.bf.length q.c10, .slice q.p11 y.af.length q.c11]) := Lib.hid ((H4.out.set 9 (.slice p9 y.el.length k9) (by simp)).stay hb5); have Z5 : Hid (Blk W5 (w.heap.size + 1) [.int .i64 0, .int .i64 0, .int .i64 0, .string ⟨#[]⟩, .slice none 0 0, .string ⟨#[]⟩, .string ⟨#[]⟩, .slice none 0 0, .slice none 0 0, .slice none 0 0, .slice none 0 0, .slice none 0 0]) := Lib.hid ((Z4.out.far (b := w.heap.size) (o := 9) (v := .slice p9 y.el.length k9) (by omega)).stay hb5); have HB5 : Hid (Below w.heap.size w W5) := Lib.hid ((HB4.out.setCell (p := ⟨w.heap.size, 9, none⟩) (Nat.le_refl _) (.slice p9 y.el.length k9)).trans (hb5.mono ((HB4.out.setCell (p := ⟨w.heap.size, 9, none⟩) (Nat.le_refl _) (.slice p9 y.el.length k9))).size)); have U5 : Hid (Up (w.heap.size + 2) W4 W5) := Lib.hid (((Up.refl (w.heap.size + 2) W4).set (g := w.heap.size) (o := 9) (by omega) (.slice p9 y.el.length k9)).below hb5); have AT5 := Lib.hid at5; (try clear c0 fr0); (try clear c1 fr1); (try clear c2 fr2); (try clear c3 fr3); (try clear c4 fr4); (try clear c5 fr5); (try clear c6 fr6); (try clear c7 fr7); (try clear c8 fr8); (try clear c9 fr9); (try clear c10 fr10); (try clear c11 fr11); have hb_5 := hb5.size; have hlt6 := H5.out.lt; have hlz5 := Z5.out.lt; have c10 := H5.out.c 10 _ rfl; have fr10 := H5.out.f 10; have c11 := H5.out.c 11 _ rfl; have fr11 := H5.out.f 11; clear hb5 at5))
    | (go_at_call 103; ((with_reducible refine (C11.out _ (HB5.out.setCell (p := ⟨w.heap.size, 10, none⟩) (Nat.le_refl _) (.slice p10 y.bf.length k10))).mono ?_); rintro e W6 ⟨p11, k11, rfl, at6, hb6⟩; have H6 : Hid (Blk W6 w.heap.size [.int .i64 y.kd, .int .i64 y.op, .int .i64 y.n, .string y.en, .slice p4 y.ea.length k4, .string y.nm, .string y.ix, .slice p7 y.ws.length k7, .slice p8 y.it.length k8, .slice p9 y.el.length k9, .slice p10 y.bf.length k10, .slice q.p11 y.af.length q.c11]) := Lib.hid ((H5.out.set 10 (.slice p10 y.bf.length k10) (by simp)).stay hb6); have Z6 : Hid (Blk W6 (w.heap.size + 1) [.int .i64 0, .int .i64 0, .int .i64 0, .string ⟨#[]⟩, .slice none 0 0, .string ⟨#[]⟩, .string ⟨#[]⟩, .slice none 0 0, .slice none 0 0, .slice none 0 0, .slice none 0 0, .slice none 0 0]) := Lib.hid ((Z5.out.far (b := w.heap.size) (o := 10) (v := .slice p10 y.bf.length k10) (by omega)).stay hb6); have HB6 : Hid (Below w.heap.size w W6) := Lib.hid ((HB5.out.setCell (p := ⟨w.heap.size, 10, none⟩) (Nat.le_refl _) (.slice p10 y.bf.length k10)).trans (hb6.mono ((HB5.out.setCell (p := ⟨w.heap.size, 10, none⟩) (Nat.le_refl _) (.slice p10 y.bf.length k10))).size)); have U6 : Hid (Up (w.heap.size + 2) W5 W6) := Lib.hid (((Up.refl (w.heap.size + 2) W5).set (g := w.heap.size) (o := 10) (by omega) (.slice p10 y.bf.length k10)).below hb6); have AT6 := Lib.hid at6; (try clear c0 fr0); (try clear c1 fr1); (try clear c2 fr2); (try clear c3 fr3); (try clear c4 fr4); (try clear c5 fr5); (try clear c6 fr6); (try clear c7 fr7); (try clear c8 fr8); (try clear c9 fr9); (try clear c10 fr10); (try clear c11 fr11); have hb_6 := hb6.size; have hlt7 := H6.out.lt; have hlz6 := Z6.out.lt; have c0 := H6.out.c 0 _ rfl; have fr0 := H6.out.f 0; have c1 := H6.out.c 1 _ rfl; have fr1 := H6.out.f 1; have c2 := H6.out.c 2 _ rfl; have fr2 := H6.out.f 2; have c3 := H6.out.c 3 _ rfl; have fr3 := H6.out.f 3; have c4 := H6.out.c 4 _ rfl; have fr4 := H6.out.f 4; have c5 := H6.out.c 5 _ rfl; have fr5 := H6.out.f 5; have c6 := H6.out.c 6 _ rfl; have fr6 := H6.out.f 6; have c7 := H6.out.c 7 _ rfl; have fr7 := H6.out.f 7; have c8 := H6.out.c 8 _ rfl; have fr8 := H6.out.f 8; have c9 := H6.out.c 9 _ rfl; have fr9 := H6.out.f 9; have c10 := H6.out.c 10 _ rfl; have fr10 := H6.out.f 10; have c11 := H6.out.c 11 _ rfl; have fr11 := H6.out.f 11; have z0 := Z6.out.c 0 _ rfl; have zf0 := Z6.out.f 0; have z1 := Z6.out.c 1 _ rfl; have zf1 := Z6.out.f 1; have z2 := Z6.out.c 2 _ rfl; have zf2 := Z6.out.f 2; have z3 := Z6.out.c 3 _ rfl; have zf3 := Z6.out.f 3; have z4 := Z6.out.c 4 _ rfl; have zf4 := Z6.out.f 4; have z5 := Z6.out.c 5 _ rfl; have zf5 := Z6.out.f 5; have z6 := Z6.out.c 6 _ rfl; have zf6 := Z6.out.f 6; have z7 := Z6.out.c 7 _ rfl; have zf7 := Z6.out.f 7; have z8 := Z6.out.c 8 _ rfl; have zf8 := Z6.out.f 8; have z9 := Z6.out.c 9 _ rfl; have zf9 := Z6.out.f 9; have z10 := Z6.out.c 10 _ rfl; have zf10 := Z6.out.f 10; have z11 := Z6.out.c 11 _ rfl; have zf11 := Z6.out.f 11; clear hb6 at6)))
  have PZ := (((((((((((((Z6.out.far (b := w.heap.size) (o := 11) (v := .slice p11 y.af.length k11) (by omega)).set 0 (.int .i64 y.kd) (by simp)).set 1 (.int .i64 y.op) (by simp)).set 2 (.int .i64 y.n) (by simp)).set 3 (.string y.en) (by simp)).set 4 (.slice p4 y.ea.length k4) (by simp)).set 5 (.string y.nm) (by simp)).set 6 (.string y.ix) (by simp)).set 7 (.slice p7 y.ws.length k7) (by simp)).set 8 (.slice p8 y.it.length k8) (by simp)).set 9 (.slice p9 y.el.length k9) (by simp)).set 10 (.slice p10 y.bf.length k10) (by simp)).set 11 (.slice p11 y.af.length k11) (by simp))
  have pp0 := PZ.c 0 _ rfl
  have pp1 := PZ.c 1 _ rfl
  have pp2 := PZ.c 2 _ rfl
  have pp3 := PZ.c 3 _ rfl
  have pp4 := PZ.c 4 _ rfl
  have pp5 := PZ.c 5 _ rfl
  have pp6 := PZ.c 6 _ rfl
  have pp7 := PZ.c 7 _ rfl
  have pp8 := PZ.c 8 _ rfl
  have pp9 := PZ.c 9 _ rfl
  have pp10 := PZ.c 10 _ rfl
  have pp11 := PZ.c 11 _ rfl
  have UF6 := ((((((((((((((Up.refl (w.heap.size + 2) W6).set (g := w.heap.size) (o := 11) (by omega) (.slice p11 y.af.length k11)).set (g := w.heap.size + 1) (o := 0) (by omega) (.int .i64 y.kd)).set (g := w.heap.size + 1) (o := 1) (by omega) (.int .i64 y.op)).set (g := w.heap.size + 1) (o := 2) (by omega) (.int .i64 y.n)).set (g := w.heap.size + 1) (o := 3) (by omega) (.string y.en)).set (g := w.heap.size + 1) (o := 4) (by omega) (.slice p4 y.ea.length k4)).set (g := w.heap.size + 1) (o := 5) (by omega) (.string y.nm)).set (g := w.heap.size + 1) (o := 6) (by omega) (.string y.ix)).set (g := w.heap.size + 1) (o := 7) (by omega) (.slice p7 y.ws.length k7)).set (g := w.heap.size + 1) (o := 8) (by omega) (.slice p8 y.it.length k8)).set (g := w.heap.size + 1) (o := 9) (by omega) (.slice p9 y.el.length k9)).set (g := w.heap.size + 1) (o := 10) (by omega) (.slice p10 y.bf.length k10)).set (g := w.heap.size + 1) (o := 11) (by omega) (.slice p11 y.af.length k11))
  have UF5 := U6.out.trans UF6
  have UF4 := U5.out.trans UF5
  have UF3 := U4.out.trans UF4
  have UF2 := U3.out.trans UF3
  have UF1 := U2.out.trans UF2
  have BF := (((((((((((((HB6.out.setCell (p := ⟨w.heap.size, 11, none⟩) (Nat.le_refl _) (.slice p11 y.af.length k11)).setCell (p := ⟨w.heap.size + 1, 0, none⟩) (by simp) (.int .i64 y.kd)).setCell (p := ⟨w.heap.size + 1, 1, none⟩) (by simp) (.int .i64 y.op)).setCell (p := ⟨w.heap.size + 1, 2, none⟩) (by simp) (.int .i64 y.n)).setCell (p := ⟨w.heap.size + 1, 3, none⟩) (by simp) (.string y.en)).setCell (p := ⟨w.heap.size + 1, 4, none⟩) (by simp) (.slice p4 y.ea.length k4)).setCell (p := ⟨w.heap.size + 1, 5, none⟩) (by simp) (.string y.nm)).setCell (p := ⟨w.heap.size + 1, 6, none⟩) (by simp) (.string y.ix)).setCell (p := ⟨w.heap.size + 1, 7, none⟩) (by simp) (.slice p7 y.ws.length k7)).setCell (p := ⟨w.heap.size + 1, 8, none⟩) (by simp) (.slice p8 y.it.length k8)).setCell (p := ⟨w.heap.size + 1, 9, none⟩) (by simp) (.slice p9 y.el.length k9)).setCell (p := ⟨w.heap.size + 1, 10, none⟩) (by simp) (.slice p10 y.bf.length k10)).setCell (p := ⟨w.heap.size + 1, 11, none⟩) (by simp) (.slice p11 y.af.length k11))
  refine bodyPost_ret (v := .agg #[.int .i64 y.kd, .int .i64 y.op, .int .i64 y.n, .string y.en, .slice p4 y.ea.length k4, .string y.nm, .string y.ix, .slice p7 y.ws.length k7, .slice p8 y.it.length k8, .slice p9 y.el.length k9, .slice p10 y.bf.length k10, .slice p11 y.af.length k11]) (by simp [results, Tryz.results85, go_sem, pp0, pp1, pp2, pp3, pp4, pp5, pp6, pp7, pp8, pp9, pp10, pp11]) rfl ?_
  have s1 := HB1.out.size
  have s2 := HB2.out.size
  have s3 := HB3.out.size
  have s4 := HB4.out.size
  have s5 := HB5.out.size
  have s6 := HB6.out.size
  have hz := HS0.out
  have su1 := U1.out.size
  have su2 := U2.out.size
  have su3 := U3.out.size
  have su4 := U4.out.size
  have su5 := U5.out.size
  have su6 := U6.out.size
  have T1 := AT1.out.up (lo := w.heap.size + 2) (by first | omega | (simp only [setCell_size]; omega)) UF1
  have T2 := AT2.out.up (lo := w.heap.size + 2) (by first | omega | (simp only [setCell_size]; omega)) UF2
  have T3 := AT3.out.up (lo := w.heap.size + 2) (by first | omega | (simp only [setCell_size]; omega)) UF3
  have T4 := AT4.out.up (lo := w.heap.size + 2) (by first | omega | (simp only [setCell_size]; omega)) UF4
  have T5 := AT5.out.up (lo := w.heap.size + 2) (by first | omega | (simp only [setCell_size]; omega)) UF5
  have T6 := AT6.out.up (lo := w.heap.size + 2) (by first | omega | (simp only [setCell_size]; omega)) UF6
  have EN := HV.out.en
  have ENM := HV.out.nm
  have EIX := HV.out.ix
  exact ⟨⟨p4, k4, p7, k7, p8, k8, p9, k9, p10, k10, p11, k11⟩, rfl, ⟨EN, ENM, EIX, T1.low (by omega), T2.low (by omega), T3.low (by omega), T4.low (by omega), T5.low (by omega), T6.low (by omega)⟩, BF⟩

set_option maxHeartbeats 4000000 in
theorem cloneI_row (lf : Lf) : ∀ (l : List (List Lf)), lf = .row .items l → ∀ (N : Nat) (w : World) (p : Option Addr) (cap : Nat), At (Lo N) w (.r .items) (.slice p l.length cap) (.row .items l) → N ≤ w.heap.size →
    Calls Tryz.prog 84 #[.slice p l.length cap, .func (.func 85) #[] #[]] w (tRow .items l w) := by
  induction lf using lf_ind with
  | hn i => intro l h; cases h
  | hs t => intro l h; cases h
  | hb v => intro l h; cases h
  | hr k l0 ih =>
    intro l h
    injection h with hk0 hl0
    subst hk0
    obtain rfl : l = l0 := hl0.symm
    intro N w p cap ha hN
    obtain ⟨_, _, G, e1, ra⟩ := ha.rowOf
    cases e1
    exact eachItems l _ _ G N w ra hN (fun x hx y q W ex hW hat => cloneItem_of y q N W hat (by have := hW.size; omega)
      (fun W' hW' => ih x hx (.row .items y.it) (by rw [ex]; simp [ItL.lf]) y.it rfl N W' _ _ (hat.it.under (hW'.mono (by have := hW.size; omega))) (by have := hW.size; have := hW'.size; omega))
      (fun W' hW' => ih x hx (.row .items y.el) (by rw [ex]; simp [ItL.lf]) y.el rfl N W' _ _ (hat.el.under (hW'.mono (by have := hW.size; omega))) (by have := hW.size; have := hW'.size; omega)))
end Go.Proofs.YtoigjeoncdfdmaaGreatDoor.ClW
