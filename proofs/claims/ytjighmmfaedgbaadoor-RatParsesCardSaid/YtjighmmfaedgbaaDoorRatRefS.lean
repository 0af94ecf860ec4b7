/-
  What the reference's 'sum' and 'cross' return: numbers of any size with a sign.
-/
import Derived.Test.YtjighmmfaedgbaaDoorRatRefV
import Derived.Deep.RegionHeld3
import Derived.Deep.DeepCutAuto
namespace Go.Proofs.YtjighmmfaedgbaaDoor.RatW
open Go Go.RowKit Go.Proofs.YtjighmmfaedgbaaDoor.RatM

theorem plusBg (u v : Value) (a b B : Nat) (w : World) (h : Bg w B u a) (h' : Bg w B v b) (g1 : (digs a).length ≤ 100) (g2 : (digs b).length ≤ 100) (hB : B ≤ w.heap.size) :
    Calls Tryd.prog 62 #[u, v] w (tBig w (a + b)) := by
  have := plus_any u v (digs a) (digs b) B w h h' (low_digs _) (low_digs _) g1 g2 hB
  rwa [vd_digs, vd_digs] at this
/-- The world is as W0 was, below the end of W0. -/
def Stay (W0 w : World) : Prop := Below W0.heap.size W0 w
theorem Stay.refl (W0 : World) : Stay W0 W0 := Below.refl _ _
theorem Stay.step {W0 w w' : World} (h : Stay W0 w) (hb : Below w.heap.size w w') : Stay W0 w' := Below.then_ h hb
theorem Stay.drew {W0 w : World} (h : Stay W0 w) : Stay W0 w.drew := Below.drew h
theorem Stay.drewN {W0 w : World} (h : Stay W0 w) (n : Nat) : Stay W0 (w.drewN n) := below_drewN h n
theorem Stay.size {W0 w : World} (h : Stay W0 w) : W0.heap.size ≤ w.heap.size := Below.size h
theorem Stay.cell {W0 w : World} (h : Stay W0 w) {g o : Nat} {x : Value} (hc : W0.cell? ⟨g, o, none⟩ = some x) (hg : g < W0.heap.size) : w.cell? ⟨g, o, none⟩ = some x := (Below.cell h (p := ⟨g, o, none⟩) hg).trans hc
theorem Stay.frozen {W0 w : World} (h : Stay W0 w) {g o : Nat} (hc : W0.frozen? ⟨g, o, none⟩ = false) (hg : g < W0.heap.size) : w.frozen? ⟨g, o, none⟩ = false := (Below.frozen h (p := ⟨g, o, none⟩) hg).trans hc
theorem Stay.big {W0 w : World} (h : Stay W0 w) {v : Value} {n : Nat} (hv : Bg W0 W0.heap.size v n) : Bg w w.heap.size v n := (Bg.below hv h (Nat.le_refl _)).more h.size
/-- Blocks of two cells that are known. -/
structure Two (w : World) (g : Nat) (x y : Value) : Prop where
  lt : g < w.heap.size
  c0 : w.cell? ⟨g, 0, none⟩ = some x
  c1 : w.cell? ⟨g, 1, none⟩ = some y
  f0 : w.frozen? ⟨g, 0, none⟩ = false
  f1 : w.frozen? ⟨g, 1, none⟩ = false
theorem Two.new (w : World) (x y : Value) (t : TypeId) : Two (w.alloc (.cells #[x, y] t)) w.heap.size x y := by
  have hb : (w.alloc (.cells #[x, y] t)).heap[w.heap.size]? = some (.cells #[x, y] t) := Go.Deep.blk_alloc_new _ _
  refine ⟨by simp, alloc_cell _ _ _ _ _ rfl, alloc_cell _ _ _ _ _ rfl, ?_, ?_⟩
  · simp only [World.frozen?, hb]; rfl
  · simp only [World.frozen?, hb]; rfl
theorem Two.at_ {w : World} {g : Nat} (hg : w.heap.size = g) (x y : Value) (t : TypeId) : Two (w.alloc (.cells #[x, y] t)) g x y := by subst hg; exact Two.new w x y t
theorem Two.stay {W0 w : World} {g : Nat} {x y : Value} (h : Two W0 g x y) (hb : Below W0.heap.size W0 w) : Two w g x y :=
  ⟨Nat.lt_of_lt_of_le h.lt hb.size, (hb.cell (p := ⟨g, 0, none⟩) h.lt).trans h.c0, (hb.cell (p := ⟨g, 1, none⟩) h.lt).trans h.c1, (hb.frozen (p := ⟨g, 0, none⟩) h.lt).trans h.f0, (hb.frozen (p := ⟨g, 1, none⟩) h.lt).trans h.f1⟩
theorem Two.alloc {w : World} {g : Nat} {x y : Value} (h : Two w g x y) (o : Obj) : Two (w.alloc o) g x y := h.stay ((Below.refl _ _).alloc (Nat.le_refl _) _)
theorem Bg.is {w : World} {B : Nat} {v : Value} {n : Nat} (h : Bg w B v n) : ∃ A m c, v = .slice A m c := by
  obtain ⟨A, c, hv, _⟩ := h
  exact ⟨A, _, c, hv⟩
/-- A store into a block that begins with a Boolean turns no slice of digits. -/
theorem Bg.setBool {w : World} {B : Nat} {v : Value} {n : Nat} (h : Bg w B v n) {G : Nat} {b : Bool} (hG : w.cell? ⟨G, 0, none⟩ = some (.bool b)) (o : Nat) (x : Value) : Bg (w.setCell ⟨G, o, none⟩ x) B v n := by
  obtain ⟨A, c, rfl, hc, hx⟩ := h
  refine ⟨A, c, rfl, hc, fun h0 => ?_⟩
  obtain ⟨g, rfl, hg, hcell⟩ := hx h0
  refine ⟨g, rfl, hg, fun j hj => ?_⟩
  have hne : G ≠ g := by
    rintro rfl
    have := hcell 0 h0
    rw [hG] at this
    cases this
  rw [World.cell?_setCell_other w _ _ _ (fun e => hne (congrArg Addr.block e))]
  exact hcell j hj
theorem cell_set {w : World} {g o : Nat} {x y : Value} (h : w.cell? ⟨g, o, none⟩ = some y) : (w.setCell ⟨g, o, none⟩ x).cell? ⟨g, o, none⟩ = some x := by
  simp [World.cell?_setCell_same, h]
abbrev sv (neg : Bool) (v : Value) : Value := .agg #[.bool neg, v]
/-- A number with a sign is returned. -/
def tSg (L : Nat) (w : World) (x : Int) (e : Ending) (w' : World) : Prop := ∃ neg v N, e = .returned (sv neg v) ∧ sg neg N = x ∧ Bg w' w'.heap.size v N ∧ (digs N).length ≤ L ∧ Below w.heap.size w w'
theorem sg_add {s : Bool} {a b : Nat} : sg s (a + b) = sg s a + sg s b := by unfold sg; cases s <;> simp <;> omega
theorem sg_sub {s t : Bool} (h : s ≠ t) {a b : Nat} (hle : b ≤ a) : sg s (a - b) = sg s a + sg t b := by
  unfold sg
  cases s <;> cases t <;> simp_all <;> omega
set_option maxRecDepth 100000 in
set_option maxHeartbeats 4000000 in
theorem sumEq_any (s : Bool) (u v : Value) (a b B : Nat) (w : World) (h : Bg w B u a) (h' : Bg w B v b) (g1 : (digs a).length ≤ 18) (g2 : (digs b).length ≤ 18) (hB : B ≤ w.heap.size) :
    Calls Tryd.prog 41 #[sv s u, sv s v] w (tSg 19 w (sg s a + sg s b)) := by
  obtain ⟨W0, hW0⟩ : ∃ W0, ((w.alloc (.cells #[.bool s, u] 57)).alloc (.cells #[.bool s, v] 57)).alloc (.cells #[.bool false, .slice none 0 0] 57) = W0 := ⟨_, rfl⟩
  have T2 : Two W0 w.heap.size (.bool s) u := by rw [← hW0]; exact ((Two.new _ _ _ _).alloc _).alloc _
  have T3 : Two W0 (w.heap.size + 1) (.bool s) v := by rw [← hW0]; exact (Two.at_ (by simp) _ _ _).alloc _
  have T4 : Two W0 (w.heap.size + 1 + 1) (.bool false) (.slice none 0 0) := by rw [← hW0]; exact Two.at_ (by simp) _ _ _
  have BW : Below w.heap.size w W0 := by rw [← hW0]; exact (((Below.refl _ _).alloc (Nat.le_refl _) _).alloc (by simp) _).alloc (by simp; omega) _
  have U := Lib.hid ((h.below BW hB).more (Nat.le_trans hB BW.size))
  have V := Lib.hid ((h'.below BW hB).more (Nat.le_trans hB BW.size))
  have HBW := Lib.hid BW
  have H2 := Lib.hid T2
  have H3 := Lib.hid T3
  have H4 := Lib.hid T4
  have HW := Lib.hid hW0
  clear T2 T3 T4 BW h h' hB hW0
  go_enter Tryd.func41, Tryd.ntmps41
  go_wp2
  rw [HW.out]
  have c20 := H2.out.c0
  have c21 := H2.out.c1
  have c31 := H3.out.c1
  go_region_held3 (fun w' => w'.cell? ⟨w.heap.size, 0, none⟩ = some (.bool s) ∧ w'.cell? ⟨w.heap.size, 1, none⟩ = some u ∧ w'.cell? ⟨w.heap.size + 1, 1, none⟩ = some v) (first | assumption | exact ⟨c20, c21, c31⟩ | (refine ⟨?_, ?_, ?_⟩ <;> (rw [World.cell?_setCell_other _ _ _ _ (by simp), World.cell?_setCell_other _ _ _ _ (by simp)]; first | exact S1.1 | exact S1.2.1 | exact S1.2.2)))
    (first | (go_at_call 62; refine (plusBg u v a b W0.heap.size W0.drew U.out V.out (by omega) (by omega) (Nat.le_refl _)).mono ?_; rintro e w1 ⟨v1, rfl, hv1, hb1⟩; obtain ⟨A1, m1, k1, rfl⟩ := hv1.is; have HV1 := Lib.hid hv1; have HB1 : Hid (Below W0.heap.size W0 w1) := Lib.hid ((Below.refl _ W0).drew.trans hb1); have D2 := H2.out.stay HB1.out; have D3 := H3.out.stay HB1.out; obtain ⟨_, d40, d41, q40, q41⟩ := H4.out.stay HB1.out; have S1 := And.intro D2.c0 (And.intro D2.c1 D3.c1); clear D2 D3 hv1 hb1))
  go_wp2
  refine bodyPost_ret (v := sv s (.slice A1 m1 k1)) (by simp [results, Tryd.results41, go_sem, d40, d41]) rfl ?_
  have R1 := (HV1.out.setBool d40 0 (.bool s)).setBool (b := s) (cell_set d40) 1 (.slice A1 m1 k1)
  refine ⟨s, _, a + b, rfl, sg_add, ?_, ?_, ?_⟩
  · exact R1.more (by simp [World.setCell])
  · have := digs_add a b; omega
  · exact (((HBW.out.trans (HB1.out.mono HBW.out.size)).setCell (by simp; omega) _).setCell (by simp; omega) _)
set_option maxRecDepth 100000 in
set_option maxHeartbeats 4000000 in
theorem sumGe_any (s t : Bool) (hst : s ≠ t) (u v : Value) (a b B : Nat) (w : World) (h : Bg w B u a) (h' : Bg w B v b) (g1 : (digs a).length ≤ 18) (g2 : (digs b).length ≤ 18) (hB : B ≤ w.heap.size) (hle : b ≤ a) :
    Calls Tryd.prog 41 #[sv s u, sv t v] w (tSg 19 w (sg s a + sg t b)) := by
  obtain ⟨W0, hW0⟩ : ∃ W0, ((w.alloc (.cells #[.bool s, u] 57)).alloc (.cells #[.bool t, v] 57)).alloc (.cells #[.bool false, .slice none 0 0] 57) = W0 := ⟨_, rfl⟩
  have T2 : Two W0 w.heap.size (.bool s) u := by rw [← hW0]; exact ((Two.new _ _ _ _).alloc _).alloc _
  have T3 : Two W0 (w.heap.size + 1) (.bool t) v := by rw [← hW0]; exact (Two.at_ (by simp) _ _ _).alloc _
  have T4 : Two W0 (w.heap.size + 1 + 1) (.bool false) (.slice none 0 0) := by rw [← hW0]; exact Two.at_ (by simp) _ _ _
  have BW : Below w.heap.size w W0 := by rw [← hW0]; exact (((Below.refl _ _).alloc (Nat.le_refl _) _).alloc (by simp) _).alloc (by simp; omega) _
  have U := Lib.hid ((h.below BW hB).more (Nat.le_trans hB BW.size))
  have V := Lib.hid ((h'.below BW hB).more (Nat.le_trans hB BW.size))
  have HBW := Lib.hid BW
  have H2 := Lib.hid T2
  have H3 := Lib.hid T3
  have H4 := Lib.hid T4
  have HW := Lib.hid hW0
  clear T2 T3 T4 BW h h' hB hW0
  have s1 : (s == t) = false := by simpa using hst
  have HST := Lib.hid hst
  have HLE := Lib.hid hle
  have o1 : 0 ≤ ordZ a b := by unfold ordZ; split <;> (try split) <;> omega
  clear hst hle
  go_enter Tryd.func41, Tryd.ntmps41
  have c20 := H2.out.c0
  have c21 := H2.out.c1
  have c31 := H3.out.c1
  go_wp2_with (rw [HW.out]; go_at_call 63; refine (order_any _ _ a b _ _ _ U.out V.out (by omega) (by omega)).mono ?_; rintro e w1 ⟨rfl, m, rfl⟩)
  go_region_held3 (fun w' => w'.cell? ⟨w.heap.size, 0, none⟩ = some (.bool s) ∧ w'.cell? ⟨w.heap.size, 1, none⟩ = some u ∧ w'.cell? ⟨w.heap.size + 1, 1, none⟩ = some v) (first | assumption | exact ⟨c20, c21, c31⟩ | (refine ⟨?_, ?_, ?_⟩ <;> (rw [World.cell?_setCell_other _ _ _ _ (by simp), World.cell?_setCell_other _ _ _ _ (by simp)]; first | exact S1.1 | exact S1.2.1 | exact S1.2.2)))
    (first | (go_at_call 64; refine (minus_any u v a b W0.heap.size (W0.drewN m).drew U.out V.out HLE.out (by omega) (Nat.le_refl _)).mono ?_; rintro e w1 ⟨v1, rfl, hv1, hb1⟩; obtain ⟨A1, m1, k1, rfl⟩ := hv1.is; have HV1 := Lib.hid hv1; have HB1 : Hid (Below W0.heap.size W0 w1) := Lib.hid ((below_drewN (Below.refl _ W0) m).drew.trans hb1); have D2 := H2.out.stay HB1.out; have D3 := H3.out.stay HB1.out; obtain ⟨_, d40, d41, q40, q41⟩ := H4.out.stay HB1.out; have S1 := And.intro D2.c0 (And.intro D2.c1 D3.c1); clear D2 D3 hv1 hb1))
  go_wp2
  refine bodyPost_ret (v := sv s (.slice A1 m1 k1)) (by simp [results, Tryd.results41, go_sem, d40, d41]) rfl ?_
  have R1 := (HV1.out.setBool d40 0 (.bool s)).setBool (b := s) (cell_set d40) 1 (.slice A1 m1 k1)
  refine ⟨s, _, a - b, rfl, sg_sub HST.out HLE.out, ?_, ?_, ?_⟩
  · exact R1.more (by simp [World.setCell])
  · have := digs_mono (Nat.sub_le a b); omega
  · exact (((HBW.out.trans (HB1.out.mono HBW.out.size)).setCell (by simp; omega) _).setCell (by simp; omega) _)
set_option maxRecDepth 100000 in
set_option maxHeartbeats 4000000 in
theorem sumLt_any (s t : Bool) (hst : s ≠ t) (u v : Value) (a b B : Nat) (w : World) (h : Bg w B u a) (h' : Bg w B v b) (g1 : (digs a).length ≤ 18) (g2 : (digs b).length ≤ 18) (hB : B ≤ w.heap.size) (hle : a < b) :
    Calls Tryd.prog 41 #[sv s u, sv t v] w (tSg 19 w (sg s a + sg t b)) := by
  obtain ⟨W0, hW0⟩ : ∃ W0, ((w.alloc (.cells #[.bool s, u] 57)).alloc (.cells #[.bool t, v] 57)).alloc (.cells #[.bool false, .slice none 0 0] 57) = W0 := ⟨_, rfl⟩
  have T2 : Two W0 w.heap.size (.bool s) u := by rw [← hW0]; exact ((Two.new _ _ _ _).alloc _).alloc _
  have T3 : Two W0 (w.heap.size + 1) (.bool t) v := by rw [← hW0]; exact (Two.at_ (by simp) _ _ _).alloc _
  have T4 : Two W0 (w.heap.size + 1 + 1) (.bool false) (.slice none 0 0) := by rw [← hW0]; exact Two.at_ (by simp) _ _ _
  have BW : Below w.heap.size w W0 := by rw [← hW0]; exact (((Below.refl _ _).alloc (Nat.le_refl _) _).alloc (by simp) _).alloc (by simp; omega) _
  have U := Lib.hid ((h.below BW hB).more (Nat.le_trans hB BW.size))
  have V := Lib.hid ((h'.below BW hB).more (Nat.le_trans hB BW.size))
  have HBW := Lib.hid BW
  have H2 := Lib.hid T2
  have H3 := Lib.hid T3
  have H4 := Lib.hid T4
  have HW := Lib.hid hW0
  clear T2 T3 T4 BW h h' hB hW0
  have s1 : (s == t) = false := by simpa using hst
  have HST := Lib.hid hst
  have HLE := Lib.hid hle
  have o1 : ordZ a b < 0 := by unfold ordZ; split <;> (try split) <;> omega
  clear hst hle
  go_enter Tryd.func41, Tryd.ntmps41
  have c20 := H2.out.c0
  have c21 := H2.out.c1
  have c30 := H3.out.c0
  have c31 := H3.out.c1
  go_wp2_with (rw [HW.out]; go_at_call 63; refine (order_any _ _ a b _ _ _ U.out V.out (by omega) (by omega)).mono ?_; rintro e w1 ⟨rfl, m, rfl⟩)
  go_region_held3 (fun w' => w'.cell? ⟨w.heap.size + 1, 0, none⟩ = some (.bool t) ∧ w'.cell? ⟨w.heap.size, 1, none⟩ = some u ∧ w'.cell? ⟨w.heap.size + 1, 1, none⟩ = some v) (first | assumption | exact ⟨c30, c21, c31⟩ | (refine ⟨?_, ?_, ?_⟩ <;> (rw [World.cell?_setCell_other _ _ _ _ (by simp), World.cell?_setCell_other _ _ _ _ (by simp)]; first | exact S1.1 | exact S1.2.1 | exact S1.2.2)))
    (first | (go_at_call 64; refine (minus_any v u b a W0.heap.size (W0.drewN m).drew V.out U.out (Nat.le_of_lt HLE.out) (by omega) (Nat.le_refl _)).mono ?_; rintro e w1 ⟨v1, rfl, hv1, hb1⟩; obtain ⟨A1, m1, k1, rfl⟩ := hv1.is; have HV1 := Lib.hid hv1; have HB1 : Hid (Below W0.heap.size W0 w1) := Lib.hid ((below_drewN (Below.refl _ W0) m).drew.trans hb1); have D2 := H2.out.stay HB1.out; have D3 := H3.out.stay HB1.out; obtain ⟨_, d40, d41, q40, q41⟩ := H4.out.stay HB1.out; have S1 := And.intro D3.c0 (And.intro D2.c1 D3.c1); clear D2 D3 hv1 hb1))
  go_wp2
  refine bodyPost_ret (v := sv t (.slice A1 m1 k1)) (by simp [results, Tryd.results41, go_sem, d40, d41]) rfl ?_
  have R1 := (HV1.out.setBool d40 0 (.bool t)).setBool (b := t) (cell_set d40) 1 (.slice A1 m1 k1)
  refine ⟨t, _, b - a, rfl, by rw [sg_sub (Ne.symm HST.out) (Nat.le_of_lt HLE.out), Int.add_comm], ?_, ?_, ?_⟩
  · exact R1.more (by simp [World.setCell])
  · have := digs_mono (Nat.sub_le b a); omega
  · exact (((HBW.out.trans (HB1.out.mono HBW.out.size)).setCell (by simp; omega) _).setCell (by simp; omega) _)
theorem sum_any (s t : Bool) (u v : Value) (a b B : Nat) (w : World) (h : Bg w B u a) (h' : Bg w B v b) (g1 : (digs a).length ≤ 18) (g2 : (digs b).length ≤ 18) (hB : B ≤ w.heap.size) :
    Calls Tryd.prog 41 #[sv s u, sv t v] w (tSg 19 w (sg s a + sg t b)) := by
  by_cases hst : s = t
  · subst hst; exact sumEq_any s u v a b B w h h' g1 g2 hB
  · by_cases hle : b ≤ a
    · exact sumGe_any s t hst u v a b B w h h' g1 g2 hB hle
    · exact sumLt_any s t hst u v a b B w h h' g1 g2 hB (by omega)
end Go.Proofs.YtjighmmfaedgbaaDoor.RatW
