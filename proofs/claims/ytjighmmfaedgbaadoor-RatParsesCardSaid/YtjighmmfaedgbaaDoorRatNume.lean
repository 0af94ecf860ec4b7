/-
  What numerator of package rat returns.
-/
import Derived.Test.YtjighmmfaedgbaaDoorRatMake
namespace Go.Proofs.YtjighmmfaedgbaaDoor.RatW
open Go Go.RowKit Go.Proofs.YtjighmmfaedgbaaDoor.RatM

/-- Blocks of three cells that are known. -/
structure Three (w : World) (g : Nat) (x y z : Value) : Prop where
  lt : g < w.heap.size
  c0 : w.cell? ⟨g, 0, none⟩ = some x
  c1 : w.cell? ⟨g, 1, none⟩ = some y
  c2 : w.cell? ⟨g, 2, none⟩ = some z
  f : ∀ i, w.frozen? ⟨g, i, none⟩ = false
theorem Three.at_ {w : World} {g : Nat} (hg : w.heap.size = g) (x y z : Value) (t : TypeId) : Three (w.alloc (.cells #[x, y, z] t)) g x y z := by
  subst hg
  have hb : (w.alloc (.cells #[x, y, z] t)).heap[w.heap.size]? = some (.cells #[x, y, z] t) := Go.Deep.blk_alloc_new _ _
  exact ⟨by simp, alloc_cell _ _ _ _ _ rfl, alloc_cell _ _ _ _ _ rfl, alloc_cell _ _ _ _ _ rfl, fun i => by simp only [World.frozen?, hb]; simp⟩
theorem Three.stay {W0 w : World} {g : Nat} {x y z : Value} (h : Three W0 g x y z) (hb : Below W0.heap.size W0 w) : Three w g x y z :=
  ⟨Nat.lt_of_lt_of_le h.lt hb.size, (hb.cell (p := ⟨g, 0, none⟩) h.lt).trans h.c0, (hb.cell (p := ⟨g, 1, none⟩) h.lt).trans h.c1, (hb.cell (p := ⟨g, 2, none⟩) h.lt).trans h.c2, fun i => (hb.frozen (p := ⟨g, i, none⟩) h.lt).trans (h.f i)⟩
theorem Three.alloc {w : World} {g : Nat} {x y z : Value} (h : Three w g x y z) (o : Obj) : Three (w.alloc o) g x y z := h.stay ((Below.refl _ _).alloc (Nat.le_refl _) _)
theorem Three.drew {w : World} {g : Nat} {x y z : Value} (h : Three w g x y z) : Three w.drew g x y z := ⟨h.lt, h.c0, h.c1, h.c2, h.f⟩
theorem Three.far {w : World} {g : Nat} {x y z : Value} (h : Three w g x y z) {g' o : Nat} {u : Value} (hne : g ≠ g') : Three (w.setCell ⟨g', o, none⟩ u) g x y z := by
  have hb : (w.setCell ⟨g', o, none⟩ u).heap[g]? = w.heap[g]? := Below.heap_setCell _ _ _ _ hne
  exact ⟨by have := h.lt; simpa [World.setCell] using this, (World.cell?_of_block (w := w) (a := ⟨g, 0, none⟩) hb).trans h.c0, (World.cell?_of_block (w := w) (a := ⟨g, 1, none⟩) hb).trans h.c1, (World.cell?_of_block (w := w) (a := ⟨g, 2, none⟩) hb).trans h.c2, fun i => (World.frozen?_of_block (w := w) (a := ⟨g, i, none⟩) hb).trans (h.f i)⟩
theorem Three.set1 {w : World} {g : Nat} {x y z : Value} (h : Three w g x y z) (u : Value) : Three (w.setCell ⟨g, 1, none⟩ u) g x u z :=
  ⟨by have := h.lt; simpa [World.setCell] using this, by rw [World.cell?_setCell_other _ _ _ _ (by simp)]; exact h.c0, cell_set h.c1, by rw [World.cell?_setCell_other _ _ _ _ (by simp)]; exact h.c2, fun i => by simp [h.f i]⟩
theorem Three.set2 {w : World} {g : Nat} {x y z : Value} (h : Three w g x y z) (u : Value) : Three (w.setCell ⟨g, 2, none⟩ u) g x y u :=
  ⟨by have := h.lt; simpa [World.setCell] using this, by rw [World.cell?_setCell_other _ _ _ _ (by simp)]; exact h.c0, by rw [World.cell?_setCell_other _ _ _ _ (by simp)]; exact h.c1, cell_set h.c2, fun i => by simp [h.f i]⟩
theorem keep3 {w : World} {g g' : Nat} {x y z x' y' z' : Value} (h : Three w g x y z) (h' : Three w g' x' y' z') : w.cell? ⟨g, 1, none⟩ = some y ∧ w.cell? ⟨g, 2, none⟩ = some z ∧ w.cell? ⟨g', 1, none⟩ = some y' ∧ w.cell? ⟨g', 2, none⟩ = some z' := ⟨h.c1, h.c2, h'.c1, h'.c2⟩
/-- The numerator of a sum of two fractions: its sign and its size. -/
def numS (s1 : Bool) (n1 d1 : Nat) (s2 : Bool) (n2 d2 : Nat) : Bool × Nat :=
  if s1 = s2 then (s1, n1 * d2 + n2 * d1) else if n1 * d2 < n2 * d1 then (s2, n2 * d1 - n1 * d2) else (s1, n1 * d2 - n2 * d1)
theorem numS_sg (s1 : Bool) (n1 d1 : Nat) (s2 : Bool) (n2 d2 : Nat) : sg (numS s1 n1 d1 s2 n2 d2).1 (numS s1 n1 d1 s2 n2 d2).2 = sg s1 (n1 * d2) + sg s2 (n2 * d1) := by
  unfold numS
  by_cases h : s1 = s2
  · subst h; rw [if_pos rfl]; exact sg_add
  · rw [if_neg h]
    by_cases g : n1 * d2 < n2 * d1
    · rw [if_pos g, Int.add_comm]; exact sg_sub (Ne.symm h) (Nat.le_of_lt g)
    · rw [if_neg g]; exact sg_sub h (by omega)
set_option maxRecDepth 100000 in
set_option maxHeartbeats 1000000 in
theorem timesX (a b : Nat) (w : World) (ha : a < 18446744073709551616) (hb : b < 18446744073709551616) :
    Calls Tryd.prog 61 #[.int .u64 a, .int .u64 b] w fun e w' => e = .returned (wv (hiW (a * b)) (loW (a * b))) ∧ w' = w.alloc (.cells #[.int .u64 (hiW (a * b)), .int .u64 (loW (a * b))] 48) := by
  have M := Lib.hid (fun w => Tryd.bits_Mul64 a b ha hb w)
  clear ha hb
  go_enter Tryd.func61, Tryd.ntmps61
  go_wp2_with (go_at_call 80; refine (M.out _).mono ?_; rintro e w' ⟨rfl, rfl⟩)
  refine bodyPost_ret (v := wv (hiW (a * b)) (loW (a * b))) (by simp [results, Tryd.results61, go_sem, hiW, loW]) rfl ?_
  exact ⟨rfl, rfl⟩
/-- Two wide numbers lie in blocks of their own. -/
def TwoW (W0 wx : World) (N M : Nat) (p q : Value) : Prop := ∃ g h, p = .pointer (some ⟨g, 0, none⟩) ∧ q = .pointer (some ⟨h, 0, none⟩) ∧ W0.heap.size ≤ g ∧ W0.heap.size ≤ h ∧ Two wx g (.int .u64 (hiW N)) (.int .u64 (loW N)) ∧ Two wx h (.int .u64 (hiW M)) (.int .u64 (loW M)) ∧ Below W0.heap.size W0 wx
def tNum (w : World) (r : Bool × Nat) (e : Ending) (w' : World) : Prop := e = .returned (.tuple #[.bool r.1, wv (hiW r.2) (loW r.2)]) ∧ Below w.heap.size w w'
set_option maxRecDepth 100000 in
set_option maxHeartbeats 60000000 in
theorem numCode (s1 : Bool) (n1 d1 : Nat) (s2 : Bool) (n2 d2 : Nat) (w : World) (a1 : n1 ≤ 9223372036854775808) (a2 : d1 ≤ 9223372036854775808) (a3 : n2 ≤ 9223372036854775808) (a4 : d2 ≤ 9223372036854775808) :
    Calls Tryd.prog 47 #[fv s1 n1 d1, fv s2 n2 d2] w (tNum w (numS s1 n1 d1 s2 n2 d2)) := by
  obtain ⟨W0, hW0⟩ : ∃ W0, ((w.alloc (.cells #[.bool s1, .int .u64 n1, .int .u64 d1] 54)).alloc (.cells #[.bool s2, .int .u64 n2, .int .u64 d2] 54)).alloc (.cells #[.int .u64 0, .int .u64 0] 48) = W0 := ⟨_, rfl⟩
  have H2 : Hid (Three W0 w.heap.size (.bool s1) (.int .u64 n1) (.int .u64 d1)) := Lib.hid (by rw [← hW0]; exact ((Three.at_ rfl _ _ _ _).alloc _).alloc _)
  have H3 : Hid (Three W0 (w.heap.size + 1) (.bool s2) (.int .u64 n2) (.int .u64 d2)) := Lib.hid (by rw [← hW0]; exact (Three.at_ (by simp) _ _ _ _).alloc _)
  have H5 : Hid (Two W0 (w.heap.size + 1 + 1) (.int .u64 0) (.int .u64 0)) := Lib.hid (by rw [← hW0]; exact Two.at_ (by simp) _ _ _)
  have HBW : Hid (Below w.heap.size w W0) := Lib.hid (by rw [← hW0]; exact (((Below.refl _ _).alloc (Nat.le_refl _) _).alloc (by simp) _).alloc (by simp; omega) _)
  have hz0 : w.heap.size + 1 + 1 < W0.heap.size := H5.out.lt
  have TA := Lib.hid (fun w => timesX n1 d2 w (by omega) (by omega))
  have TB := Lib.hid (fun w => timesX n2 d1 w (by omega) (by omega))
  have PB : n1 * d2 ≤ 85070591730234615865843651857942052864 := Nat.mul_le_mul a1 a4
  have QB : n2 * d1 ≤ 85070591730234615865843651857942052864 := Nat.mul_le_mul a3 a2
  have PBH := Lib.hid PB
  have QBH := Lib.hid QB
  have HW := Lib.hid hW0
  clear hW0 a1 a2 a3 a4 PB QB
  have HN : numS s1 n1 d1 s2 n2 d2 = if s1 = s2 then (s1, n1 * d2 + n2 * d1) else if n1 * d2 < n2 * d1 then (s2, n2 * d1 - n1 * d2) else (s1, n1 * d2 - n2 * d1) := rfl
  generalize numS s1 n1 d1 s2 n2 d2 = R at *
  generalize n1 * d2 = P at *
  generalize n2 * d1 = Q at *
  have HNR := Lib.hid HN
  clear HN
  have D2 := H2.out
  have D3 := H3.out
  go_enter Tryd.func47, Tryd.ntmps47
  go_wp2
  rw [HW.out]
  go_cut [6, 7] (fun s6 s7 wx => TwoW W0 wx P Q s6 s7)
  case first =>
    go_region_held3 (fun w' => w'.cell? ⟨w.heap.size, 1, none⟩ = some (.int .u64 n1) ∧ w'.cell? ⟨w.heap.size, 2, none⟩ = some (.int .u64 d1) ∧ w'.cell? ⟨w.heap.size + 1, 1, none⟩ = some (.int .u64 n2) ∧ w'.cell? ⟨w.heap.size + 1, 2, none⟩ = some (.int .u64 d2))
      (first
        | assumption
        | exact ⟨D2.drew.c1, D2.drew.c2, D3.drew.c1, D3.drew.c2⟩
        | ((refine keep3 (x := .bool s1) (x' := .bool s2) ?_ ?_) <;> (repeat' (first | exact D2 | exact D3 | exact D2.drew | exact D3.drew | (refine Three.drew ?_) | (refine Three.alloc ?_ _) | (refine Three.far ?_ (by simp; omega)))))
        | fail)
      (first
        | (go_at_call 61; ((with_reducible refine (TA.out _).mono ?_); rintro e w' ⟨rfl, rfl⟩))
        | (go_at_call 61; ((with_reducible refine (TB.out _).mono ?_); rintro e w' ⟨rfl, rfl⟩)))
    all_goals
      go_wp2_with fail
      go_meet
    all_goals
      refine ⟨_, _, rfl, rfl, ?_, ?_, ?_, ?_, ?_⟩
      · first | (simp; done) | (simp; omega) | omega
      · first | (simp; done) | (simp; omega) | omega
      · repeat' (first | ((refine Two.at_ ?_ _ _ _) <;> (simp; done)) | (refine Two.drew ?_) | (refine Two.alloc ?_ _))
      · repeat' (first | ((refine Two.at_ ?_ _ _ _) <;> (simp; done)) | (refine Two.drew ?_) | (refine Two.alloc ?_ _))
      · repeat' (first | exact Below.refl _ _ | (refine Below.drew ?_) | (refine Below.alloc ?_ (by first | (simp; done) | (simp; omega)) _))
  case rest =>
    obtain ⟨g, h, rfl, rfl, hg, hh, t6, t7, hb⟩ := hcut
    have HBC := Lib.hid hb
    have D2 := H2.out.stay hb
    have D3 := H3.out.stay hb
    have D5 := H5.out.stay hb
    have x2 := D2.c0
    have x3 := D3.c0
    have PP := Lib.hid (fun w => plusCode P Q w (by have := PBH.out; have := QBH.out; omega))
    have MM := Lib.hid (fun w h => minusCode Q P w h (by have := QBH.out; omega))
    have NN := Lib.hid (fun w h => minusCode P Q w h (by have := PBH.out; omega))
    have LL := Lib.hid (fun w => lessCode P Q w)
    have o0 := t6.c0
    have o1 := t6.c1
    have o2 := t7.c0
    have o3 := t7.c1
    clear hb
    by_cases hs : s1 = s2
    · subst hs
      have HR : Hid (R = (s1, P + Q)) := Lib.hid (by rw [HNR.out, if_pos rfl])
      clear o0 o1 o2 o3
      go_wp2
      go_region_held3 (fun w' => w'.cell? ⟨w.heap.size, 0, none⟩ = some (.bool s1) ∧ w'.cell? ⟨g, 0, none⟩ = some (.int .u64 (hiW P)) ∧ w'.cell? ⟨g, 1, none⟩ = some (.int .u64 (loW P)) ∧ w'.cell? ⟨h, 0, none⟩ = some (.int .u64 (hiW Q)) ∧ w'.cell? ⟨h, 1, none⟩ = some (.int .u64 (loW Q)))
        (first
          | assumption
          | exact ⟨D2.drew.c0, t6.drew.c0, t6.drew.c1, t7.drew.c0, t7.drew.c1⟩
          | exact ⟨((E2.far (by omega)).far (by omega)).c0, ((E6.far (by omega)).far (by omega)).c0, ((E6.far (by omega)).far (by omega)).c1, ((E7.far (by omega)).far (by omega)).c0, ((E7.far (by omega)).far (by omega)).c1⟩
          | fail)
        (first | (go_at_call 66; refine (PP.out _).mono ?_; rintro e w1 ⟨rfl, hb⟩; have HB1 := Lib.hid (below_drew hb); have E2 := D2.stay HB1.out; have E6 := t6.stay HB1.out; have E7 := t7.stay HB1.out; obtain ⟨_, q0, q1, q2, q3⟩ := D5.stay HB1.out; have K : w1.cell? ⟨w.heap.size, 0, none⟩ = some (.bool s1) ∧ w1.cell? ⟨g, 0, none⟩ = some (.int .u64 (hiW P)) ∧ w1.cell? ⟨g, 1, none⟩ = some (.int .u64 (loW P)) ∧ w1.cell? ⟨h, 0, none⟩ = some (.int .u64 (hiW Q)) ∧ w1.cell? ⟨h, 1, none⟩ = some (.int .u64 (loW Q)) := ⟨E2.c0, E6.c0, E6.c1, E7.c0, E7.c1⟩; clear hb))
      go_wp2
      refine bodyPost_ret (v := .tuple #[.bool s1, wv (hiW (P + Q)) (loW (P + Q))]) (by simp [results, Tryd.results47, go_sem, q0, q1]) rfl ?_
      exact ⟨by rw [HR.out], (((HBW.out.trans (HBC.out.mono HBW.out.size)).trans (HB1.out.mono (Nat.le_trans HBW.out.size HBC.out.size))).setCell (by simp; omega) _).setCell (by simp; omega) _⟩
    · have hs' : (s1 == s2) = false := by simpa using hs
      by_cases hlt : P < Q
      · have HR : Hid (R = (s2, Q - P)) := Lib.hid (by rw [HNR.out, if_neg hs, if_pos hlt])
        have HLT := Lib.hid hlt
        have hd : decide (P < Q) = true := decide_eq_true hlt
        clear hs hlt
        go_wp2_with (go_at_call 67; refine (LL.out _).mono ?_; rintro e w0 ⟨rfl, hb0⟩; rw [hd]; have t6 := t6.stay hb0; have t7 := t7.stay hb0; have D2 := D2.stay hb0; have D3 := D3.stay hb0; have D5 := D5.stay hb0; have HBC := Lib.hid (Below.then_ HBC.out hb0); clear x2 x3 o0 o1 o2 o3 hb0)
        go_region_held3 (fun w' => w'.cell? ⟨w.heap.size + 1, 0, none⟩ = some (.bool s2) ∧ w'.cell? ⟨g, 0, none⟩ = some (.int .u64 (hiW P)) ∧ w'.cell? ⟨g, 1, none⟩ = some (.int .u64 (loW P)) ∧ w'.cell? ⟨h, 0, none⟩ = some (.int .u64 (hiW Q)) ∧ w'.cell? ⟨h, 1, none⟩ = some (.int .u64 (loW Q)))
          (first
            | assumption
            | exact ⟨D3.drew.c0, t6.drew.c0, t6.drew.c1, t7.drew.c0, t7.drew.c1⟩
            | exact ⟨((E2.far (by omega)).far (by omega)).c0, ((E6.far (by omega)).far (by omega)).c0, ((E6.far (by omega)).far (by omega)).c1, ((E7.far (by omega)).far (by omega)).c0, ((E7.far (by omega)).far (by omega)).c1⟩
            | fail)
          (first | (go_at_call 68; refine (MM.out _ (Nat.le_of_lt HLT.out)).mono ?_; rintro e w1 ⟨rfl, hb⟩; have HB1 := Lib.hid (below_drew hb); have E2 := D3.stay HB1.out; have E6 := t6.stay HB1.out; have E7 := t7.stay HB1.out; obtain ⟨_, q0, q1, q2, q3⟩ := D5.stay HB1.out; have K : w1.cell? ⟨w.heap.size + 1, 0, none⟩ = some (.bool s2) ∧ w1.cell? ⟨g, 0, none⟩ = some (.int .u64 (hiW P)) ∧ w1.cell? ⟨g, 1, none⟩ = some (.int .u64 (loW P)) ∧ w1.cell? ⟨h, 0, none⟩ = some (.int .u64 (hiW Q)) ∧ w1.cell? ⟨h, 1, none⟩ = some (.int .u64 (loW Q)) := ⟨E2.c0, E6.c0, E6.c1, E7.c0, E7.c1⟩; clear hb))
        go_wp2
        refine bodyPost_ret (v := .tuple #[.bool s2, wv (hiW (Q - P)) (loW (Q - P))]) (by simp [results, Tryd.results47, go_sem, q0, q1]) rfl ?_
        exact ⟨by rw [HR.out], (((HBW.out.trans (HBC.out.mono HBW.out.size)).trans (HB1.out.mono (Nat.le_trans HBW.out.size HBC.out.size))).setCell (by simp; omega) _).setCell (by simp; omega) _⟩
      · have HR : Hid (R = (s1, P - Q)) := Lib.hid (by rw [HNR.out, if_neg hs, if_neg hlt])
        have HLT : Hid (Q ≤ P) := Lib.hid (by omega)
        have hd : decide (P < Q) = false := decide_eq_false hlt
        clear hs hlt
        go_wp2_with (go_at_call 67; refine (LL.out _).mono ?_; rintro e w0 ⟨rfl, hb0⟩; rw [hd]; have t6 := t6.stay hb0; have t7 := t7.stay hb0; have D2 := D2.stay hb0; have D3 := D3.stay hb0; have D5 := D5.stay hb0; have HBC := Lib.hid (Below.then_ HBC.out hb0); clear x2 x3 o0 o1 o2 o3 hb0)
        go_region_held3 (fun w' => w'.cell? ⟨w.heap.size, 0, none⟩ = some (.bool s1) ∧ w'.cell? ⟨g, 0, none⟩ = some (.int .u64 (hiW P)) ∧ w'.cell? ⟨g, 1, none⟩ = some (.int .u64 (loW P)) ∧ w'.cell? ⟨h, 0, none⟩ = some (.int .u64 (hiW Q)) ∧ w'.cell? ⟨h, 1, none⟩ = some (.int .u64 (loW Q)))
          (first
            | assumption
            | exact ⟨D2.drew.c0, t6.drew.c0, t6.drew.c1, t7.drew.c0, t7.drew.c1⟩
            | exact ⟨((E2.far (by omega)).far (by omega)).c0, ((E6.far (by omega)).far (by omega)).c0, ((E6.far (by omega)).far (by omega)).c1, ((E7.far (by omega)).far (by omega)).c0, ((E7.far (by omega)).far (by omega)).c1⟩
            | fail)
          (first | (go_at_call 68; refine (NN.out _ HLT.out).mono ?_; rintro e w1 ⟨rfl, hb⟩; have HB1 := Lib.hid (below_drew hb); have E2 := D2.stay HB1.out; have E6 := t6.stay HB1.out; have E7 := t7.stay HB1.out; obtain ⟨_, q0, q1, q2, q3⟩ := D5.stay HB1.out; have K : w1.cell? ⟨w.heap.size, 0, none⟩ = some (.bool s1) ∧ w1.cell? ⟨g, 0, none⟩ = some (.int .u64 (hiW P)) ∧ w1.cell? ⟨g, 1, none⟩ = some (.int .u64 (loW P)) ∧ w1.cell? ⟨h, 0, none⟩ = some (.int .u64 (hiW Q)) ∧ w1.cell? ⟨h, 1, none⟩ = some (.int .u64 (loW Q)) := ⟨E2.c0, E6.c0, E6.c1, E7.c0, E7.c1⟩; clear hb))
        go_wp2
        refine bodyPost_ret (v := .tuple #[.bool s1, wv (hiW (P - Q)) (loW (P - Q))]) (by simp [results, Tryd.results47, go_sem, q0, q1]) rfl ?_
        exact ⟨by rw [HR.out], (((HBW.out.trans (HBC.out.mono HBW.out.size)).trans (HB1.out.mono (Nat.le_trans HBW.out.size HBC.out.size))).setCell (by simp; omega) _).setCell (by simp; omega) _⟩
end Go.Proofs.YtjighmmfaedgbaaDoor.RatW
