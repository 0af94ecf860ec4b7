/-
  The tables of operators in memory; what looking them up returns.
-/
import Derived.Test.YtlnomiiphlbamaaGreatDoorEtMath
import Derived.Test.YtlnomiiphlbamaaGreatDoorEtBase
import Derived.Lib.Tables
namespace Go.Proofs.YtlnomiiphlbamaaGreatDoor.EtW
open Go Go.RowKit Go.Proofs.YtlnomiiphlbamaaGreatDoor.NumM Go.Proofs.YtlnomiiphlbamaaGreatDoor.LexW Go.Proofs.YtlnomiiphlbamaaGreatDoor.LexM Go.Proofs.YtlnomiiphlbamaaGreatDoor.ExM Go.Proofs.YtlnomiiphlbamaaGreatDoor.ExW Go.Proofs.YtlnomiiphlbamaaGreatDoor.EtM

abbrev Row := List UInt8 × Int × Int × Bool
def binRow : List Row := [([61, 62], 2, 21, false), ([124, 124], 3, 20, false), ([38, 38], 4, 19, false), ([124], 5, 11, false), ([94], 6, 12, false), ([38], 7, 10, false), ([61, 61], 8, 15, false), ([33, 61], 8, 16, false), ([60], 9, 17, false), ([60, 61], 9, 18, false), ([62], 9, 17, true), ([62, 61], 9, 18, true), ([60, 60], 10, 13, false), ([62, 62], 10, 14, false), ([43], 11, 7, false), ([45], 11, 8, false), ([42], 12, 9, false)]
def preRow : List (List UInt8 × Int) := [([33], 4), ([126], 5), ([45], 6)]
def BinAt (w : World) : Prop := ∃ b off c, w.cell? ⟨0, 0, none⟩ = some (.slice (some ⟨b, off, none⟩) 17 c) ∧ 17 ≤ c ∧ b < w.heap.size ∧
  ∀ i x, binRow[i]? = some x → w.cell? ⟨b, off + i * 4, none⟩ = some (.string (bs x.1)) ∧ w.cell? ⟨b, off + i * 4 + 1, none⟩ = some (.int .i64 x.2.1) ∧ w.cell? ⟨b, off + i * 4 + 2, none⟩ = some (.int .i64 x.2.2.1) ∧ w.cell? ⟨b, off + i * 4 + 3, none⟩ = some (.bool x.2.2.2)
def PreAt (w : World) : Prop := ∃ b off c, w.cell? ⟨1, 0, none⟩ = some (.slice (some ⟨b, off, none⟩) 3 c) ∧ 3 ≤ c ∧ b < w.heap.size ∧
  ∀ i x, preRow[i]? = some x → w.cell? ⟨b, off + i * 2, none⟩ = some (.string (bs x.1)) ∧ w.cell? ⟨b, off + i * 2 + 1, none⟩ = some (.int .i64 x.2)
/-- What the listed variables give the walks. -/
structure TabE (w : World) : Prop where
  base : Tab w
  pow : Lib.TabIs Tryz.prog w "internal/strconv.uint64pow10" .u64 Lib.pow10Tab
  bin : BinAt w
  pre : PreAt w
theorem BinAt.later {w w' : World} (h : BinAt w) (hb : Below w.heap.size w w') : BinAt w' := by
  obtain ⟨b, off, c, h1, h2, h3, h4⟩ := h
  refine ⟨b, off, c, (hb.cell (p := ⟨0, 0, none⟩) (cell_lt h1)).trans h1, h2, Nat.lt_of_lt_of_le h3 hb.size, fun i x hx => ?_⟩
  rw [hb.cell h3, hb.cell h3, hb.cell h3, hb.cell h3]
  exact h4 i x hx
theorem PreAt.later {w w' : World} (h : PreAt w) (hb : Below w.heap.size w w') : PreAt w' := by
  obtain ⟨b, off, c, h1, h2, h3, h4⟩ := h
  refine ⟨b, off, c, (hb.cell (p := ⟨1, 0, none⟩) (cell_lt h1)).trans h1, h2, Nat.lt_of_lt_of_le h3 hb.size, fun i x hx => ?_⟩
  rw [hb.cell h3, hb.cell h3]
  exact h4 i x hx
def tBin (r : Row) (f : Bool) (w : World) (e : Ending) (w' : World) : Prop :=
  e = .returned (.tuple #[.agg #[.string (bs r.1), .int .i64 r.2.1, .int .i64 r.2.2.1, .bool r.2.2.2], .bool f]) ∧ Below w.heap.size w w'
def tPre (r : List UInt8 × Int) (f : Bool) (w : World) (e : Ending) (w' : World) : Prop :=
  e = .returned (.tuple #[.agg #[.string (bs r.1), .int .i64 r.2], .bool f]) ∧ Below w.heap.size w w'
def zRow : Row := ([], 0, 0, false)
/-- The first row of which something holds. -/
def fstR (p : Row → Bool) : Row × Bool := match binRow.find? p with | some r => (r, true) | none => (zRow, false)
def fstP (p : List UInt8 × Int → Bool) : (List UInt8 × Int) × Bool := match preRow.find? p with | some r => (r, true) | none => (([], 0), false)
/-- Two cells. -/
structure Duo (w : World) (g : Nat) (x0 x1 : Value) : Prop where
  lt : g < w.heap.size
  c0 : w.cell? ⟨g, 0, none⟩ = some x0
  c1 : w.cell? ⟨g, 1, none⟩ = some x1
  f0 : w.frozen? ⟨g, 0, none⟩ = false
  f1 : w.frozen? ⟨g, 1, none⟩ = false
theorem Duo.new (w : World) (x0 x1 : Value) (t : TypeId) : Duo (w.alloc (.cells #[x0, x1] t)) w.heap.size x0 x1 :=
  ⟨by simp, (alloc_cells w #[x0, x1] t 0 x0 rfl).1, (alloc_cells w #[x0, x1] t 1 x1 rfl).1, (alloc_cells w #[x0, x1] t 0 x0 rfl).2, (alloc_cells w #[x0, x1] t 1 x1 rfl).2⟩
theorem Duo.stay {W0 w : World} {g : Nat} {x0 x1 : Value} (h : Duo W0 g x0 x1) (hb : Below W0.heap.size W0 w) : Duo w g x0 x1 :=
  ⟨Nat.lt_of_lt_of_le h.lt hb.size, (hb.cell (p := ⟨g, 0, none⟩) h.lt).trans h.c0, (hb.cell (p := ⟨g, 1, none⟩) h.lt).trans h.c1, (hb.frozen (p := ⟨g, 0, none⟩) h.lt).trans h.f0, (hb.frozen (p := ⟨g, 1, none⟩) h.lt).trans h.f1⟩
theorem Duo.alloc {w : World} {g : Nat} {x0 x1 : Value} (h : Duo w g x0 x1) (o : Obj) : Duo (w.alloc o) g x0 x1 := h.stay ((Below.refl _ _).alloc (Nat.le_refl _) _)
theorem Duo.put {w : World} {g : Nat} {x0 x1 : Value} (h : Duo w g x0 x1) (y0 y1 : Value) : Duo ((w.setCell ⟨g, 0, none⟩ y0).setCell ⟨g, 1, none⟩ y1) g y0 y1 :=
  ⟨by simp only [setCell_size]; exact h.lt, by rw [other _ _ (by decide)]; exact cell_set h.c0, cell_set (by rw [other _ _ (by decide)]; exact h.c1), by simp only [World.frozen?_setCell]; exact h.f0, by simp only [World.frozen?_setCell]; exact h.f1⟩
theorem Duo.grown {W W' : World} {g : Nat} {x0 x1 : Value} {row : Option Nat} (h : Duo W g x0 x1) (hg : W.grownBy W' row) (hr : some g ≠ row) : Duo W' g x0 x1 := by
  have hb := hg.block g h.lt hr
  exact ⟨Nat.lt_of_lt_of_le h.lt hg.size, (World.cell?_of_block (w := W) hb).trans h.c0, (World.cell?_of_block (w := W) hb).trans h.c1, (World.frozen?_of_block (w := W) hb).trans h.f0, (World.frozen?_of_block (w := W) hb).trans h.f1⟩
theorem below_duo {W0 w : World} {g : Nat} (h : Below W0.heap.size W0 w) (hg : W0.heap.size ≤ g) (y0 y1 : Value) : Below W0.heap.size W0 ((w.setCell ⟨g, 0, none⟩ y0).setCell ⟨g, 1, none⟩ y1) := (h.setCell hg _).setCell hg _
theorem find_drop {α : Type} {p : α → Bool} {l : List α} {k : Nat} {x : α} (hx : l[k]? = some x) (h : l.find? p = (l.drop k).find? p) : (p x = true → l.find? p = some x) ∧ (p x = false → l.find? p = (l.drop (k + 1)).find? p) := by
  obtain ⟨hk, e⟩ := List.getElem?_eq_some_iff.1 hx
  rw [List.drop_eq_getElem_cons hk, List.find?_cons, e] at h
  exact ⟨fun g => by rw [g] at h; exact h, fun g => by rw [g] at h; exact h⟩
set_option maxRecDepth 100000 in
set_option maxHeartbeats 4000000 in
theorem binMarked_any (x : ByteArray) (w : World) (ht : BinAt w) :
    Calls Tryz.prog 88 #[.string x] w (tBin (fstR (fun r => decide (r.1 = x.data.toList))).1 (fstR (fun r => decide (r.1 = x.data.toList))).2 w) := by
  obtain ⟨b, off, c, hg, hc, hb, hrow⟩ := ht
  have HR := Lib.hid hrow
  clear hrow
  obtain ⟨p, hp⟩ : ∃ p : Row → Bool, (fun r => decide (r.1 = x.data.toList)) = p := ⟨_, rfl⟩
  have HP := Lib.hid hp
  rw [hp]
  clear hp
  have F0 := Lib.hid (Four.new w (.string ⟨#[]⟩) (.int .i64 0) (.int .i64 0) (.bool false) 90)
  have HB0 : Hid (Below w.heap.size w (w.alloc (.cells #[.string ⟨#[]⟩, .int .i64 0, .int .i64 0, .bool false] 90))) := Lib.hid ((Below.refl _ _).alloc (Nat.le_refl _) _)
  have hg1 : (w.alloc (.cells #[.string ⟨#[]⟩, .int .i64 0, .int .i64 0, .bool false] 90)).cell? ⟨0, 0, none⟩ = some (.slice (some ⟨b, off, none⟩) 17 c) := (HB0.out.cell (p := ⟨0, 0, none⟩) (cell_lt hg)).trans hg
  clear hg
  go_enter Tryz.func88, Tryz.ntmps88
  go_wp2
  clear hg1
  go_loopw [8] (fun i wr => ∃ k : Nat, k ≤ 17 ∧ i = .int .i64 k ∧ Hid (binRow.find? p = (binRow.drop k).find? p) ∧ Hid (Below w.heap.size w wr) ∧ Hid (Four wr w.heap.size (.string ⟨#[]⟩) (.int .i64 0) (.int .i64 0) (.bool false))) (fun i _ => 17 - (intOf i).toNat)
  case atStart => exact ⟨0, Nat.zero_le _, rfl, Lib.hid rfl, HB0, F0⟩
  case round =>
    obtain ⟨k, hk, rfl, FD, BW, FF⟩ := hrel
    by_cases hlt : k < 17
    · obtain ⟨y, hy⟩ : ∃ y, binRow[k]? = some y := ⟨_, List.getElem?_eq_getElem (by exact hlt)⟩
      obtain ⟨q0, q1, q2, q3⟩ := HR.out k y hy
      have ca0 : wr.cell? ⟨b, off + k * 4, none⟩ = some (.string (bs y.1)) := (BW.out.cell (p := ⟨b, off + k * 4, none⟩) hb).trans q0
      have ca1 : wr.cell? ⟨b, off + k * 4 + 1, none⟩ = some (.int .i64 y.2.1) := (BW.out.cell (p := ⟨b, off + k * 4 + 1, none⟩) hb).trans q1
      have ca2 : wr.cell? ⟨b, off + k * 4 + 2, none⟩ = some (.int .i64 y.2.2.1) := (BW.out.cell (p := ⟨b, off + k * 4 + 2, none⟩) hb).trans q2
      have ca3 : wr.cell? ⟨b, off + k * 4 + 3, none⟩ = some (.bool y.2.2.2) := (BW.out.cell (p := ⟨b, off + k * 4 + 3, none⟩) hb).trans q3
      obtain ⟨f1, f2⟩ := find_drop hy FD.out
      have G1 := Lib.hid f1
      have G2 := Lib.hid f2
      have hpy : p y = (decide (y.1 = x.data.toList)) := by rw [← HP.out]
      have HPY := Lib.hid hpy
      clear q0 q1 q2 q3 f1 f2 hy hpy FD
      obtain ⟨y0, hy0⟩ : ∃ y0 : ByteArray, bs y.1 = y0 := ⟨_, rfl⟩
      obtain ⟨y1, hy1⟩ : ∃ y1, y.2.1 = y1 := ⟨_, rfl⟩
      obtain ⟨y2, hy2⟩ : ∃ y2, y.2.2.1 = y2 := ⟨_, rfl⟩
      obtain ⟨y3, hy3⟩ : ∃ y3, y.2.2.2 = y3 := ⟨_, rfl⟩
      have HY : Hid (y = (y0.data.toList, y1, y2, y3)) := Lib.hid (by rw [← hy0, ← hy1, ← hy2, ← hy3])
      rw [hy0] at ca0
      rw [hy1] at ca1
      rw [hy2] at ca2
      rw [hy3] at ca3
      clear hy0 hy1 hy2 hy3
      have fA := FF.out.alloc (.cells #[.string y0, .int .i64 y1, .int .i64 y2, .bool y3] 90)
      have fB := Four.new wr (.string y0) (.int .i64 y1) (.int .i64 y2) (.bool y3) 90
      have HB1 : Hid (Below w.heap.size w (wr.alloc (.cells #[.string y0, .int .i64 y1, .int .i64 y2, .bool y3] 90))) := Lib.hid (BW.out.alloc (BW.out.size) _)
      have HFA := Lib.hid fA
      have e0 := fB.c0
      have e1 := fB.c1
      have e2 := fB.c2
      have e3 := fB.c3
      have d0 := fA.c0
      have d1 := fA.c1
      have d2 := fA.c2
      have d3 := fA.c3
      have z0 := fA.f0
      have z1 := fA.f1
      have z2 := fA.f2
      have z3 := fA.f3
      clear fA fB
      by_cases e : y0.data.toList = x.data.toList
      · have t1 : (y0.toList == x.toList) = true := by rw [Lib.toList_data, Lib.toList_data, e]; simp
        have EE : Hid (fstR p = ((y0.data.toList, y1, y2, y3), true)) := Lib.hid (by
          unfold fstR
          rw [G1.out (by rw [HPY.out, HY.out]; exact decide_eq_true e), HY.out])
        have hP := HFA.out.put (.string y0) (.int .i64 y1) (.int .i64 y2) (.bool y3)
        have r0 := hP.c0
        have r1 := hP.c1
        have r2 := hP.c2
        have r3 := hP.c3
        have HBP := Lib.hid (below_put HB1.out (Nat.le_refl _) (.string y0) (.int .i64 y1) (.int .i64 y2) (.bool y3))
        clear e hP
        go_wp2
        refine bodyPost_ret (v := .tuple #[.agg #[.string y0, .int .i64 y1, .int .i64 y2, .bool y3], .bool true]) (by simp [results, Tryz.results88, go_sem, r0, r1, r2, r3]) rfl ?_
        rw [EE.out]
        exact ⟨rfl, HBP.out⟩
      · have t1 : (y0.toList == x.toList) = false := by rw [Lib.toList_data, Lib.toList_data]; simpa using e
        have FD2 : Hid (binRow.find? p = (binRow.drop (k + 1)).find? p) := Lib.hid (G2.out (by rw [HPY.out, HY.out]; exact decide_eq_false e))
        clear e
        go_wp2
        go_roundw
        case rel => exact ⟨k + 1, by omega, by go_num, FD2, HB1, HFA⟩
        case measure => simp [intOf]; omega
    · have EE : Hid (fstR p = (zRow, false)) := Lib.hid (by
        unfold fstR
        rw [FD.out, List.drop_of_length_le (by show 17 ≤ k; omega)]; rfl)
      have fA := FF.out
      have d0 := fA.c0
      have d1 := fA.c1
      have d2 := fA.c2
      have d3 := fA.c3
      have z0 := fA.f0
      have z1 := fA.f1
      have z2 := fA.f2
      have z3 := fA.f3
      have hP := fA.put (.string ⟨#[]⟩) (.int .i64 0) (.int .i64 0) (.bool false)
      have r0 := hP.c0
      have r1 := hP.c1
      have r2 := hP.c2
      have r3 := hP.c3
      have HBP := Lib.hid (below_put BW.out (Nat.le_refl _) (.string ⟨#[]⟩) (.int .i64 0) (.int .i64 0) (.bool false))
      clear fA hP
      go_wp2
      refine bodyPost_ret (v := .tuple #[.agg #[.string ⟨#[]⟩, .int .i64 0, .int .i64 0, .bool false], .bool false]) (by simp [results, Tryz.results88, go_sem, r0, r1, r2, r3]) rfl ?_
      rw [EE.out]
      exact ⟨rfl, HBP.out⟩
set_option maxRecDepth 100000 in
set_option maxHeartbeats 4000000 in
theorem preMarked_any (x : ByteArray) (w : World) (ht : PreAt w) :
    Calls Tryz.prog 114 #[.string x] w (tPre (fstP (fun r => decide (r.1 = x.data.toList))).1 (fstP (fun r => decide (r.1 = x.data.toList))).2 w) := by
  obtain ⟨b, off, c, hg, hc, hb, hrow⟩ := ht
  have HR := Lib.hid hrow
  clear hrow
  obtain ⟨p, hp⟩ : ∃ p : List UInt8 × Int → Bool, (fun r => decide (r.1 = x.data.toList)) = p := ⟨_, rfl⟩
  have HP := Lib.hid hp
  rw [hp]
  clear hp
  have F0 := Lib.hid (Duo.new w (.string ⟨#[]⟩) (.int .i64 0) 94)
  have HB0 : Hid (Below w.heap.size w (w.alloc (.cells #[.string ⟨#[]⟩, .int .i64 0] 94))) := Lib.hid ((Below.refl _ _).alloc (Nat.le_refl _) _)
  have hg1 : (w.alloc (.cells #[.string ⟨#[]⟩, .int .i64 0] 94)).cell? ⟨1, 0, none⟩ = some (.slice (some ⟨b, off, none⟩) 3 c) := (HB0.out.cell (p := ⟨1, 0, none⟩) (cell_lt hg)).trans hg
  clear hg
  go_enter Tryz.func114, Tryz.ntmps114
  go_wp2
  clear hg1
  go_loopw [8] (fun i wr => ∃ k : Nat, k ≤ 3 ∧ i = .int .i64 k ∧ Hid (preRow.find? p = (preRow.drop k).find? p) ∧ Hid (Below w.heap.size w wr) ∧ Hid (Duo wr w.heap.size (.string ⟨#[]⟩) (.int .i64 0))) (fun i _ => 3 - (intOf i).toNat)
  case atStart => exact ⟨0, Nat.zero_le _, rfl, Lib.hid rfl, HB0, F0⟩
  case round =>
    obtain ⟨k, hk, rfl, FD, BW, FF⟩ := hrel
    by_cases hlt : k < 3
    · obtain ⟨y, hy⟩ : ∃ y, preRow[k]? = some y := ⟨_, List.getElem?_eq_getElem (by exact hlt)⟩
      obtain ⟨q0, q1⟩ := HR.out k y hy
      have ca0 : wr.cell? ⟨b, off + k * 2, none⟩ = some (.string (bs y.1)) := (BW.out.cell (p := ⟨b, off + k * 2, none⟩) hb).trans q0
      have ca1 : wr.cell? ⟨b, off + k * 2 + 1, none⟩ = some (.int .i64 y.2) := (BW.out.cell (p := ⟨b, off + k * 2 + 1, none⟩) hb).trans q1
      obtain ⟨f1, f2⟩ := find_drop hy FD.out
      have G1 := Lib.hid f1
      have G2 := Lib.hid f2
      have hpy : p y = (decide (y.1 = x.data.toList)) := by rw [← HP.out]
      have HPY := Lib.hid hpy
      clear q0 q1 f1 f2 hy hpy FD
      obtain ⟨y0, hy0⟩ : ∃ y0 : ByteArray, bs y.1 = y0 := ⟨_, rfl⟩
      obtain ⟨y1, hy1⟩ : ∃ y1, y.2 = y1 := ⟨_, rfl⟩
      have HY : Hid (y = (y0.data.toList, y1)) := Lib.hid (by rw [← hy0, ← hy1])
      rw [hy0] at ca0
      rw [hy1] at ca1
      clear hy0 hy1
      have fA := FF.out.alloc (.cells #[.string y0, .int .i64 y1] 94)
      have fB := Duo.new wr (.string y0) (.int .i64 y1) 94
      have HB1 : Hid (Below w.heap.size w (wr.alloc (.cells #[.string y0, .int .i64 y1] 94))) := Lib.hid (BW.out.alloc (BW.out.size) _)
      have HFA := Lib.hid fA
      have e0 := fB.c0
      have e1 := fB.c1
      have d0 := fA.c0
      have d1 := fA.c1
      have z0 := fA.f0
      have z1 := fA.f1
      clear fA fB
      by_cases e : y0.data.toList = x.data.toList
      · have t1 : (y0.toList == x.toList) = true := by rw [Lib.toList_data, Lib.toList_data, e]; simp
        have EE : Hid (fstP p = ((y0.data.toList, y1), true)) := Lib.hid (by
          unfold fstP
          rw [G1.out (by rw [HPY.out, HY.out]; exact decide_eq_true e), HY.out])
        have hP := HFA.out.put (.string y0) (.int .i64 y1)
        have r0 := hP.c0
        have r1 := hP.c1
        have HBP := Lib.hid (below_duo HB1.out (Nat.le_refl _) (.string y0) (.int .i64 y1))
        clear e hP
        go_wp2
        refine bodyPost_ret (v := .tuple #[.agg #[.string y0, .int .i64 y1], .bool true]) (by simp [results, Tryz.results114, go_sem, r0, r1]) rfl ?_
        rw [EE.out]
        exact ⟨rfl, HBP.out⟩
      · have t1 : (y0.toList == x.toList) = false := by rw [Lib.toList_data, Lib.toList_data]; simpa using e
        have FD2 : Hid (preRow.find? p = (preRow.drop (k + 1)).find? p) := Lib.hid (G2.out (by rw [HPY.out, HY.out]; exact decide_eq_false e))
        clear e
        go_wp2
        go_roundw
        case rel => exact ⟨k + 1, by omega, by go_num, FD2, HB1, HFA⟩
        case measure => simp [intOf]; omega
    · have EE : Hid (fstP p = (([], 0), false)) := Lib.hid (by
        unfold fstP
        rw [FD.out, List.drop_of_length_le (by show 3 ≤ k; omega)]; rfl)
      have fA := FF.out
      have d0 := fA.c0
      have d1 := fA.c1
      have z0 := fA.f0
      have z1 := fA.f1
      have hP := fA.put (.string ⟨#[]⟩) (.int .i64 0)
      have r0 := hP.c0
      have r1 := hP.c1
      have HBP := Lib.hid (below_duo BW.out (Nat.le_refl _) (.string ⟨#[]⟩) (.int .i64 0))
      clear fA hP
      go_wp2
      refine bodyPost_ret (v := .tuple #[.agg #[.string ⟨#[]⟩, .int .i64 0], .bool false]) (by simp [results, Tryz.results114, go_sem, r0, r1]) rfl ?_
      rw [EE.out]
      exact ⟨rfl, HBP.out⟩
set_option maxRecDepth 100000 in
set_option maxHeartbeats 4000000 in
theorem binFor_any (x : Int) (w : World) (ht : BinAt w) :
    Calls Tryz.prog 69 #[.int .i64 x] w (tBin (fstR (fun r => decide (r.2.2.1 = x) && !r.2.2.2)).1 (fstR (fun r => decide (r.2.2.1 = x) && !r.2.2.2)).2 w) := by
  obtain ⟨b, off, c, hg, hc, hb, hrow⟩ := ht
  have HR := Lib.hid hrow
  clear hrow
  obtain ⟨p, hp⟩ : ∃ p : Row → Bool, (fun r => decide (r.2.2.1 = x) && !r.2.2.2) = p := ⟨_, rfl⟩
  have HP := Lib.hid hp
  rw [hp]
  clear hp
  have F0 := Lib.hid (Four.new w (.string ⟨#[]⟩) (.int .i64 0) (.int .i64 0) (.bool false) 90)
  have HB0 : Hid (Below w.heap.size w (w.alloc (.cells #[.string ⟨#[]⟩, .int .i64 0, .int .i64 0, .bool false] 90))) := Lib.hid ((Below.refl _ _).alloc (Nat.le_refl _) _)
  have hg1 : (w.alloc (.cells #[.string ⟨#[]⟩, .int .i64 0, .int .i64 0, .bool false] 90)).cell? ⟨0, 0, none⟩ = some (.slice (some ⟨b, off, none⟩) 17 c) := (HB0.out.cell (p := ⟨0, 0, none⟩) (cell_lt hg)).trans hg
  clear hg
  go_enter Tryz.func69, Tryz.ntmps69
  go_wp2
  clear hg1
  go_loopw [8] (fun i wr => ∃ k : Nat, k ≤ 17 ∧ i = .int .i64 k ∧ Hid (binRow.find? p = (binRow.drop k).find? p) ∧ Hid (Below w.heap.size w wr) ∧ Hid (Four wr w.heap.size (.string ⟨#[]⟩) (.int .i64 0) (.int .i64 0) (.bool false))) (fun i _ => 17 - (intOf i).toNat)
  case atStart => exact ⟨0, Nat.zero_le _, rfl, Lib.hid rfl, HB0, F0⟩
  case round =>
    obtain ⟨k, hk, rfl, FD, BW, FF⟩ := hrel
    by_cases hlt : k < 17
    · obtain ⟨y, hy⟩ : ∃ y, binRow[k]? = some y := ⟨_, List.getElem?_eq_getElem (by exact hlt)⟩
      obtain ⟨q0, q1, q2, q3⟩ := HR.out k y hy
      have ca0 : wr.cell? ⟨b, off + k * 4, none⟩ = some (.string (bs y.1)) := (BW.out.cell (p := ⟨b, off + k * 4, none⟩) hb).trans q0
      have ca1 : wr.cell? ⟨b, off + k * 4 + 1, none⟩ = some (.int .i64 y.2.1) := (BW.out.cell (p := ⟨b, off + k * 4 + 1, none⟩) hb).trans q1
      have ca2 : wr.cell? ⟨b, off + k * 4 + 2, none⟩ = some (.int .i64 y.2.2.1) := (BW.out.cell (p := ⟨b, off + k * 4 + 2, none⟩) hb).trans q2
      have ca3 : wr.cell? ⟨b, off + k * 4 + 3, none⟩ = some (.bool y.2.2.2) := (BW.out.cell (p := ⟨b, off + k * 4 + 3, none⟩) hb).trans q3
      obtain ⟨f1, f2⟩ := find_drop hy FD.out
      have G1 := Lib.hid f1
      have G2 := Lib.hid f2
      have hpy : p y = (decide (y.2.2.1 = x) && !y.2.2.2) := by rw [← HP.out]
      have HPY := Lib.hid hpy
      clear q0 q1 q2 q3 f1 f2 hy hpy FD
      obtain ⟨y0, hy0⟩ : ∃ y0 : ByteArray, bs y.1 = y0 := ⟨_, rfl⟩
      obtain ⟨y1, hy1⟩ : ∃ y1, y.2.1 = y1 := ⟨_, rfl⟩
      obtain ⟨y2, hy2⟩ : ∃ y2, y.2.2.1 = y2 := ⟨_, rfl⟩
      obtain ⟨y3, hy3⟩ : ∃ y3, y.2.2.2 = y3 := ⟨_, rfl⟩
      have HY : Hid (y = (y0.data.toList, y1, y2, y3)) := Lib.hid (by rw [← hy0, ← hy1, ← hy2, ← hy3])
      rw [hy0] at ca0
      rw [hy1] at ca1
      rw [hy2] at ca2
      rw [hy3] at ca3
      clear hy0 hy1 hy2 hy3
      have fA := FF.out.alloc (.cells #[.string y0, .int .i64 y1, .int .i64 y2, .bool y3] 90)
      have fB := Four.new wr (.string y0) (.int .i64 y1) (.int .i64 y2) (.bool y3) 90
      have HB1 : Hid (Below w.heap.size w (wr.alloc (.cells #[.string y0, .int .i64 y1, .int .i64 y2, .bool y3] 90))) := Lib.hid (BW.out.alloc (BW.out.size) _)
      have HFA := Lib.hid fA
      have e0 := fB.c0
      have e1 := fB.c1
      have e2 := fB.c2
      have e3 := fB.c3
      have d0 := fA.c0
      have d1 := fA.c1
      have d2 := fA.c2
      have d3 := fA.c3
      have z0 := fA.f0
      have z1 := fA.f1
      have z2 := fA.f2
      have z3 := fA.f3
      clear fA fB
      by_cases e : y2 = x
      · have t1 : (y2 == x) = true := by rw [e]; simp
        cases y3
        · have EE : Hid (fstR p = ((y0.data.toList, y1, y2, false), true)) := Lib.hid (by
            unfold fstR
            rw [G1.out (by rw [HPY.out, HY.out]; exact by rw [decide_eq_true e]; rfl), HY.out])
          have hP := HFA.out.put (.string y0) (.int .i64 y1) (.int .i64 y2) (.bool false)
          have r0 := hP.c0
          have r1 := hP.c1
          have r2 := hP.c2
          have r3 := hP.c3
          have HBP := Lib.hid (below_put HB1.out (Nat.le_refl _) (.string y0) (.int .i64 y1) (.int .i64 y2) (.bool false))
          clear e hP
          go_wp2
          refine bodyPost_ret (v := .tuple #[.agg #[.string y0, .int .i64 y1, .int .i64 y2, .bool false], .bool true]) (by simp [results, Tryz.results69, go_sem, r0, r1, r2, r3]) rfl ?_
          rw [EE.out]
          exact ⟨rfl, HBP.out⟩
        · have FD2 : Hid (binRow.find? p = (binRow.drop (k + 1)).find? p) := Lib.hid (G2.out (by rw [HPY.out, HY.out]; exact by rw [decide_eq_true e]; rfl))
          clear e
          go_wp2
          go_roundw
          case rel => exact ⟨k + 1, by omega, by go_num, FD2, HB1, HFA⟩
          case measure => simp [intOf]; omega
      · have t1 : (y2 == x) = false := by rw [beq_eq_false_iff_ne]; exact e
        have FD2 : Hid (binRow.find? p = (binRow.drop (k + 1)).find? p) := Lib.hid (G2.out (by rw [HPY.out, HY.out]; exact by rw [decide_eq_false e]; rfl))
        clear e
        go_wp2
        go_roundw
        case rel => exact ⟨k + 1, by omega, by go_num, FD2, HB1, HFA⟩
        case measure => simp [intOf]; omega
    · have EE : Hid (fstR p = (zRow, false)) := Lib.hid (by
        unfold fstR
        rw [FD.out, List.drop_of_length_le (by show 17 ≤ k; omega)]; rfl)
      have fA := FF.out
      have d0 := fA.c0
      have d1 := fA.c1
      have d2 := fA.c2
      have d3 := fA.c3
      have z0 := fA.f0
      have z1 := fA.f1
      have z2 := fA.f2
      have z3 := fA.f3
      have hP := fA.put (.string ⟨#[]⟩) (.int .i64 0) (.int .i64 0) (.bool false)
      have r0 := hP.c0
      have r1 := hP.c1
      have r2 := hP.c2
      have r3 := hP.c3
      have HBP := Lib.hid (below_put BW.out (Nat.le_refl _) (.string ⟨#[]⟩) (.int .i64 0) (.int .i64 0) (.bool false))
      clear fA hP
      go_wp2
      refine bodyPost_ret (v := .tuple #[.agg #[.string ⟨#[]⟩, .int .i64 0, .int .i64 0, .bool false], .bool false]) (by simp [results, Tryz.results69, go_sem, r0, r1, r2, r3]) rfl ?_
      rw [EE.out]
      exact ⟨rfl, HBP.out⟩
set_option maxRecDepth 100000 in
set_option maxHeartbeats 4000000 in
theorem preFor_any (x : Int) (w : World) (ht : PreAt w) :
    Calls Tryz.prog 70 #[.int .i64 x] w (tPre (fstP (fun r => decide (r.2 = x))).1 (fstP (fun r => decide (r.2 = x))).2 w) := by
  obtain ⟨b, off, c, hg, hc, hb, hrow⟩ := ht
  have HR := Lib.hid hrow
  clear hrow
  obtain ⟨p, hp⟩ : ∃ p : List UInt8 × Int → Bool, (fun r => decide (r.2 = x)) = p := ⟨_, rfl⟩
  have HP := Lib.hid hp
  rw [hp]
  clear hp
  have F0 := Lib.hid (Duo.new w (.string ⟨#[]⟩) (.int .i64 0) 94)
  have HB0 : Hid (Below w.heap.size w (w.alloc (.cells #[.string ⟨#[]⟩, .int .i64 0] 94))) := Lib.hid ((Below.refl _ _).alloc (Nat.le_refl _) _)
  have hg1 : (w.alloc (.cells #[.string ⟨#[]⟩, .int .i64 0] 94)).cell? ⟨1, 0, none⟩ = some (.slice (some ⟨b, off, none⟩) 3 c) := (HB0.out.cell (p := ⟨1, 0, none⟩) (cell_lt hg)).trans hg
  clear hg
  go_enter Tryz.func70, Tryz.ntmps70
  go_wp2
  clear hg1
  go_loopw [8] (fun i wr => ∃ k : Nat, k ≤ 3 ∧ i = .int .i64 k ∧ Hid (preRow.find? p = (preRow.drop k).find? p) ∧ Hid (Below w.heap.size w wr) ∧ Hid (Duo wr w.heap.size (.string ⟨#[]⟩) (.int .i64 0))) (fun i _ => 3 - (intOf i).toNat)
  case atStart => exact ⟨0, Nat.zero_le _, rfl, Lib.hid rfl, HB0, F0⟩
  case round =>
    obtain ⟨k, hk, rfl, FD, BW, FF⟩ := hrel
    by_cases hlt : k < 3
    · obtain ⟨y, hy⟩ : ∃ y, preRow[k]? = some y := ⟨_, List.getElem?_eq_getElem (by exact hlt)⟩
      obtain ⟨q0, q1⟩ := HR.out k y hy
      have ca0 : wr.cell? ⟨b, off + k * 2, none⟩ = some (.string (bs y.1)) := (BW.out.cell (p := ⟨b, off + k * 2, none⟩) hb).trans q0
      have ca1 : wr.cell? ⟨b, off + k * 2 + 1, none⟩ = some (.int .i64 y.2) := (BW.out.cell (p := ⟨b, off + k * 2 + 1, none⟩) hb).trans q1
      obtain ⟨f1, f2⟩ := find_drop hy FD.out
      have G1 := Lib.hid f1
      have G2 := Lib.hid f2
      have hpy : p y = (decide (y.2 = x)) := by rw [← HP.out]
      have HPY := Lib.hid hpy
      clear q0 q1 f1 f2 hy hpy FD
      obtain ⟨y0, hy0⟩ : ∃ y0 : ByteArray, bs y.1 = y0 := ⟨_, rfl⟩
      obtain ⟨y1, hy1⟩ : ∃ y1, y.2 = y1 := ⟨_, rfl⟩
      have HY : Hid (y = (y0.data.toList, y1)) := Lib.hid (by rw [← hy0, ← hy1])
      rw [hy0] at ca0
      rw [hy1] at ca1
      clear hy0 hy1
      have fA := FF.out.alloc (.cells #[.string y0, .int .i64 y1] 94)
      have fB := Duo.new wr (.string y0) (.int .i64 y1) 94
      have HB1 : Hid (Below w.heap.size w (wr.alloc (.cells #[.string y0, .int .i64 y1] 94))) := Lib.hid (BW.out.alloc (BW.out.size) _)
      have HFA := Lib.hid fA
      have e0 := fB.c0
      have e1 := fB.c1
      have d0 := fA.c0
      have d1 := fA.c1
      have z0 := fA.f0
      have z1 := fA.f1
      clear fA fB
      by_cases e : y1 = x
      · have t1 : (y1 == x) = true := by rw [e]; simp
        have EE : Hid (fstP p = ((y0.data.toList, y1), true)) := Lib.hid (by
          unfold fstP
          rw [G1.out (by rw [HPY.out, HY.out]; exact decide_eq_true e), HY.out])
        have hP := HFA.out.put (.string y0) (.int .i64 y1)
        have r0 := hP.c0
        have r1 := hP.c1
        have HBP := Lib.hid (below_duo HB1.out (Nat.le_refl _) (.string y0) (.int .i64 y1))
        clear e hP
        go_wp2
        refine bodyPost_ret (v := .tuple #[.agg #[.string y0, .int .i64 y1], .bool true]) (by simp [results, Tryz.results70, go_sem, r0, r1]) rfl ?_
        rw [EE.out]
        exact ⟨rfl, HBP.out⟩
      · have t1 : (y1 == x) = false := by rw [beq_eq_false_iff_ne]; exact e
        have FD2 : Hid (preRow.find? p = (preRow.drop (k + 1)).find? p) := Lib.hid (G2.out (by rw [HPY.out, HY.out]; exact decide_eq_false e))
        clear e
        go_wp2
        go_roundw
        case rel => exact ⟨k + 1, by omega, by go_num, FD2, HB1, HFA⟩
        case measure => simp [intOf]; omega
    · have EE : Hid (fstP p = (([], 0), false)) := Lib.hid (by
        unfold fstP
        rw [FD.out, List.drop_of_length_le (by show 3 ≤ k; omega)]; rfl)
      have fA := FF.out
      have d0 := fA.c0
      have d1 := fA.c1
      have z0 := fA.f0
      have z1 := fA.f1
      have hP := fA.put (.string ⟨#[]⟩) (.int .i64 0)
      have r0 := hP.c0
      have r1 := hP.c1
      have HBP := Lib.hid (below_duo BW.out (Nat.le_refl _) (.string ⟨#[]⟩) (.int .i64 0))
      clear fA hP
      go_wp2
      refine bodyPost_ret (v := .tuple #[.agg #[.string ⟨#[]⟩, .int .i64 0], .bool false]) (by simp [results, Tryz.results70, go_sem, r0, r1]) rfl ?_
      rw [EE.out]
      exact ⟨rfl, HBP.out⟩
end Go.Proofs.YtlnomiiphlbamaaGreatDoor.EtW
