/-
  Blocks of two cells: a stream in memory; a world in which one block has turned.
-/
import Derived.Test.YtahjgepjhihhjaaRngHash
import Derived.Test.YtahjgepjhihhjaaRngMath
import Derived.OneCell
import Derived.Deep.RegionHeld3
import Derived.Deep.RegionWith
import Derived.Deep.DeepCutAuto
import Derived.Lib.QuietBelow
namespace Go.Proofs.Ytahjgepjhihhjaa.RngW
open Go Go.RowKit Go.Proofs.Ytahjgepjhihhjaa.HashM Go.Proofs.Ytahjgepjhihhjaa.HashW Go.Proofs.Ytahjgepjhihhjaa.RngM

/-- A stream as a value. -/
abbrev rv (k c : UInt64) : Value := .agg #[.int .u64 (V k), .int .u64 (V c)]
theorem _root_.Go.RowKit.Below.then_ {a b c : World} (h1 : Below a.heap.size a b) (h2 : Below b.heap.size b c) : Below a.heap.size a c := h1.trans (h2.mono h1.size)
/-- Blocks of two cells that are known. -/
structure Two (w : World) (g : Nat) (x y : Value) : Prop where
  lt : g < w.heap.size
  c0 : w.cell? ⟨g, 0, none⟩ = some x
  c1 : w.cell? ⟨g, 1, none⟩ = some y
  f0 : w.frozen? ⟨g, 0, none⟩ = false
  f1 : w.frozen? ⟨g, 1, none⟩ = false
theorem alloc_cells (w : World) (xs : Array Value) (t : TypeId) (i : Nat) (v : Value) (h : xs[i]? = some v) : (w.alloc (.cells xs t)).cell? ⟨w.heap.size, i, none⟩ = some v ∧ (w.alloc (.cells xs t)).frozen? ⟨w.heap.size, i, none⟩ = false := by
  have hb : (w.alloc (.cells xs t)).heap[w.heap.size]? = some (.cells xs t) := heap_alloc_new _ _
  constructor
  · simp only [World.cell?, hb]; simpa using h
  · simp only [World.frozen?, hb]; simp
theorem Two.new (w : World) (x y : Value) (t : TypeId) : Two (w.alloc (.cells #[x, y] t)) w.heap.size x y :=
  ⟨by simp, (alloc_cells w #[x, y] t 0 x rfl).1, (alloc_cells w #[x, y] t 1 y rfl).1, (alloc_cells w #[x, y] t 0 x rfl).2, (alloc_cells w #[x, y] t 1 y rfl).2⟩
theorem Two.at_ {w : World} {g : Nat} (hg : w.heap.size = g) (x y : Value) (t : TypeId) : Two (w.alloc (.cells #[x, y] t)) g x y := by subst hg; exact Two.new w x y t
theorem Two.stay {W0 w : World} {g : Nat} {x y : Value} (h : Two W0 g x y) (hb : Below W0.heap.size W0 w) : Two w g x y :=
  ⟨Nat.lt_of_lt_of_le h.lt hb.size, (hb.cell (p := ⟨g, 0, none⟩) h.lt).trans h.c0, (hb.cell (p := ⟨g, 1, none⟩) h.lt).trans h.c1, (hb.frozen (p := ⟨g, 0, none⟩) h.lt).trans h.f0, (hb.frozen (p := ⟨g, 1, none⟩) h.lt).trans h.f1⟩
theorem Two.alloc {w : World} {g : Nat} {x y : Value} (h : Two w g x y) (o : Obj) : Two (w.alloc o) g x y := h.stay ((Below.refl _ _).alloc (Nat.le_refl _) _)
theorem Two.drew {w : World} {g : Nat} {x y : Value} (h : Two w g x y) : Two w.drew g x y := h.stay (Below.refl _ _).drew
theorem cell_set {w : World} {g o : Nat} {x y : Value} (h : w.cell? ⟨g, o, none⟩ = some y) : (w.setCell ⟨g, o, none⟩ x).cell? ⟨g, o, none⟩ = some x := by
  simp [World.cell?_setCell_same, h]
theorem setCell_size (w : World) (a : Addr) (v : Value) : (w.setCell a v).heap.size = w.heap.size := by simp [World.setCell]
/-- Both cells are written. -/
theorem Two.put {w : World} {g : Nat} {x y : Value} (h : Two w g x y) (u v : Value) : Two ((w.setCell ⟨g, 0, none⟩ u).setCell ⟨g, 1, none⟩ v) g u v := by
  obtain ⟨hl, h0, h1, f0, f1⟩ := h
  refine ⟨by rw [setCell_size, setCell_size]; exact hl, ?_, ?_, ?_, ?_⟩
  · rw [World.cell?_setCell_other _ _ _ _ (by simp)]; exact cell_set h0
  · exact cell_set (y := y) (by rw [World.cell?_setCell_other _ _ _ _ (by simp)]; exact h1)
  · rw [World.frozen?_setCell, World.frozen?_setCell]; exact f0
  · rw [World.frozen?_setCell, World.frozen?_setCell]; exact f1
theorem Two.far {w : World} {g b o : Nat} {x y v : Value} (h : Two w g x y) (hn : g ≠ b) : Two (w.setCell ⟨b, o, none⟩ v) g x y :=
  ⟨by rw [setCell_size]; exact h.lt, by rw [World.cell?_setCell_other _ _ _ _ (fun e => hn (congrArg Addr.block e).symm)]; exact h.c0, by rw [World.cell?_setCell_other _ _ _ _ (fun e => hn (congrArg Addr.block e).symm)]; exact h.c1, by rw [World.frozen?_setCell]; exact h.f0, by rw [World.frozen?_setCell]; exact h.f1⟩
theorem Two.cells {w : World} {g : Nat} {x y : Value} (h : Two w g x y) : w.cell? ⟨g, 0, none⟩ = some x ∧ w.cell? ⟨g, 1, none⟩ = some y := ⟨h.c0, h.c1⟩
/-- Block b has turned, and new ones may have been laid. -/
structure Upd (b : Nat) (w w' : World) : Prop where
  os : w'.os = w.os
  tape : w'.tape = w.tape
  output : w'.output = w.output
  size : w.heap.size ≤ w'.heap.size
  block : ∀ j, j < w.heap.size → j ≠ b → w'.heap[j]? = w.heap[j]?
theorem Upd.of {b : Nat} {w w' : World} (h : Below w.heap.size w w') : Upd b w w' := ⟨h.os, h.tape, h.output, h.size, fun j hj _ => h.block j hj⟩
theorem Upd.refl (b : Nat) (w : World) : Upd b w w := Upd.of (Below.refl _ _)
theorem Upd.trans {b : Nat} {w w' w'' : World} (h : Upd b w w') (k : Upd b w' w'') : Upd b w w'' :=
  ⟨k.os.trans h.os, k.tape.trans h.tape, k.output.trans h.output, Nat.le_trans h.size k.size, fun j hj hn => (k.block j (Nat.lt_of_lt_of_le hj h.size) hn).trans (h.block j hj hn)⟩
theorem Upd.set {b : Nat} {w w' : World} (h : Upd b w w') (o : Nat) (v : Value) : Upd b w (w'.setCell ⟨b, o, none⟩ v) :=
  ⟨h.os, h.tape, h.output, by rw [setCell_size]; exact h.size, fun j hj hn => (Below.heap_setCell _ _ _ _ hn).trans (h.block j hj hn)⟩
theorem Upd.drew {b : Nat} {w w' : World} (h : Upd b w w') : Upd b w w'.drew := h.trans (Upd.of (Below.refl _ _).drew)
theorem Upd.below {b B : Nat} {w w' : World} (h : Upd b w w') (hB : B ≤ b) (hs : B ≤ w.heap.size) : Below B w w' :=
  ⟨h.os, h.tape, h.output, h.size, fun j hj => h.block j (by omega) (by omega)⟩
theorem Upd.cell {b g o : Nat} {w w' : World} (h : Upd b w w') (hg : g < w.heap.size) (hn : g ≠ b) : w'.cell? ⟨g, o, none⟩ = w.cell? ⟨g, o, none⟩ := World.cell?_of_block (w := w) (h.block g hg hn)
theorem Upd.frozen {b g o : Nat} {w w' : World} (h : Upd b w w') (hg : g < w.heap.size) (hn : g ≠ b) : w'.frozen? ⟨g, o, none⟩ = w.frozen? ⟨g, o, none⟩ := World.frozen?_of_block (w := w) (h.block g hg hn)
theorem Two.upd {b g : Nat} {w w' : World} {x y : Value} (h : Two w g x y) (hu : Upd b w w') (hn : g ≠ b) : Two w' g x y :=
  ⟨Nat.lt_of_lt_of_le h.lt hu.size, (hu.cell h.lt hn).trans h.c0, (hu.cell h.lt hn).trans h.c1, (hu.frozen h.lt hn).trans h.f0, (hu.frozen h.lt hn).trans h.f1⟩
end Go.Proofs.Ytahjgepjhihhjaa.RngW
