/-
  Small facts that several walks want.
-/
import Derived.Test.YtlnomiiphlbamaaGreatDoorExFault
import Derived.Lib.QuietBelow
import Derived.Deep.OwnRows
namespace Go.Proofs.YtlnomiiphlbamaaGreatDoor.ExW
open Go Go.RowKit Go.Proofs.YtlnomiiphlbamaaGreatDoor.NumM Go.Proofs.YtlnomiiphlbamaaGreatDoor.LexW Go.Proofs.YtlnomiiphlbamaaGreatDoor.LexM Go.Proofs.YtlnomiiphlbamaaGreatDoor.ExM
open Go.«Sort»

theorem reB {P : Program} {f : FuncId} {args : Array Value} {w : World} {v : Value} (C : ∀ W, Below w.heap.size w W → Calls P f args W fun e w' => e = .returned v ∧ Below W.heap.size W w') (d : Nat) (os : Array Obj) :
    Calls P f args (grow (redrawn w d) os) fun e w'' => e = .returned v ∧ ∃ p : Regrown, w'' = grow (redrawn w p.d) p.os :=
  Calls.regrown_of (C _ (below_regrown w d os))
theorem four_grown {W W' : World} {g : Nat} {x0 x1 x2 x3 : Value} {row : Option Nat} (h : Four W g x0 x1 x2 x3) (hg : W.grownBy W' row) (hr : some g ≠ row) : Four W' g x0 x1 x2 x3 := by
  have hb := hg.block g h.lt hr
  exact ⟨Nat.lt_of_lt_of_le h.lt hg.size, (World.cell?_of_block (w := W) hb).trans h.c0, (World.cell?_of_block (w := W) hb).trans h.c1, (World.cell?_of_block (w := W) hb).trans h.c2, (World.cell?_of_block (w := W) hb).trans h.c3,
    (World.frozen?_of_block (w := W) hb).trans h.f0, (World.frozen?_of_block (w := W) hb).trans h.f1, (World.frozen?_of_block (w := W) hb).trans h.f2, (World.frozen?_of_block (w := W) hb).trans h.f3⟩
end Go.Proofs.YtlnomiiphlbamaaGreatDoor.ExW
