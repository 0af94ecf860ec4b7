/-
  What Size and Depth return.
-/
import Derived.Test.YtlnomiiphlbamaaGreatDoorExIter
namespace Go.Proofs.YtlnomiiphlbamaaGreatDoor.ExW
open Go Go.RowKit Go.Shelf Go.Proofs.YtlnomiiphlbamaaGreatDoor.LexW Go.Proofs.YtlnomiiphlbamaaGreatDoor.LexM Go.Proofs.YtlnomiiphlbamaaGreatDoor.ExM

attribute [local go_sem] Oper.semAt_some

theorem keep_t {n₀ n₁ : Nat} {A B C : World} (h : Keep n₀ n₁ A B) (k : Keep n₀ n₁ B C) : Keep n₀ n₁ A C := h.trans k
theorem keep_b {n₀ n₁ : Nat} {w : World} (W : World) (l : Nat) (o o' : Obj) (_ : w.heap.size ≤ l) (h : W.heap[l]? = some o) (hc : o.isCells = false) (_ : o.isWalk = false) : Keep n₀ n₁ W (W.putObj l o') := Keep.putObj W l o o' h hc
theorem zip2 (a b : Nat) (u v : Value) (t : Array Value) : Array.foldl (fun t (x : Tmp × Value) => t.setIfInBounds x.1 x.2) t ((#[a, b] : Array Tmp).zip #[u, v]) = (t.setIfInBounds a u).setIfInBounds b v := by
  simp [Array.zip, Array.zipWith, Array.zipWithMAux]
end Go.Proofs.YtlnomiiphlbamaaGreatDoor.ExW
