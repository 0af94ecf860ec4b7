/-
  awake.
-/
import Derived.Test.YtdiackcefojfkaaGreatDoorExCount
import Derived.Test.YtdiackcefojfkaaGreatDoorExSubst
import Derived.Test.YtdiackcefojfkaaGreatDoorExNames
import Derived.Test.YtdiackcefojfkaaGreatDoorExShape
namespace Go.Proofs.YtdiackcefojfkaaGreatDoor.ExW
open Go Go.RowKit Go.Proofs.YtdiackcefojfkaaGreatDoor.NumM Go.Proofs.YtdiackcefojfkaaGreatDoor.LexW Go.Proofs.YtdiackcefojfkaaGreatDoor.LexM Go.Proofs.YtdiackcefojfkaaGreatDoor.ExM

abbrev xB : ByteArray := ⟨#[120]⟩
def aE : Ex := .mk 9 0 ⟨#[]⟩ [.mk 7 0 ⟨#[]⟩ [.mk 1 1 ⟨#[]⟩ [], .mk 1 2 ⟨#[]⟩ []], .mk 2 0 xB []]
def bE : Ex := .mk 1 70000 ⟨#[]⟩ []
theorem aE_vld : vld aE = 0 := by decide
theorem aE_ev : evalS [(xB, 5)] aE = (15, 0) := by decide
theorem aE_sz : sz aE = 5 := by decide
theorem aE_dep : dep aE = 3 := by decide
theorem aE_fold : sz (foldS aE) = 3 := by
  rw [show foldS aE = fo aE from if_pos aE_vld]; decide
theorem bE_vld : vld bE = 1 := by decide
theorem aE_names : namesL isVr (pre 1 aE) = [xB] := by
  have : pre 1 aE = [⟨1, 9, 0, ⟨#[]⟩, 2⟩, ⟨2, 7, 0, ⟨#[]⟩, 2⟩, ⟨3, 1, 1, ⟨#[]⟩, 0⟩, ⟨3, 1, 2, ⟨#[]⟩, 0⟩, ⟨2, 2, 0, xB, 0⟩] := rfl
  rw [this]
  simp [namesL, stepN, addN, isVr]
theorem ex_leaf (N : Nat) (w : World) (o n : Int) (s : ByteArray) (p : Option Addr) (cap : Nat) (hs : s.size ≤ 140737488351232) : ExAt N w (xv o n s (.slice p 0 cap)) (.mk o n s []) :=
  ExAt.mk (ks := []) (fun _ => none) (fun _ => 0) hs (by simp) (by simp) (fun h => by simp at h) (fun i a hi => by simp at hi)
/-- Eight cells in memory. -/
structure Eight (w : World) (g : Nat) (x : Nat → Value) : Prop where
  lt : g < w.heap.size
  cell : ∀ i, i < 8 → w.cell? ⟨g, i, none⟩ = some (x i)
theorem Eight.new (w : World) (x0 x1 x2 x3 x4 x5 x6 x7 : Value) (t : TypeId) : Eight (w.alloc (.cells #[x0, x1, x2, x3, x4, x5, x6, x7] t)) w.heap.size (fun i => match i with | 0 => x0 | 1 => x1 | 2 => x2 | 3 => x3 | 4 => x4 | 5 => x5 | 6 => x6 | _ => x7) :=
  ⟨by simp, fun i hi => (alloc_cells w #[x0, x1, x2, x3, x4, x5, x6, x7] t i _ (by
    match i, hi with
    | 0, _ => rfl
    | 1, _ => rfl
    | 2, _ => rfl
    | 3, _ => rfl
    | 4, _ => rfl
    | 5, _ => rfl
    | 6, _ => rfl
    | 7, _ => rfl)).1⟩
theorem Eight.stay {w w' : World} {g : Nat} {x : Nat → Value} (h : Eight w g x) (hb : Below w.heap.size w w') : Eight w' g x :=
  ⟨Nat.lt_of_lt_of_le h.lt hb.size, fun i hi => (hb.cell (p := ⟨g, i, none⟩) h.lt).trans (h.cell i hi)⟩
theorem two_case {ks : List Ex} {a b : Ex} (h : ks = [a, b]) {P : Nat → Ex → Prop} (h0 : P 0 a) (h1 : P 1 b) : ∀ i x, ks[i]? = some x → P i x := by
  subst h
  intro i x hi
  match i, hi with
  | 0, hi => cases hi; exact h0
  | 1, hi => cases hi; exact h1
  | i + 2, hi => simp at hi
theorem aE_at {W : World} {g1 g2 : Nat} (h1 : Eight W g1 (fun i => match i with | 0 => .int .i64 1 | 1 => .int .i64 1 | 2 => .string ⟨#[]⟩ | 3 => .slice none 0 0 | 4 => .int .i64 1 | 5 => .int .i64 2 | 6 => .string ⟨#[]⟩ | _ => .slice none 0 0))
    (h2 : Eight W g2 (fun i => match i with | 0 => .int .i64 7 | 1 => .int .i64 0 | 2 => .string ⟨#[]⟩ | 3 => .slice (some ⟨g1, 0, none⟩) 2 2 | 4 => .int .i64 2 | 5 => .int .i64 0 | 6 => .string xB | _ => .slice none 0 0)) :
    ExAt W.heap.size W (xv 9 0 ⟨#[]⟩ (.slice (some ⟨g2, 0, none⟩) 2 2)) aE := by
  have he : (⟨#[]⟩ : ByteArray).size ≤ 140737488351232 := by decide
  have hx : xB.size ≤ 140737488351232 := by decide
  have k1 : ExAt W.heap.size W (xv 7 0 ⟨#[]⟩ (.slice (some ⟨g1, 0, none⟩) 2 2)) (.mk 7 0 ⟨#[]⟩ [.mk 1 1 ⟨#[]⟩ [], .mk 1 2 ⟨#[]⟩ []]) :=
    ExAt.mk (ks := [.mk 1 1 ⟨#[]⟩ [], .mk 1 2 ⟨#[]⟩ []]) (fun _ => none) (fun _ => 0) he (by decide) (by decide)
      (fun _ => ⟨g1, 0, rfl, h1.lt, two_case rfl ⟨h1.cell 0 (by omega), h1.cell 1 (by omega), h1.cell 2 (by omega), h1.cell 3 (by omega)⟩ ⟨h1.cell 4 (by omega), h1.cell 5 (by omega), h1.cell 6 (by omega), h1.cell 7 (by omega)⟩⟩)
      (two_case rfl (ex_leaf _ _ _ _ _ _ _ he) (ex_leaf _ _ _ _ _ _ _ he))
  exact ExAt.mk (ks := [.mk 7 0 ⟨#[]⟩ [.mk 1 1 ⟨#[]⟩ [], .mk 1 2 ⟨#[]⟩ []], .mk 2 0 xB []]) (fun i => if i = 0 then some ⟨g1, 0, none⟩ else none) (fun i => if i = 0 then 2 else 0) he (by decide) (by decide)
      (fun _ => ⟨g2, 0, rfl, h2.lt, two_case rfl ⟨h2.cell 0 (by omega), h2.cell 1 (by omega), h2.cell 2 (by omega), h2.cell 3 (by omega)⟩ ⟨h2.cell 4 (by omega), h2.cell 5 (by omega), h2.cell 6 (by omega), h2.cell 7 (by omega)⟩⟩)
      (two_case rfl k1 (ex_leaf _ _ _ _ _ _ _ hx))
end Go.Proofs.YtdiackcefojfkaaGreatDoor.ExW
