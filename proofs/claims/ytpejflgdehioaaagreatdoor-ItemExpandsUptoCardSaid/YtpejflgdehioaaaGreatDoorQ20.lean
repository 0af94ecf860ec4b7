/-
  Laws that the card uses; no conditions beside those that each states (ExRefA ExBrief ItRWt ItScN).
-/
import Derived.Laws.OwnMore
import Derived.Test.YtpejflgdehioaaaGreatDoorQ18
namespace Go.Proofs.YtpejflgdehioaaaGreatDoor.ExW
open Go Go.RowKit Go.Proofs.YtpejflgdehioaaaGreatDoor.NumM Go.Proofs.YtpejflgdehioaaaGreatDoor.LexW Go.Proofs.YtpejflgdehioaaaGreatDoor.LexM Go.Proofs.YtpejflgdehioaaaGreatDoor.ExM
theorem digit8_any (k : Nat) (hk : k ≤ 7) (w : World) : Calls Tryz.prog 109 #[.int .i64 k] w fun e w' => e = .returned (.string ⟨#[UInt8.ofNat (48 + k)]⟩) ∧ w = w' := by
  obtain rfl | rfl | rfl | rfl | rfl | rfl | rfl | rfl : k = 0 ∨ k = 1 ∨ k = 2 ∨ k = 3 ∨ k = 4 ∨ k = 5 ∨ k = 6 ∨ k = 7 := by omega
  all_goals
    go_enter Tryz.func109, Tryz.ntmps109
    go_wp2; go_ret; exact ⟨rfl, rfl⟩
theorem elementR_any (a : ByteArray) (k : Nat) (hk : k ≤ 7) (ha : a.size ≤ 100) (w : World) : Calls Tryz.prog 62 #[.string a, .int .i64 k] w fun e w' => e = .returned (.string (elmN a k)) ∧ w = w' := by
  have DC := digit8_any k hk w; have HC := Lib.hid (elm_cat a ⟨#[UInt8.ofNat (48 + k)]⟩ k rfl); obtain ⟨d, hd⟩ : ∃ d : ByteArray, (⟨#[UInt8.ofNat (48 + k)]⟩ : ByteArray) = d := ⟨_, rfl⟩; have hds : d.size = 1 := (by rw [← hd]; rfl); rw [hd] at HC DC; have DC := Lib.hid DC; clear hd
  go_enter Tryz.func62, Tryz.ntmps62
  go_wp2_with (go_at_call 109; ((with_reducible refine DC.out.mono ?_); rintro e w1 ⟨rfl, rfl⟩))
  go_ret; rw [HC.out]; exact ⟨rfl, rfl⟩
end Go.Proofs.YtpejflgdehioaaaGreatDoor.ExW
namespace Go.Proofs.YtpejflgdehioaaaGreatDoor.ExW
open Go Go.RowKit Go.«Sort» Go.Proofs.YtpejflgdehioaaaGreatDoor.NumM Go.Proofs.YtpejflgdehioaaaGreatDoor.LexW Go.Proofs.YtpejflgdehioaaaGreatDoor.LexM Go.Proofs.YtpejflgdehioaaaGreatDoor.ExM
theorem four_grown {W W' : World} {g : Nat} {x0 x1 x2 x3 : Value} {row : Option Nat} (h : Four W g x0 x1 x2 x3) (hg : W.grownBy W' row) (hr : some g ≠ row) : Four W' g x0 x1 x2 x3 := by
  have hb := hg.block g h.lt hr; exact ⟨Nat.lt_of_lt_of_le h.lt hg.size, (World.cell?_of_block (w := W) hb).trans h.c0, (World.cell?_of_block (w := W) hb).trans h.c1, (World.cell?_of_block (w := W) hb).trans h.c2, (World.cell?_of_block (w := W) hb).trans h.c3,
    (World.frozen?_of_block (w := W) hb).trans h.f0, (World.frozen?_of_block (w := W) hb).trans h.f1, (World.frozen?_of_block (w := W) hb).trans h.f2, (World.frozen?_of_block (w := W) hb).trans h.f3⟩
theorem row_later {w w' : World} {base : Nat} {e : TypeId} {size n : Nat} {v : Value} {xs : List Value} (h : w.ownsRow base e size v n xs) (hb : Below w.heap.size w w') : w'.ownsRow base e size v n xs :=
  World.ownsRow.kept h (grown_of_below hb) (by
    cases hv : v.ownBlock with
    | none => exact .inl rfl
    | some b => exact .inr (fun e => by cases e))
end Go.Proofs.YtpejflgdehioaaaGreatDoor.ExW
namespace Go.Proofs.YtpejflgdehioaaaGreatDoor.ItM
open Go Go.Proofs.YtpejflgdehioaaaGreatDoor.WordM Go.Proofs.YtpejflgdehioaaaGreatDoor.LexM Go.Proofs.YtpejflgdehioaaaGreatDoor.ExM
open Go.Proofs.YtpejflgdehioaaaGreatDoor.ClM (Fld)
mutual
/-- The nodes that the result has at most. -/
def wt (fs : List Fld) : Ex → Nat
  | .mk o _ s ks => if o = 24 then 2 * (szI fs s).toNat - 1 else if o = 3 then (if (hdE ks).op = 1 then 1 else (szI fs s).toNat * (wts fs ks + 4) + 1) else wts fs ks + 1
def wts (fs : List Fld) : List Ex → Nat
  | [] => 0
  | a :: r => wt fs a + wts fs r
end
def NA (e : Ex) : Prop := ∀ l, ∀ y ∈ pre l e, isAr y.op = false
end Go.Proofs.YtpejflgdehioaaaGreatDoor.ItM
