/-
  Laws that the card uses; no conditions beside those that each states (ExBrief ExKids).
-/
import Derived.Test.YtpejflgdehioaaaGreatDoorT14
import Derived.Test.YtpejflgdehioaaaGreatDoorT23
namespace Go.Proofs.YtpejflgdehioaaaGreatDoor.ExW
open Go Go.RowKit Go.«Sort» Go.Proofs.YtpejflgdehioaaaGreatDoor.NumM Go.Proofs.YtpejflgdehioaaaGreatDoor.LexW Go.Proofs.YtpejflgdehioaaaGreatDoor.LexM Go.Proofs.YtpejflgdehioaaaGreatDoor.ExM
def IntsV (w : World) (v : Value) (l : List Int) : Prop := ∃ p cap, v = .slice p l.length cap ∧ l.length ≤ cap ∧ (0 < l.length → ∃ g, p = some ⟨g, 0, none⟩ ∧ IntsAt w g 0 l)
theorem IntsV.later {w w' : World} {v : Value} {l : List Int} (h : IntsV w v l) (hb : Below w.heap.size w w') : IntsV w' v l := by
  obtain ⟨p, cap, e, hc, hx⟩ := h; exact ⟨p, cap, e, hc, fun h0 => by obtain ⟨g, e2, hi⟩ := hx h0; exact ⟨g, e2, hi.later hb⟩⟩
end Go.Proofs.YtpejflgdehioaaaGreatDoor.ExW
namespace Go.Proofs.YtpejflgdehioaaaGreatDoor.ExW
open Go Go.RowKit Go.Proofs.YtpejflgdehioaaaGreatDoor.NumM Go.Proofs.YtpejflgdehioaaaGreatDoor.LexW Go.Proofs.YtpejflgdehioaaaGreatDoor.LexM Go.Proofs.YtpejflgdehioaaaGreatDoor.ExM
def Foot (N lo : Nat) (W : World) (b : Nat) : Prop := b < N ∨ (lo ≤ b ∧ b < W.heap.size)
theorem Foot.up {N lo lo' : Nat} {W W' : World} {b : Nat} (h : Foot N lo W b) (hl : lo' ≤ lo) (hs : W.heap.size ≤ W'.heap.size) : Foot N lo' W' b :=
  h.imp id fun g => ⟨Nat.le_trans hl g.1, Nat.lt_of_lt_of_le g.2 hs⟩
theorem ExS.grown {S S' : Nat → Prop} {w w' : World} {row : Option Nat} {v : Value} {e : Ex} (h : ExS S w v e) (hg : w.grownBy w' row) (hS : ∀ b, S b → S' b ∧ b < w.heap.size ∧ row ≠ some b) : ExS S' w' v e :=
  h.kept (fun b hb => (hS b hb).1) (fun b _ hb _ hv => (World.cell?_of_block (w := w) (hg.block b (hS b hb).2.1 (fun e => (hS b hb).2.2 e.symm))).trans hv)
structure KidsP (N lo : Nat) (X : Option Nat) (W : World) (va : Value) (xs : List Ex) (pl : Nat → Option Addr) (cl : Nat → Nat) : Prop where
  row : W.ownsRow lo 43 4 va xs.length (exCells pl cl 0 xs)
  kid : ∀ i a, xs[i]? = some a → ExS (fun b => Foot N lo W b ∧ va.ownBlock ≠ some b ∧ X ≠ some b) W (xv a.op a.n a.nm (.slice (pl i) a.args.length (cl i))) a
theorem KidsP.nil (N lo : Nat) (X : Option Nat) (W : World) : KidsP N lo X W (.slice none 0 0) [] (fun _ => none) (fun _ => 0) :=
  ⟨World.ownsRow_nil _ _ _ _, fun i a h => by simp at h⟩
theorem own_lt {w : World} {base : Nat} {e : TypeId} {size n : Nat} {v : Value} {xs : List Value} (h : w.ownsRow base e size v n xs) : ∀ k, v.ownBlock = some k → base ≤ k ∧ k < w.heap.size ∧ ∃ cs, w.heap[k]? = some (.cells cs e) := by
  intro k hk; rcases h.2 with ⟨rfl, _⟩ | ⟨g, cap, cur, rfl, hB, hg, _⟩
  · simp [Value.ownBlock] at hk
  · obtain rfl : g = k := (by simpa [Value.ownBlock] using hk); exact ⟨hB, (Array.getElem?_eq_some_iff.1 hg).1, cur, hg⟩
theorem own_slice {w : World} {base : Nat} {e : TypeId} {size n : Nat} {v : Value} {xs : List Value} (h : w.ownsRow base e size v n xs) : ∃ q k c, v = .slice q k c := by
  rcases h.2 with ⟨rfl, _⟩ | ⟨g, cap, cur, rfl, _⟩
  · exact ⟨_, _, _, rfl⟩
  · exact ⟨_, _, _, rfl⟩
theorem own_grown {w w' : World} {base : Nat} {e : TypeId} {size n : Nat} {v : Value} {xs : List Value} {row : Option Nat} (h : w.ownsRow base e size v n xs) (hg : w.grownBy w' row) (hr : ∀ b, v.ownBlock = some b → row ≠ some b) : w'.ownsRow base e size v n xs :=
  World.ownsRow.kept h hg (by
    cases hv : v.ownBlock with
    | none => exact .inl rfl
    | some b => exact .inr (fun e => hr b hv e.symm))
theorem KidsP.turn {N lo : Nat} {X X' : Option Nat} {W W' : World} {va : Value} {xs : List Ex} {pl : Nat → Option Addr} {cl : Nat → Nat} {row : Option Nat} (h : KidsP N lo X W va xs pl cl) (hN : N ≤ W.heap.size) (hg : W.grownBy W' row)
    (hv : ∀ b, va.ownBlock = some b → row ≠ some b) (hr : ∀ b, row = some b → X = some b ∨ (N ≤ b ∧ b < lo)) (hX : ∀ b, X' = some b → X = some b ∨ b = W.heap.size) : KidsP N lo X' W' va xs pl cl := by
  refine ⟨own_grown h.row hg hv, fun i a hi => (h.kid i a hi).grown hg ?_⟩; rintro b ⟨hf, h1, h2⟩; have hlt : b < W.heap.size := hf.elim (fun g => by omega) (fun g => g.2); refine ⟨⟨hf.up (Nat.le_refl _) hg.size, h1, fun e => ?_⟩, hlt, fun e => ?_⟩
  · rcases hX b e with e | e
    · exact h2 e
    · omega
  · rcases hr b e with e | e
    · exact h2 e
    · rcases hf with g | g
      · omega
      · omega
theorem KidsP.later {N lo : Nat} {X : Option Nat} {W W' : World} {va : Value} {xs : List Ex} {pl : Nat → Option Addr} {cl : Nat → Nat} (h : KidsP N lo X W va xs pl cl) (hN : N ≤ W.heap.size) (hb : Below W.heap.size W W') : KidsP N lo X W' va xs pl cl :=
  h.turn hN (grown_of_below hb) (fun _ _ e => by cases e) (fun _ e => by cases e) (fun _ e => .inl e)
theorem ExS.leaf {S : Nat → Prop} {w : World} {o n : Int} {s : ByteArray} {p : Option Addr} {cap : Nat} (hs : s.size ≤ 140737488351232) : ExS S w (xv o n s (.slice p 0 cap)) (.mk o n s []) :=
  ExS.mk (ks := []) (fun _ => none) (fun _ => 0) hs (by simp) (by simp) (fun h => by simp at h) (fun i a hi => by simp at hi)
theorem ExS.set {N lo g i : Nat} {w : World} {u v : Value} {e : Ex} (h : ExS (Foot N lo w) w v e) (h1 : N ≤ g) (h2 : g < lo) (hN : N ≤ w.heap.size) : ExS (Foot N lo (w.setCell ⟨g, i, none⟩ u)) (w.setCell ⟨g, i, none⟩ u) v e :=
  h.grown (row := some g) (grownBy_set w g i u) (fun b hb => ⟨hb.up (Nat.le_refl _) (by rw [setCell_size]; exact Nat.le_refl _), hb.elim (fun q => by omega) (fun q => q.2), fun e => by cases e; rcases hb with q | q <;> omega⟩)
theorem one_four (o n : Int) (s : ByteArray) (p : Option Addr) (k c : Nat) : ∀ u ∈ ([.int .i64 o, .int .i64 n, .string s, .slice p k c] : List Value), u.oneCell' = true := by
  intro u hu; simp only [List.mem_cons, List.not_mem_nil, or_false] at hu; rcases hu with rfl | rfl | rfl | rfl <;> rfl
theorem cell_one_at {w : World} {B : Nat} (hB : w.heap.size = B) (x : Value) (t : TypeId) : ∀ j u, [x][j]? = some u → (w.alloc (.cells #[x] t)).cell? ((⟨B, 0, none⟩ : Addr).add j) = some u := by
  subst hB; exact cell_one_new w x t
theorem cell_four_at {w : World} {B : Nat} (hB : w.heap.size = B) (x0 x1 x2 x3 : Value) (t : TypeId) : ∀ j u, [x0, x1, x2, x3][j]? = some u → (w.alloc (.cells #[x0, x1, x2, x3] t)).cell? ((⟨B, 0, none⟩ : Addr).add j) = some u := by
  subst hB; intro j u hj; have h := alloc_cells w #[x0, x1, x2, x3] t; have ea : (⟨w.heap.size, 0, none⟩ : Addr).add j = ⟨w.heap.size, j, none⟩ := (by unfold Addr.add; by_cases h0 : j = 0 <;> simp [h0]); rw [ea]; exact (h j u (by rw [List.getElem?_toArray]; exact hj)).1
end Go.Proofs.YtpejflgdehioaaaGreatDoor.ExW
