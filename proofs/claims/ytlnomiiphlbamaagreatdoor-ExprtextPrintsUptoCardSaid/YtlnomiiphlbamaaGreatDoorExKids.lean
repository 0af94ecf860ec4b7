/-
  A row of operands that grows by append, each operand with memory of its own: what the reference builds.
-/
import Derived.Test.YtlnomiiphlbamaaGreatDoorExBuild
import Derived.Test.YtlnomiiphlbamaaGreatDoorExOver
import Derived.Test.YtlnomiiphlbamaaGreatDoorEtBase
import Derived.Deep.AppendLies
namespace Go.Proofs.YtlnomiiphlbamaaGreatDoor.ExW
open Go Go.RowKit Go.Proofs.YtlnomiiphlbamaaGreatDoor.NumM Go.Proofs.YtlnomiiphlbamaaGreatDoor.LexW Go.Proofs.YtlnomiiphlbamaaGreatDoor.LexM Go.Proofs.YtlnomiiphlbamaaGreatDoor.ExM

/-- What lay below N, or was laid from lo on. -/
def Foot (N lo : Nat) (W : World) (b : Nat) : Prop := b < N ∨ (lo ≤ b ∧ b < W.heap.size)
/-- An expression is returned: in old memory below N, or in new. -/
def tFo (N : Nat) (x : Ex) (w : World) (e : Ending) (w' : World) : Prop := ∃ v, e = .returned v ∧ ExS (Foot N w.heap.size w') w' v x ∧ Below w.heap.size w w'
theorem Foot.up {N lo lo' : Nat} {W W' : World} {b : Nat} (h : Foot N lo W b) (hl : lo' ≤ lo) (hs : W.heap.size ≤ W'.heap.size) : Foot N lo' W' b :=
  h.imp id fun g => ⟨Nat.le_trans hl g.1, Nat.lt_of_lt_of_le g.2 hs⟩
theorem ExS.weak {S S' : Nat → Prop} {w : World} {v : Value} {e : Ex} (h : ExS S w v e) (hS : ∀ b, S b → S' b) : ExS S' w v e := h.kept hS (fun _ _ _ _ hv => hv)
theorem ExS.grown {S S' : Nat → Prop} {w w' : World} {row : Option Nat} {v : Value} {e : Ex} (h : ExS S w v e) (hg : w.grownBy w' row) (hS : ∀ b, S b → S' b ∧ b < w.heap.size ∧ row ≠ some b) : ExS S' w' v e :=
  h.kept (fun b hb => (hS b hb).1) (fun b _ hb _ hv => (World.cell?_of_block (w := w) (hg.block b (hS b hb).2.1 (fun e => (hS b hb).2.2 e.symm))).trans hv)
theorem tFo.at_ {N : Nat} {x : Ex} {w w' : World} {v : Value} (h : ExS (Foot N w.heap.size w') w' v x) (hN : N ≤ w'.heap.size) : ExAt w'.heap.size w' v x :=
  h.toAt (fun b hb => hb.elim (fun g => by omega) (fun g => g.2))
/-- The operands in a row of the call's own; their memory is apart from the row and from block X. -/
structure KidsP (N lo : Nat) (X : Option Nat) (W : World) (va : Value) (xs : List Ex) (pl : Nat → Option Addr) (cl : Nat → Nat) : Prop where
  row : W.ownsRow lo 24 4 va xs.length (exCells pl cl 0 xs)
  kid : ∀ i a, xs[i]? = some a → ExS (fun b => Foot N lo W b ∧ va.ownBlock ≠ some b ∧ X ≠ some b) W (xv a.op a.n a.nm (.slice (pl i) a.args.length (cl i))) a
theorem KidsP.nil (N lo : Nat) (X : Option Nat) (W : World) : KidsP N lo X W (.slice none 0 0) [] (fun _ => none) (fun _ => 0) :=
  ⟨World.ownsRow_nil _ _ _ _, fun i a h => by simp at h⟩
theorem own_lt {w : World} {base : Nat} {e : TypeId} {size n : Nat} {v : Value} {xs : List Value} (h : w.ownsRow base e size v n xs) : ∀ k, v.ownBlock = some k → base ≤ k ∧ k < w.heap.size ∧ ∃ cs, w.heap[k]? = some (.cells cs e) := by
  intro k hk
  rcases h.2 with ⟨rfl, _⟩ | ⟨g, cap, cur, rfl, hB, hg, _⟩
  · simp [Value.ownBlock] at hk
  · obtain rfl : g = k := by simpa [Value.ownBlock] using hk
    exact ⟨hB, (Array.getElem?_eq_some_iff.1 hg).1, cur, hg⟩
theorem own_slice {w : World} {base : Nat} {e : TypeId} {size n : Nat} {v : Value} {xs : List Value} (h : w.ownsRow base e size v n xs) : ∃ q k c, v = .slice q k c := by
  rcases h.2 with ⟨rfl, _⟩ | ⟨g, cap, cur, rfl, _⟩
  · exact ⟨_, _, _, rfl⟩
  · exact ⟨_, _, _, rfl⟩
theorem own_apart {w : World} {b1 b2 : Nat} {e1 e2 : TypeId} {s1 s2 n1 n2 : Nat} {v1 v2 : Value} {x1 x2 : List Value} (h1 : w.ownsRow b1 e1 s1 v1 n1 x1) (h2 : w.ownsRow b2 e2 s2 v2 n2 x2) (he : e1 ≠ e2) : ∀ k, v1.ownBlock = some k → v2.ownBlock ≠ some k := by
  intro k hk hk2
  obtain ⟨_, _, c1, q1⟩ := own_lt h1 k hk
  obtain ⟨_, _, c2, q2⟩ := own_lt h2 k hk2
  rw [q1] at q2
  cases q2
  exact he rfl
theorem own_grown {w w' : World} {base : Nat} {e : TypeId} {size n : Nat} {v : Value} {xs : List Value} {row : Option Nat} (h : w.ownsRow base e size v n xs) (hg : w.grownBy w' row) (hr : ∀ b, v.ownBlock = some b → row ≠ some b) : w'.ownsRow base e size v n xs :=
  World.ownsRow.kept h hg (by
    cases hv : v.ownBlock with
    | none => exact .inl rfl
    | some b => exact .inr (fun e => hr b hv e.symm))
theorem KidsP.turn {N lo : Nat} {X X' : Option Nat} {W W' : World} {va : Value} {xs : List Ex} {pl : Nat → Option Addr} {cl : Nat → Nat} {row : Option Nat} (h : KidsP N lo X W va xs pl cl) (hN : N ≤ W.heap.size) (hg : W.grownBy W' row)
    (hv : ∀ b, va.ownBlock = some b → row ≠ some b) (hr : ∀ b, row = some b → X = some b ∨ (N ≤ b ∧ b < lo)) (hX : ∀ b, X' = some b → X = some b ∨ b = W.heap.size) : KidsP N lo X' W' va xs pl cl := by
  refine ⟨own_grown h.row hg hv, fun i a hi => (h.kid i a hi).grown hg ?_⟩
  rintro b ⟨hf, h1, h2⟩
  have hlt : b < W.heap.size := hf.elim (fun g => by omega) (fun g => g.2)
  refine ⟨⟨hf.up (Nat.le_refl _) hg.size, h1, fun e => ?_⟩, hlt, fun e => ?_⟩
  · rcases hX b e with e | e
    · exact h2 e
    · omega
  · rcases hr b e with e | e
    · exact h2 e
    · rcases hf with g | g
      · omega
      · omega
theorem KidsP.later {N lo : Nat} {X : Option Nat} {W W' : World} {va : Value} {xs : List Ex} {pl : Nat → Option Addr} {cl : Nat → Nat} (h : KidsP N lo X W va xs pl cl) (hN : N ≤ W.heap.size) (hb : Below W.heap.size W W') : KidsP N lo X W' va xs pl cl :=
  h.turn hN (grown_of_below hb) (fun _ _ e => by cases e) (fun _ e => by cases e) (fun _ e => .inl e)
theorem exCells_congr {pl pl' : Nat → Option Addr} {cl cl' : Nat → Nat} : ∀ (ks : List Ex) (j : Nat), (∀ i, j ≤ i → i < j + ks.length → pl i = pl' i ∧ cl i = cl' i) → exCells pl cl j ks = exCells pl' cl' j ks
  | [], _, _ => rfl
  | a :: r, j, h => by
    obtain ⟨h1, h2⟩ := h j (Nat.le_refl _) (by simp)
    rw [exCells, exCells, h1, h2, exCells_congr r (j + 1) (fun i hi hl => h i (by omega) (by simp only [List.length_cons]; omega))]
theorem exCells_snoc (pl : Nat → Option Addr) (cl : Nat → Nat) (a : Ex) : ∀ (ks : List Ex) (j : Nat), exCells pl cl j (ks ++ [a]) = exCells pl cl j ks ++ [.int .i64 a.op, .int .i64 a.n, .string a.nm, .slice (pl (j + ks.length)) a.args.length (cl (j + ks.length))]
  | [], j => by simp [exCells]
  | b :: r, j => by
    rw [List.cons_append, exCells, exCells_snoc pl cl a r (j + 1), exCells, List.append_assoc, List.length_cons]
    rw [show j + 1 + r.length = j + (r.length + 1) by omega]
theorem KidsP.snoc {N lo : Nat} {X : Option Nat} {W W1 : World} {va : Value} {xs : List Ex} {pl : Nat → Option Addr} {cl : Nat → Nat} {a : Ex} {p : Option Addr} {c g cap : Nat} (h : KidsP N lo X W va xs pl cl) (hN : N ≤ lo) (hlo : lo ≤ W.heap.size)
    (hf : ExS (fun b => Foot N lo W b ∧ va.ownBlock ≠ some b ∧ X ≠ some b) W (xv a.op a.n a.nm (.slice p a.args.length c)) a)
    (hown : W1.ownsRow lo 24 4 (.slice (some ⟨g, 0, none⟩) (xs.length + 1) cap) (xs.length + 1) (exCells pl cl 0 xs ++ [.int .i64 a.op, .int .i64 a.n, .string a.nm, .slice p a.args.length c])) (hgr : W.grownBy W1 va.ownBlock) (hat : va.ownBlock = some g ∨ g = W.heap.size) :
    ∃ pl' cl', KidsP N lo X W1 (.slice (some ⟨g, 0, none⟩) (xs.length + 1) cap) (xs ++ [a]) pl' cl' := by
  refine ⟨fun i => if i < xs.length then pl i else p, fun i => if i < xs.length then cl i else c, ?_, fun i x hi => ?_⟩
  · rw [List.length_append, exCells_snoc, exCells_congr (pl' := pl) (cl' := cl) xs 0 (fun i _ hi => by rw [if_pos (by omega), if_pos (by omega)]; exact ⟨rfl, rfl⟩)]
    rw [if_neg (by omega), if_neg (by omega)]
    exact hown
  · have fit : ∀ b, Foot N lo W b ∧ va.ownBlock ≠ some b ∧ X ≠ some b → (Foot N lo W1 b ∧ (Value.slice (some ⟨g, 0, none⟩) (xs.length + 1) cap).ownBlock ≠ some b ∧ X ≠ some b) ∧ b < W.heap.size ∧ va.ownBlock ≠ some b := by
      rintro b ⟨k1, k2, k3⟩
      have hlt : b < W.heap.size := k1.elim (fun q => by omega) (fun q => q.2)
      refine ⟨⟨k1.up (Nat.le_refl _) hgr.size, fun e => ?_, k3⟩, hlt, k2⟩
      obtain rfl : g = b := by simpa [Value.ownBlock] using e
      rcases hat with e2 | e2
      · exact k2 e2
      · omega
    rcases Nat.lt_or_ge i xs.length with hlt | hge
    · rw [List.getElem?_append_left hlt] at hi
      simp only [if_pos hlt]
      exact (h.kid i x hi).grown hgr fit
    · rw [List.getElem?_append_right hge] at hi
      have hil : i - xs.length < 1 := by
        have := (List.getElem?_eq_some_iff.1 hi).1
        simpa using this
      have h0 : i - xs.length = 0 := by omega
      rw [h0] at hi
      obtain rfl : a = x := by simpa using hi
      simp only [if_neg (show ¬ i < xs.length by omega)]
      exact hf.grown hgr fit
theorem ExS.leaf {S : Nat → Prop} {w : World} {o n : Int} {s : ByteArray} {p : Option Addr} {cap : Nat} (hs : s.size ≤ 140737488351232) : ExS S w (xv o n s (.slice p 0 cap)) (.mk o n s []) :=
  ExS.mk (ks := []) (fun _ => none) (fun _ => 0) hs (by simp) (by simp) (fun h => by simp at h) (fun i a hi => by simp at hi)
theorem KidsP.done {N lo lo' : Nat} {X : Option Nat} {W : World} {va : Value} {xs : List Ex} {pl : Nat → Option Addr} {cl : Nat → Nat} {o n : Int} {s : ByteArray} (h : KidsP N lo X W va xs pl cl) (hs : s.size ≤ 140737488351232) (hk : xs.length ≤ 100000) (hlo : lo' ≤ lo) : ExS (Foot N lo' W) W (xv o n s va) (.mk o n s xs) := by
  obtain ⟨hrow, hkid⟩ := h
  rcases hrow.2 with ⟨hv, hn⟩ | ⟨g, cap, cur, hv, hB, hg, hle, _, _, htake⟩
  · have : xs = [] := List.length_eq_zero_iff.1 hn
    subst this
    rw [hv]
    exact ExS.leaf hs
  · rw [hv]
    refine ExS.mk pl cl hs (by omega) hle (fun _ => ⟨g, 0, rfl, .inr ⟨by omega, (Array.getElem?_eq_some_iff.1 hg).1⟩, fun i a hi => ?_⟩) (fun i a hi => (hkid i a hi).weak (fun b hb => hb.1.up hlo (Nat.le_refl _)))
    have hil := (List.getElem?_eq_some_iff.1 hi).1
    have rd : ∀ r, r < 4 → W.cell? ⟨g, i * 4 + r, none⟩ = some (cellR a (pl i) (cl i) r) := fun r hr => by
      rw [cell_of_row W g _ cur 24 (0, 0) hg]
      have q := exCells_at pl cl xs 0 i r a hi hr
      rw [Nat.zero_add] at q
      rw [← q, ← htake, List.getElem?_take, if_pos (by omega)]
      simp
    rw [Nat.zero_add]
    exact ⟨rd 0 (by omega), rd 1 (by omega), rd 2 (by omega), rd 3 (by omega)⟩
theorem ExS.set {N lo g i : Nat} {w : World} {u v : Value} {e : Ex} (h : ExS (Foot N lo w) w v e) (h1 : N ≤ g) (h2 : g < lo) (hN : N ≤ w.heap.size) : ExS (Foot N lo (w.setCell ⟨g, i, none⟩ u)) (w.setCell ⟨g, i, none⟩ u) v e :=
  h.grown (row := some g) (grownBy_set w g i u) (fun b hb => ⟨hb.up (Nat.le_refl _) (by rw [setCell_size]; exact Nat.le_refl _), hb.elim (fun q => by omega) (fun q => q.2), fun e => by cases e; rcases hb with q | q <;> omega⟩)
theorem four_other {w : World} {g b i : Nat} {x0 x1 x2 x3 : Value} (h : Four w g x0 x1 x2 x3) (hn : g ≠ b) (u : Value) : Four (w.setCell ⟨b, i, none⟩ u) g x0 x1 x2 x3 :=
  four_grown h (grownBy_set w b i u) (fun e => hn (Option.some.inj e))
theorem one_four (o n : Int) (s : ByteArray) (p : Option Addr) (k c : Nat) : ∀ u ∈ ([.int .i64 o, .int .i64 n, .string s, .slice p k c] : List Value), u.oneCell' = true := by
  intro u hu
  simp only [List.mem_cons, List.not_mem_nil, or_false] at hu
  rcases hu with rfl | rfl | rfl | rfl <;> rfl
theorem cell_one_at {w : World} {B : Nat} (hB : w.heap.size = B) (x : Value) (t : TypeId) : ∀ j u, [x][j]? = some u → (w.alloc (.cells #[x] t)).cell? ((⟨B, 0, none⟩ : Addr).add j) = some u := by
  subst hB; exact cell_one_new w x t
theorem cell_four_at {w : World} {B : Nat} (hB : w.heap.size = B) (x0 x1 x2 x3 : Value) (t : TypeId) : ∀ j u, [x0, x1, x2, x3][j]? = some u → (w.alloc (.cells #[x0, x1, x2, x3] t)).cell? ((⟨B, 0, none⟩ : Addr).add j) = some u := by
  subst hB
  intro j u hj
  have h := alloc_cells w #[x0, x1, x2, x3] t
  have ea : (⟨w.heap.size, 0, none⟩ : Addr).add j = ⟨w.heap.size, j, none⟩ := by unfold Addr.add; by_cases h0 : j = 0 <;> simp [h0]
  rw [ea]
  exact (h j u (by rw [List.getElem?_toArray]; exact hj)).1
/-- A new operand's memory, apart from both rows. -/
theorem kid_to {lo lo1 g6 : Nat} {W5 W6b w6 W6c : World} {va vo v : Value} {x : Ex} (hf : ExS (Foot 0 lo1 W5) W5 v x) (h1 : Below W5.heap.size W5 W6b) (hg : W6b.grownBy w6 vo.ownBlock) (h2 : Below w6.heap.size w6 W6c) (hlo : lo ≤ lo1)
    (hvo : ∀ b, vo.ownBlock = some b → b < lo1) (hva : ∀ b, va.ownBlock = some b → b < lo1) (hat : vo.ownBlock = some g6 ∨ g6 = W6b.heap.size) : ExS (fun b => Foot 0 lo W6c b ∧ va.ownBlock ≠ some b ∧ some g6 ≠ some b) W6c v x := by
  have s1 := h1.size
  have s2 := hg.size
  have s3 := h2.size
  refine hf.kept (fun b hb => ?_) (fun b o hb v hv => ?_)
  · rcases hb with hb | hb
    · omega
    · refine ⟨.inr ⟨by omega, by omega⟩, fun e => by have := hva b e; omega, fun e => ?_⟩
      cases e
      rcases hat with e | e
      · have := hvo _ e; omega
      · omega
  · rcases hb with hb | hb
    · omega
    · have e1 := (h1.cell (p := ⟨b, o, none⟩) hb.2).trans hv
      have e2 := (World.cell?_of_block (w := W6b) (a := ⟨b, o, none⟩) (hg.block b (by omega) (fun e => by have := hvo b e.symm; omega))).trans e1
      exact (h2.cell (p := ⟨b, o, none⟩) (show b < w6.heap.size by omega)).trans e2
end Go.Proofs.YtlnomiiphlbamaaGreatDoor.ExW
