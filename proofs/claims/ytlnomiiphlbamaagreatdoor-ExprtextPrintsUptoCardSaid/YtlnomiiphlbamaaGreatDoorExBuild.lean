/-
  Expressions in new memory: what slices.Clone and rebuilt return.
-/
import Derived.Test.YtlnomiiphlbamaaGreatDoorExFault
import Derived.Deep.RegionWith
import Derived.Deep.RegionHeld3
import Derived.Deep.DeepCutAuto
import Derived.OwnWalk
namespace Go.Proofs.YtlnomiiphlbamaaGreatDoor.ExW
open Go Go.RowKit Go.Proofs.YtlnomiiphlbamaaGreatDoor.NumM Go.Proofs.YtlnomiiphlbamaaGreatDoor.LexW Go.Proofs.YtlnomiiphlbamaaGreatDoor.LexM Go.Proofs.YtlnomiiphlbamaaGreatDoor.ExM

/-- The value is this expression, whose operands lie in blocks of S. -/
inductive ExS (S : Nat → Prop) (w : World) : Value → Ex → Prop where
  | mk {o n : Int} {s : ByteArray} {ks : List Ex} {p : Option Addr} {cap : Nat} (pl : Nat → Option Addr) (cl : Nat → Nat)
      (hs : s.size ≤ 140737488351232) (hl : ks.length ≤ 140737488351232) (hc : ks.length ≤ cap)
      (hp : 0 < ks.length → ∃ b off, p = some ⟨b, off, none⟩ ∧ S b ∧ ∀ i a, ks[i]? = some a →
        w.cell? ⟨b, off + i * 4, none⟩ = some (.int .i64 a.op) ∧ w.cell? ⟨b, off + i * 4 + 1, none⟩ = some (.int .i64 a.n) ∧ w.cell? ⟨b, off + i * 4 + 2, none⟩ = some (.string a.nm) ∧ w.cell? ⟨b, off + i * 4 + 3, none⟩ = some (.slice (pl i) a.args.length (cl i)))
      (hx : ∀ i a, ks[i]? = some a → ExS S w (xv a.op a.n a.nm (.slice (pl i) a.args.length (cl i))) a) :
      ExS S w (xv o n s (.slice p ks.length cap)) (.mk o n s ks)
theorem ExS.toAt {S : Nat → Prop} {w : World} {N : Nat} (hS : ∀ b, S b → b < N) {v : Value} {e : Ex} (h : ExS S w v e) : ExAt N w v e := by
  induction h with
  | mk pl cl hs hl hc hp hx ih =>
    refine .mk pl cl hs hl hc (fun h0 => ?_) (fun i a hi => ih i a hi)
    obtain ⟨b, off, e, hb, hcell⟩ := hp h0
    exact ⟨b, off, e, hS b hb, hcell⟩
theorem ExS.kept {S S' : Nat → Prop} {w w' : World} (hS : ∀ b, S b → S' b) (hk : ∀ b o, S b → ∀ v, w.cell? ⟨b, o, none⟩ = some v → w'.cell? ⟨b, o, none⟩ = some v) {v : Value} {e : Ex} (h : ExS S w v e) : ExS S' w' v e := by
  induction h with
  | mk pl cl hs hl hc hp hx ih =>
    refine .mk pl cl hs hl hc (fun h0 => ?_) (fun i a hi => ih i a hi)
    obtain ⟨b, off, e, hb, hcell⟩ := hp h0
    exact ⟨b, off, e, hS b hb, fun i a hi => ⟨hk _ _ hb _ (hcell i a hi).1, hk _ _ hb _ (hcell i a hi).2.1, hk _ _ hb _ (hcell i a hi).2.2.1, hk _ _ hb _ (hcell i a hi).2.2.2⟩⟩
theorem ExS.form {S : Nat → Prop} {w : World} {v : Value} {e : Ex} (h : ExS S w v e) : ∃ p cap, v = xv e.op e.n e.nm (.slice p e.args.length cap) ∧ e.nm.size ≤ 140737488351232 ∧ e.args.length ≤ cap := by
  cases h with
  | mk pl cl hs hl hc hp hx => exact ⟨_, _, rfl, hs, hc⟩
/-- An expression in memory that was laid from lo on. -/
abbrev Fr (lo : Nat) (w : World) (v : Value) (e : Ex) : Prop := ExS (fun b => lo ≤ b ∧ b < w.heap.size) w v e
theorem Fr.at_ {lo : Nat} {w : World} {v : Value} {e : Ex} (h : Fr lo w v e) : ExAt w.heap.size w v e := h.toAt (fun _ hb => hb.2)
theorem Fr.later {lo : Nat} {w w' : World} {v : Value} {e : Ex} (h : Fr lo w v e) (hb : Below w.heap.size w w') : Fr lo w' v e :=
  h.kept (fun _ g => ⟨g.1, Nat.lt_of_lt_of_le g.2 hb.size⟩) (fun _ o g _ hv => (hb.cell (p := ⟨_, o, none⟩) g.2).trans hv)
theorem Fr.low {lo lo' : Nat} {w : World} {v : Value} {e : Ex} (h : Fr lo w v e) (hl : lo' ≤ lo) : Fr lo' w v e :=
  h.kept (fun _ g => ⟨Nat.le_trans hl g.1, g.2⟩) (fun _ _ _ _ hv => hv)
theorem Fr.set {lo g o : Nat} {w : World} {u v : Value} {e : Ex} (h : Fr lo w v e) (hg : g < lo) : Fr lo (w.setCell ⟨g, o, none⟩ u) v e :=
  h.kept (fun _ q => ⟨q.1, by rw [setCell_size]; exact q.2⟩) (fun b _ q _ hv => by
    rw [World.cell?_setCell_other _ _ _ _ (fun e => by have := congrArg Addr.block e; simp at this; omega)]; exact hv)
/-- Cell r of an operand. -/
def cellR (a : Ex) (p : Option Addr) (c : Nat) : Nat → Value
  | 0 => .int .i64 a.op
  | 1 => .int .i64 a.n
  | 2 => .string a.nm
  | _ => .slice p a.args.length c
/-- A row of K structs of four cells. -/
structure RowAt (w : World) (g K : Nat) (F : Nat → Nat → Value) : Prop where
  lt : g < w.heap.size
  cell : ∀ a r, a < K → r < 4 → w.cell? ⟨g, a * 4 + r, none⟩ = some (F a r)
  frz : ∀ o, w.frozen? ⟨g, o, none⟩ = false
theorem RowAt.stay {w w' : World} {g K : Nat} {F : Nat → Nat → Value} (h : RowAt w g K F) (hb : Below w.heap.size w w') : RowAt w' g K F :=
  ⟨Nat.lt_of_lt_of_le h.lt hb.size, fun a r ha hr => (hb.cell (p := ⟨g, a * 4 + r, none⟩) h.lt).trans (h.cell a r ha hr), fun o => (hb.frozen (p := ⟨g, o, none⟩) h.lt).trans (h.frz o)⟩
theorem RowAt.alloc {w : World} {g K : Nat} {F : Nat → Nat → Value} (h : RowAt w g K F) (o : Obj) : RowAt (w.alloc o) g K F := h.stay ((Below.refl _ _).alloc (Nat.le_refl _) _)
theorem RowAt.put {w : World} {g K : Nat} {F : Nat → Nat → Value} (h : RowAt w g K F) {i : Nat} (hi : i < K) (y0 y1 y2 y3 : Value) :
    RowAt ((((w.setCell ⟨g, i * 4, none⟩ y0).setCell ⟨g, i * 4 + 1, none⟩ y1).setCell ⟨g, i * 4 + 2, none⟩ y2).setCell ⟨g, i * 4 + 3, none⟩ y3) g K (fun a r => if a = i then (match r with | 0 => y0 | 1 => y1 | 2 => y2 | _ => y3) else F a r) := by
  have far : ∀ (w : World) (v : Value) {p q : Nat}, p ≠ q → (w.setCell ⟨g, p, none⟩ v).cell? ⟨g, q, none⟩ = w.cell? ⟨g, q, none⟩ := fun w v p q hn => other w v hn
  refine ⟨by simp only [setCell_size]; exact h.lt, fun a r ha hr => ?_, fun o => by simp only [World.frozen?_setCell]; exact h.frz o⟩
  have c0 := h.cell i 0 hi (by omega)
  have c1 := h.cell i 1 hi (by omega)
  have c2 := h.cell i 2 hi (by omega)
  have c3 := h.cell i 3 hi (by omega)
  by_cases e : a = i
  · subst e
    simp only [if_true]
    match r, hr with
    | 0, _ => rw [far _ _ (by omega), far _ _ (by omega), far _ _ (by omega)]; exact cell_set c0
    | 1, _ => rw [far _ _ (by omega), far _ _ (by omega)]; exact cell_set (by rw [far _ _ (by omega)]; exact c1)
    | 2, _ => rw [far _ _ (by omega)]; exact cell_set (by rw [far _ _ (by omega), far _ _ (by omega)]; exact c2)
    | 3, _ => exact cell_set (by rw [far _ _ (by omega), far _ _ (by omega), far _ _ (by omega)]; exact c3)
  · simp only [if_neg e]
    rw [far _ _ (by omega), far _ _ (by omega), far _ _ (by omega), far _ _ (by omega)]
    exact h.cell a r ha hr
theorem below_put4 {w0 w : World} {g : Nat} (h : Below w0.heap.size w0 w) (hg : w0.heap.size ≤ g) (i : Nat) (y0 y1 y2 y3 : Value) :
    Below w0.heap.size w0 ((((w.setCell ⟨g, i * 4, none⟩ y0).setCell ⟨g, i * 4 + 1, none⟩ y1).setCell ⟨g, i * 4 + 2, none⟩ y2).setCell ⟨g, i * 4 + 3, none⟩ y3) :=
  (((h.setCell hg _).setCell hg _).setCell hg _).setCell hg _
/-- The operands' cells, one behind another. -/
def exCells (pl : Nat → Option Addr) (cl : Nat → Nat) : Nat → List Ex → List Value
  | _, [] => []
  | i, a :: r => [.int .i64 a.op, .int .i64 a.n, .string a.nm, .slice (pl i) a.args.length (cl i)] ++ exCells pl cl (i + 1) r
theorem exCells_len (pl : Nat → Option Addr) (cl : Nat → Nat) : ∀ (ks : List Ex) (i : Nat), (exCells pl cl i ks).length = ks.length * 4
  | [], _ => rfl
  | a :: r, i => by rw [exCells, List.length_append, exCells_len pl cl r (i + 1)]; simp; omega
theorem exCells_at (pl : Nat → Option Addr) (cl : Nat → Nat) : ∀ (ks : List Ex) (i j r : Nat) (a : Ex), ks[j]? = some a → r < 4 → (exCells pl cl i ks)[j * 4 + r]? = some (cellR a (pl (i + j)) (cl (i + j)) r)
  | [], i, j, r, a, h, _ => by simp at h
  | b :: q, i, 0, r, a, h, hr => by
    obtain rfl : b = a := by simpa using h
    rw [exCells]
    match r, hr with
    | 0, _ => rfl
    | 1, _ => rfl
    | 2, _ => rfl
    | 3, _ => rfl
  | b :: q, i, j + 1, r, a, h, hr => by
    rw [exCells, List.getElem?_append_right (by simp; omega)]
    have ih := exCells_at pl cl q (i + 1) j r a (by simpa using h) hr
    rw [show i + 1 + j = i + (j + 1) by omega] at ih
    rw [← ih]
    congr 1
    simp; omega
theorem exCells_one (pl : Nat → Option Addr) (cl : Nat → Nat) : ∀ (ks : List Ex) (i : Nat), ∀ u ∈ exCells pl cl i ks, u.oneCell' = true
  | [], _, u, h => by simp [exCells] at h
  | a :: r, i, u, h => by
    rw [exCells, List.mem_append] at h
    rcases h with h | h
    · simp only [List.mem_cons, List.not_mem_nil, or_false] at h
      rcases h with rfl | rfl | rfl | rfl <;> rfl
    · exact exCells_one pl cl r (i + 1) u h
theorem infoE : (Tryz.prog.info? 24).map (fun i => (i.zero, i.size, i.bytes)) = some (some (.agg #[.int .i64 0, .int .i64 0, .string ⟨#[]⟩, .slice none 0 0]), 4, 56) := by kernel_rfl
/-- The operands' cells as they came. -/
def origF (pl : Nat → Option Addr) (cl : Nat → Nat) (ks : List Ex) (a r : Nat) : Value := match ks[a]? with | some x => cellR x (pl a) (cl a) r | none => .int .i64 0
theorem orig_at {pl : Nat → Option Addr} {cl : Nat → Nat} {ks : List Ex} {a r : Nat} {x : Ex} (h : ks[a]? = some x) : origF pl cl ks a r = cellR x (pl a) (cl a) r := by unfold origF; rw [h]
theorem row_of_own {w : World} {B K : Nat} {v : Value} {pl : Nat → Option Addr} {cl : Nat → Nat} {ks : List Ex} (h : w.ownsRow B 24 4 v K (exCells pl cl 0 ks)) (hK : ks.length = K) :
    ∃ p' cap', v = .slice p' K cap' ∧ K ≤ cap' ∧ (0 < K → ∃ g, p' = some ⟨g, 0, none⟩ ∧ B ≤ g ∧ RowAt w g K (origF pl cl ks)) := by
  obtain ⟨_, ⟨hv, hn⟩ | ⟨g, cap, cur, hv, hB, hg, hle, _, _, htake⟩⟩ := h
  · exact ⟨none, 0, by rw [hv, hn], by omega, fun x => by omega⟩
  · refine ⟨some ⟨g, 0, none⟩, cap, hv, hle, fun _ => ⟨g, rfl, hB, (Array.getElem?_eq_some_iff.1 hg).1, fun a r ha hr => ?_, fun o => by simp [World.frozen?, hg]⟩⟩
    obtain ⟨x, hx⟩ : ∃ x, ks[a]? = some x := ⟨_, List.getElem?_eq_getElem (by omega)⟩
    rw [orig_at hx, cell_of_row w g _ cur 24 (0, 0) hg]
    have q := exCells_at pl cl ks 0 a r x hx hr
    rw [Nat.zero_add] at q
    rw [← q, ← htake, List.getElem?_take, if_pos (by omega)]
    simp
def tClone (K : Nat) (F : Nat → Nat → Value) (w : World) (e : Ending) (w' : World) : Prop :=
  ∃ p' cap', e = .returned (.slice p' K cap') ∧ K ≤ cap' ∧ Below w.heap.size w w' ∧ (0 < K → ∃ g, p' = some ⟨g, 0, none⟩ ∧ w.heap.size ≤ g ∧ RowAt w' g K F)
end Go.Proofs.YtlnomiiphlbamaaGreatDoor.ExW
