/-
  Expressions in memory.
-/
import Derived.Test.YtlnomiiphlbamaaGreatDoorLexValid
import Derived.Test.YtlnomiiphlbamaaGreatDoorExMath
import Derived.RangeFuncNested
import Derived.Deep.OwnRows
namespace Go.Proofs.YtlnomiiphlbamaaGreatDoor.ExW
open Go Go.RowKit Go.Proofs.YtlnomiiphlbamaaGreatDoor.LexW Go.Proofs.YtlnomiiphlbamaaGreatDoor.LexM Go.Proofs.YtlnomiiphlbamaaGreatDoor.ExM

/-- An expression ks a value. -/
abbrev xv (o n : Int) (s : ByteArray) (a : Value) : Value := .agg #[.int .i64 o, .int .i64 n, .string s, a]
/-- The value is this expression, whose operands lie below block N. -/
inductive ExAt (N : Nat) (w : World) : Value → Ex → Prop where
  | mk {o n : Int} {s : ByteArray} {ks : List Ex} {p : Option Addr} {cap : Nat} (pl : Nat → Option Addr) (cl : Nat → Nat)
      (hs : s.size ≤ 140737488351232) (hl : ks.length ≤ 140737488351232) (hc : ks.length ≤ cap)
      (hp : 0 < ks.length → ∃ b off, p = some ⟨b, off, none⟩ ∧ b < N ∧ ∀ i a, ks[i]? = some a →
        w.cell? ⟨b, off + i * 4, none⟩ = some (.int .i64 a.op) ∧ w.cell? ⟨b, off + i * 4 + 1, none⟩ = some (.int .i64 a.n) ∧ w.cell? ⟨b, off + i * 4 + 2, none⟩ = some (.string a.nm) ∧ w.cell? ⟨b, off + i * 4 + 3, none⟩ = some (.slice (pl i) a.args.length (cl i)))
      (hx : ∀ i a, ks[i]? = some a → ExAt N w (xv a.op a.n a.nm (.slice (pl i) a.args.length (cl i))) a) :
      ExAt N w (xv o n s (.slice p ks.length cap)) (.mk o n s ks)
/-- The operands of an expression: a slice of them. -/
structure ArgsAt (N : Nat) (w : World) (p : Option Addr) (cap : Nat) (pl : Nat → Option Addr) (cl : Nat → Nat) (ks : List Ex) : Prop where
  hl : ks.length ≤ 140737488351232
  hc : ks.length ≤ cap
  hp : 0 < ks.length → ∃ b off, p = some ⟨b, off, none⟩ ∧ b < N ∧ ∀ i a, ks[i]? = some a →
        w.cell? ⟨b, off + i * 4, none⟩ = some (.int .i64 a.op) ∧ w.cell? ⟨b, off + i * 4 + 1, none⟩ = some (.int .i64 a.n) ∧ w.cell? ⟨b, off + i * 4 + 2, none⟩ = some (.string a.nm) ∧ w.cell? ⟨b, off + i * 4 + 3, none⟩ = some (.slice (pl i) a.args.length (cl i))
  hx : ∀ i a, ks[i]? = some a → ExAt N w (xv a.op a.n a.nm (.slice (pl i) a.args.length (cl i))) a
theorem ExAt.form {N : Nat} {w : World} {v : Value} {e : Ex} (h : ExAt N w v e) : ∃ p cap pl cl, v = xv e.op e.n e.nm (.slice p e.args.length cap) ∧ e.nm.size ≤ 140737488351232 ∧ ArgsAt N w p cap pl cl e.args := by
  cases h with
  | mk pl cl hs hl hc hp hx => exact ⟨_, _, pl, cl, rfl, hs, hl, hc, hp, hx⟩
theorem ExAt.of {N : Nat} {w : World} {o n : Int} {s : ByteArray} {p : Option Addr} {cap : Nat} {pl : Nat → Option Addr} {cl : Nat → Nat} {ks : List Ex} (hs : s.size ≤ 140737488351232) (h : ArgsAt N w p cap pl cl ks) : ExAt N w (xv o n s (.slice p ks.length cap)) (.mk o n s ks) :=
  .mk pl cl hs h.hl h.hc h.hp h.hx
/-- Cells below N read ks they did. -/
theorem ExAt.kept {N N' : Nat} {w w' : World} (hk : ∀ b o, b < N → ∀ v, w.cell? ⟨b, o, none⟩ = some v → w'.cell? ⟨b, o, none⟩ = some v) (hN : N ≤ N') {v : Value} {e : Ex} (h : ExAt N w v e) : ExAt N' w' v e := by
  induction h with
  | mk pl cl hs hl hc hp hx ih =>
    refine .mk pl cl hs hl hc (fun h0 => ?_) (fun i a hi => ih i a hi)
    obtain ⟨b, off, e, hb, hcell⟩ := hp h0
    exact ⟨b, off, e, Nat.lt_of_lt_of_le hb hN, fun i a hi => ⟨hk _ _ hb _ (hcell i a hi).1, hk _ _ hb _ (hcell i a hi).2.1, hk _ _ hb _ (hcell i a hi).2.2.1, hk _ _ hb _ (hcell i a hi).2.2.2⟩⟩
theorem ExAt.under {N : Nat} {w w' : World} (hb : Below N w w') {v : Value} {e : Ex} (h : ExAt N w v e) : ExAt N w' v e :=
  h.kept (fun b o hlt _ hv => (hb.cell (p := ⟨b, o, none⟩) hlt).trans hv) (Nat.le_refl _)
theorem ExAt.later {w w' : World} (hb : Below w.heap.size w w') {v : Value} {e : Ex} (h : ExAt w.heap.size w v e) : ExAt w'.heap.size w' v e :=
  h.kept (fun b o hlt _ hv => (hb.cell (p := ⟨b, o, none⟩) hlt).trans hv) hb.size
theorem ExAt.wide {N N' : Nat} {w : World} (hN : N ≤ N') {v : Value} {e : Ex} (h : ExAt N w v e) : ExAt N' w v e := h.kept (fun _ _ _ _ hv => hv) hN
theorem ArgsAt.kept {N N' : Nat} {w w' : World} (hk : ∀ b o, b < N → ∀ v, w.cell? ⟨b, o, none⟩ = some v → w'.cell? ⟨b, o, none⟩ = some v) (hN : N ≤ N') {p : Option Addr} {cap : Nat} {pl : Nat → Option Addr} {cl : Nat → Nat} {ks : List Ex} (h : ArgsAt N w p cap pl cl ks) : ArgsAt N' w' p cap pl cl ks := by
  refine ⟨h.hl, h.hc, fun h0 => ?_, fun i a hi => (h.hx i a hi).kept hk hN⟩
  obtain ⟨b, off, e, hb, hcell⟩ := h.hp h0
  exact ⟨b, off, e, Nat.lt_of_lt_of_le hb hN, fun i a hi => ⟨hk _ _ hb _ (hcell i a hi).1, hk _ _ hb _ (hcell i a hi).2.1, hk _ _ hb _ (hcell i a hi).2.2.1, hk _ _ hb _ (hcell i a hi).2.2.2⟩⟩
theorem ArgsAt.under {N : Nat} {w w' : World} (hb : Below N w w') {p : Option Addr} {cap : Nat} {pl : Nat → Option Addr} {cl : Nat → Nat} {ks : List Ex} (h : ArgsAt N w p cap pl cl ks) : ArgsAt N w' p cap pl cl ks :=
  h.kept (fun b o hlt _ hv => (hb.cell (p := ⟨b, o, none⟩) hlt).trans hv) (Nat.le_refl _)
theorem ArgsAt.later {w w' : World} (hb : Below w.heap.size w w') {p : Option Addr} {cap : Nat} {pl : Nat → Option Addr} {cl : Nat → Nat} {ks : List Ex} (h : ArgsAt w.heap.size w p cap pl cl ks) : ArgsAt w'.heap.size w' p cap pl cl ks :=
  h.kept (fun b o hlt _ hv => (hb.cell (p := ⟨b, o, none⟩) hlt).trans hv) hb.size
theorem ArgsAt.nil (N : Nat) (w : World) (p : Option Addr) (cap : Nat) : ArgsAt N w p cap (fun _ => none) (fun _ => 0) [] :=
  ⟨by simp, by simp, fun h => by simp at h, fun i a hi => by simp at hi⟩
theorem grown_of_below {w w' : World} (h : Below w.heap.size w w') : w.grownBy w' none := ⟨h.os, h.tape, h.output, h.size, fun k hk _ => h.block k hk⟩
theorem below_of_grown {w w' : World} (h : w.grownBy w' none) : Below w.heap.size w w' := ⟨h.os, h.tape, h.output, h.size, fun k hk => h.block k hk (by simp)⟩
/-- A node that the walk hands over. -/
structure Nd where
  lv : Nat
  op : Int
  n : Int
  nm : ByteArray
  p : Option Addr
  k : Nat
  cap : Nat
  hl : lv ≤ 9000000
  hs : nm.size ≤ 140737488351232
  hk : k ≤ 140737488351232
def Nd.info (x : Nd) : In := ⟨x.lv, x.op, x.n, x.nm, x.k⟩
abbrev Nd.enc (x : Nd) : Array Value := #[.int .i64 x.lv, xv x.op x.n x.nm (.slice x.p x.k x.cap)]
/-- What a round that goes on keeps: all cells below n₀; from n₁ on the walk's own boxes, which their types tell from others. -/
structure Keep (n₀ n₁ : Nat) (W W' : World) : Prop where
  size : W.heap.size ≤ W'.heap.size
  blk : ∀ b cs t fr, W.heap[b]? = some (.cells cs t fr) → (b < n₀ ∨ (n₁ ≤ b ∧ (t = 24 ∨ t = 86))) → W'.heap[b]? = some (.cells cs t fr)
theorem Keep.refl (n₀ n₁ : Nat) (W : World) : Keep n₀ n₁ W W := ⟨Nat.le_refl _, fun _ _ _ _ h _ => h⟩
theorem Keep.trans {n₀ n₁ : Nat} {A B C : World} (h : Keep n₀ n₁ A B) (k : Keep n₀ n₁ B C) : Keep n₀ n₁ A C :=
  ⟨Nat.le_trans h.size k.size, fun b cs t fr hv hb => k.blk b cs t fr (h.blk b cs t fr hv hb) hb⟩
theorem cell_lt {w : World} {b o : Nat} {v : Value} (h : w.cell? ⟨b, o, none⟩ = some v) : b < w.heap.size := by
  rcases Nat.lt_or_ge b w.heap.size with g | g
  · exact g
  · simp only [World.cell?, Array.getElem?_eq_none g] at h; cases h
theorem cell_cells {w : World} {b o : Nat} {v : Value} (h : w.cell? ⟨b, o, none⟩ = some v) : ∃ cs t fr, w.heap[b]? = some (.cells cs t fr) := by
  have hb := cell_lt h
  simp only [World.cell?, Array.getElem?_eq_getElem hb] at h ⊢
  cases hx : w.heap[b] with
  | cells cs t fr => exact ⟨cs, t, fr, rfl⟩
  | _ => simp_all
theorem Keep.tree {n₀ n₁ : Nat} {W W' : World} (h : Keep n₀ n₁ W W') {b o : Nat} {v : Value} (hb : b < n₀) (hv : W.cell? ⟨b, o, none⟩ = some v) : W'.cell? ⟨b, o, none⟩ = some v := by
  obtain ⟨cs, t, fr, hc⟩ := cell_cells hv
  exact (World.cell?_of_block (w := W) (by rw [h.blk b cs t fr hc (.inl hb), hc])).trans hv
theorem Keep.of_below {n₀ n₁ : Nat} {W W' : World} (h : Below W.heap.size W W') : Keep n₀ n₁ W W' :=
  ⟨h.size, fun b _ _ _ hv _ => (h.block b (Array.getElem?_eq_some_iff.1 hv).1).trans hv⟩
/-- One block that is no such box has turned. -/
theorem Keep.grown {n₀ n₁ : Nat} {W W' : World} {row : Option Nat} (h : W.grownBy W' row) (hr : ∀ b, row = some b → ∀ cs t fr, W.heap[b]? = some (.cells cs t fr) → n₀ ≤ b ∧ (b < n₁ ∨ (t ≠ 24 ∧ t ≠ 86))) : Keep n₀ n₁ W W' := by
  refine ⟨h.size, fun b cs t fr hv hb => ?_⟩
  by_cases e : some b = row
  · obtain ⟨h1, h2⟩ := hr b e.symm cs t fr hv
    rcases hb with hb | ⟨hb, rfl | rfl⟩
    · omega
    · rcases h2 with h2 | h2
      · omega
      · exact absurd rfl h2.1
    · rcases h2 with h2 | h2
      · omega
      · exact absurd rfl h2.2
  · exact (h.block b (Array.getElem?_eq_some_iff.1 hv).1 e).trans hv
theorem Keep.set {n₀ n₁ : Nat} {W W' : World} (h : Keep n₀ n₁ W W') {b : Nat} (h0 : n₀ ≤ b) (h1 : b < n₁) (v : Value) : Keep n₀ n₁ W (W'.setCell ⟨b, 0, none⟩ v) :=
  h.trans (Keep.grown (grownBy_setCell' W' b v) fun b' e _ _ _ _ => by cases e; exact ⟨h0, .inl h1⟩)
theorem Keep.putObj {n₀ n₁ : Nat} (W : World) (l : Nat) (o o' : Obj) (h : W.heap[l]? = some o) (hc : o.isCells = false) : Keep n₀ n₁ W (W.putObj l o') :=
  Keep.grown (grownBy_putObj' W l o') fun b e cs t fr hb => by
    cases e
    rw [h] at hb
    cases hb
    cases hc
theorem ExAt.keep {n₀ n₁ : Nat} {W W' : World} (h : Keep n₀ n₁ W W') {v : Value} {e : Ex} (hx : ExAt n₀ W v e) : ExAt n₀ W' v e :=
  hx.kept (fun _ _ hb _ hv => h.tree hb hv) (Nat.le_refl _)
theorem ArgsAt.keep {n₀ n₁ : Nat} {W W' : World} (h : Keep n₀ n₁ W W') {p : Option Addr} {cap : Nat} {pl : Nat → Option Addr} {cl : Nat → Nat} {ks : List Ex} (hx : ArgsAt n₀ W p cap pl cl ks) : ArgsAt n₀ W' p cap pl cl ks :=
  hx.kept (fun _ _ hb _ hv => h.tree hb hv) (Nat.le_refl _)
end Go.Proofs.YtlnomiiphlbamaaGreatDoor.ExW
