/-
  Laws that the card uses; no conditions beside those that each states (ExMem ItRange ItMem ExNameS ExNameR ExName ExAr ExFault).
-/
import Derived.RangeFuncNested
import Derived.Deep.OwnRows
import Derived.Maps.OwnIn
import Derived.Maps.AppendAt
import Derived.Maps.OwnSet
import Derived.Maps.Views
import Derived.Deep.RegionHeld3
import Derived.Test.YtpejflgdehioaaaGreatDoorR03
namespace Go.Proofs.YtpejflgdehioaaaGreatDoor.ExW
open Go Go.RowKit Go.Proofs.YtpejflgdehioaaaGreatDoor.LexW Go.Proofs.YtpejflgdehioaaaGreatDoor.LexM Go.Proofs.YtpejflgdehioaaaGreatDoor.ExM
abbrev xv (o n : Int) (s : ByteArray) (a : Value) : Value := .agg #[.int .i64 o, .int .i64 n, .string s, a]
inductive ExAt (N : Nat) (w : World) : Value → Ex → Prop where
  | mk {o n : Int} {s : ByteArray} {ks : List Ex} {p : Option Addr} {cap : Nat} (pl : Nat → Option Addr) (cl : Nat → Nat)
      (hs : s.size ≤ 140737488351232) (hl : ks.length ≤ 140737488351232) (hc : ks.length ≤ cap)
      (hp : 0 < ks.length → ∃ b off, p = some ⟨b, off, none⟩ ∧ b < N ∧ ∀ i a, ks[i]? = some a →
        w.cell? ⟨b, off + i * 4, none⟩ = some (.int .i64 a.op) ∧ w.cell? ⟨b, off + i * 4 + 1, none⟩ = some (.int .i64 a.n) ∧ w.cell? ⟨b, off + i * 4 + 2, none⟩ = some (.string a.nm) ∧ w.cell? ⟨b, off + i * 4 + 3, none⟩ = some (.slice (pl i) a.args.length (cl i)))
      (hx : ∀ i a, ks[i]? = some a → ExAt N w (xv a.op a.n a.nm (.slice (pl i) a.args.length (cl i))) a) :
      ExAt N w (xv o n s (.slice p ks.length cap)) (.mk o n s ks)
structure ArgsAt (N : Nat) (w : World) (p : Option Addr) (cap : Nat) (pl : Nat → Option Addr) (cl : Nat → Nat) (ks : List Ex) : Prop where
  hl : ks.length ≤ 140737488351232
  hc : ks.length ≤ cap
  hp : 0 < ks.length → ∃ b off, p = some ⟨b, off, none⟩ ∧ b < N ∧ ∀ i a, ks[i]? = some a →
        w.cell? ⟨b, off + i * 4, none⟩ = some (.int .i64 a.op) ∧ w.cell? ⟨b, off + i * 4 + 1, none⟩ = some (.int .i64 a.n) ∧ w.cell? ⟨b, off + i * 4 + 2, none⟩ = some (.string a.nm) ∧ w.cell? ⟨b, off + i * 4 + 3, none⟩ = some (.slice (pl i) a.args.length (cl i))
  hx : ∀ i a, ks[i]? = some a → ExAt N w (xv a.op a.n a.nm (.slice (pl i) a.args.length (cl i))) a
theorem ExAt.form {N : Nat} {w : World} {v : Value} {e : Ex} (h : ExAt N w v e) : ∃ p cap pl cl, v = xv e.op e.n e.nm (.slice p e.args.length cap) ∧ e.nm.size ≤ 140737488351232 ∧ ArgsAt N w p cap pl cl e.args := by
  cases h with
  | mk pl cl hs hl hc hp hx => exact ⟨_, _, pl, cl, rfl, hs, hl, hc, hp, hx⟩
theorem ExAt.of {N : Nat} {w : World} {o n : Int} {s : ByteArray} {p : Option Addr} {cap : Nat} {pl : Nat → Option Addr} {cl : Nat → Nat} {ks : List Ex} (hs : s.size ≤ 140737488351232) (h : ArgsAt N w p cap pl cl ks) : ExAt N w (xv o n s (.slice p ks.length cap)) (.mk o n s ks) :=
  .mk pl cl hs h.hl h.hc h.hp h.hx
theorem ExAt.kept {N N' : Nat} {w w' : World} (hk : ∀ b o, b < N → ∀ v, w.cell? ⟨b, o, none⟩ = some v → w'.cell? ⟨b, o, none⟩ = some v) (hN : N ≤ N') {v : Value} {e : Ex} (h : ExAt N w v e) : ExAt N' w' v e := by
  induction h with
  | mk pl cl hs hl hc hp hx ih =>
    refine .mk pl cl hs hl hc (fun h0 => ?_) (fun i a hi => ih i a hi); obtain ⟨b, off, e, hb, hcell⟩ := hp h0; exact ⟨b, off, e, Nat.lt_of_lt_of_le hb hN, fun i a hi => ⟨hk _ _ hb _ (hcell i a hi).1, hk _ _ hb _ (hcell i a hi).2.1, hk _ _ hb _ (hcell i a hi).2.2.1, hk _ _ hb _ (hcell i a hi).2.2.2⟩⟩
theorem ExAt.under {N : Nat} {w w' : World} (hb : Below N w w') {v : Value} {e : Ex} (h : ExAt N w v e) : ExAt N w' v e :=
  h.kept (fun b o hlt _ hv => (hb.cell (p := ⟨b, o, none⟩) hlt).trans hv) (Nat.le_refl _)
theorem ExAt.later {w w' : World} (hb : Below w.heap.size w w') {v : Value} {e : Ex} (h : ExAt w.heap.size w v e) : ExAt w'.heap.size w' v e :=
  h.kept (fun b o hlt _ hv => (hb.cell (p := ⟨b, o, none⟩) hlt).trans hv) hb.size
theorem ExAt.wide {N N' : Nat} {w : World} (hN : N ≤ N') {v : Value} {e : Ex} (h : ExAt N w v e) : ExAt N' w v e := h.kept (fun _ _ _ _ hv => hv) hN
theorem ArgsAt.kept {N N' : Nat} {w w' : World} (hk : ∀ b o, b < N → ∀ v, w.cell? ⟨b, o, none⟩ = some v → w'.cell? ⟨b, o, none⟩ = some v) (hN : N ≤ N') {p : Option Addr} {cap : Nat} {pl : Nat → Option Addr} {cl : Nat → Nat} {ks : List Ex} (h : ArgsAt N w p cap pl cl ks) : ArgsAt N' w' p cap pl cl ks := by
  refine ⟨h.hl, h.hc, fun h0 => ?_, fun i a hi => (h.hx i a hi).kept hk hN⟩; obtain ⟨b, off, e, hb, hcell⟩ := h.hp h0; exact ⟨b, off, e, Nat.lt_of_lt_of_le hb hN, fun i a hi => ⟨hk _ _ hb _ (hcell i a hi).1, hk _ _ hb _ (hcell i a hi).2.1, hk _ _ hb _ (hcell i a hi).2.2.1, hk _ _ hb _ (hcell i a hi).2.2.2⟩⟩
theorem ArgsAt.under {N : Nat} {w w' : World} (hb : Below N w w') {p : Option Addr} {cap : Nat} {pl : Nat → Option Addr} {cl : Nat → Nat} {ks : List Ex} (h : ArgsAt N w p cap pl cl ks) : ArgsAt N w' p cap pl cl ks :=
  h.kept (fun b o hlt _ hv => (hb.cell (p := ⟨b, o, none⟩) hlt).trans hv) (Nat.le_refl _)
theorem ArgsAt.later {w w' : World} (hb : Below w.heap.size w w') {p : Option Addr} {cap : Nat} {pl : Nat → Option Addr} {cl : Nat → Nat} {ks : List Ex} (h : ArgsAt w.heap.size w p cap pl cl ks) : ArgsAt w'.heap.size w' p cap pl cl ks :=
  h.kept (fun b o hlt _ hv => (hb.cell (p := ⟨b, o, none⟩) hlt).trans hv) hb.size
theorem ArgsAt.nil (N : Nat) (w : World) (p : Option Addr) (cap : Nat) : ArgsAt N w p cap (fun _ => none) (fun _ => 0) [] :=
  ⟨by simp, by simp, fun h => by simp at h, fun i a hi => by simp at hi⟩
theorem grown_of_below {w w' : World} (h : Below w.heap.size w w') : w.grownBy w' none := ⟨h.os, h.tape, h.output, h.size, fun k hk _ => h.block k hk⟩
theorem below_of_grown {w w' : World} (h : w.grownBy w' none) : Below w.heap.size w w' := ⟨h.os, h.tape, h.output, h.size, fun k hk => h.block k hk (by simp)⟩
structure Nd where
  lv : Nat
  op : Int
  n : Int
  nm : ByteArray
  p : Option Addr
  k : Nat
  cap : Nat
  hl : lv ≤ 100000
  hs : nm.size ≤ 140737488351232
  hk : k ≤ 140737488351232
def Nd.info (x : Nd) : In := ⟨x.lv, x.op, x.n, x.nm, x.k⟩
abbrev Nd.enc (x : Nd) : Array Value := #[.int .i64 x.lv, xv x.op x.n x.nm (.slice x.p x.k x.cap)]
structure Keep (n₀ n₁ : Nat) (W W' : World) : Prop where
  size : W.heap.size ≤ W'.heap.size
  blk : ∀ b cs t fr, W.heap[b]? = some (.cells cs t fr) → (b < n₀ ∨ (n₁ ≤ b ∧ (t = 43 ∨ t = 168))) → W'.heap[b]? = some (.cells cs t fr)
theorem Keep.refl (n₀ n₁ : Nat) (W : World) : Keep n₀ n₁ W W := ⟨Nat.le_refl _, fun _ _ _ _ h _ => h⟩
theorem Keep.trans {n₀ n₁ : Nat} {A B C : World} (h : Keep n₀ n₁ A B) (k : Keep n₀ n₁ B C) : Keep n₀ n₁ A C :=
  ⟨Nat.le_trans h.size k.size, fun b cs t fr hv hb => k.blk b cs t fr (h.blk b cs t fr hv hb) hb⟩
theorem cell_lt {w : World} {b o : Nat} {v : Value} (h : w.cell? ⟨b, o, none⟩ = some v) : b < w.heap.size := by
  rcases Nat.lt_or_ge b w.heap.size with g | g
  · exact g
  · simp only [World.cell?, Array.getElem?_eq_none g] at h; cases h
theorem cell_cells {w : World} {b o : Nat} {v : Value} (h : w.cell? ⟨b, o, none⟩ = some v) : ∃ cs t fr, w.heap[b]? = some (.cells cs t fr) := by
  have hb := cell_lt h; simp only [World.cell?, Array.getElem?_eq_getElem hb] at h ⊢; cases hx : w.heap[b] with
  | cells cs t fr => exact ⟨cs, t, fr, rfl⟩
  | _ => simp_all
theorem Keep.tree {n₀ n₁ : Nat} {W W' : World} (h : Keep n₀ n₁ W W') {b o : Nat} {v : Value} (hb : b < n₀) (hv : W.cell? ⟨b, o, none⟩ = some v) : W'.cell? ⟨b, o, none⟩ = some v := by
  obtain ⟨cs, t, fr, hc⟩ := cell_cells hv; exact (World.cell?_of_block (w := W) (by rw [h.blk b cs t fr hc (.inl hb), hc])).trans hv
theorem Keep.of_below {n₀ n₁ : Nat} {W W' : World} (h : Below W.heap.size W W') : Keep n₀ n₁ W W' :=
  ⟨h.size, fun b _ _ _ hv _ => (h.block b (Array.getElem?_eq_some_iff.1 hv).1).trans hv⟩
theorem Keep.grown {n₀ n₁ : Nat} {W W' : World} {row : Option Nat} (h : W.grownBy W' row) (hr : ∀ b, row = some b → ∀ cs t fr, W.heap[b]? = some (.cells cs t fr) → n₀ ≤ b ∧ (b < n₁ ∨ (t ≠ 43 ∧ t ≠ 168))) : Keep n₀ n₁ W W' := by
  refine ⟨h.size, fun b cs t fr hv hb => ?_⟩; by_cases e : some b = row
  · obtain ⟨h1, h2⟩ := hr b e.symm cs t fr hv; rcases hb with hb | ⟨hb, rfl | rfl⟩
    · omega
    · rcases h2 with h2 | h2
      · omega
      · exact absurd rfl h2.1
    · rcases h2 with h2 | h2
      · omega
      · exact absurd rfl h2.2
  · exact (h.block b (Array.getElem?_eq_some_iff.1 hv).1 e).trans hv
theorem Keep.set {n₀ n₁ : Nat} {W W' : World} (h : Keep n₀ n₁ W W') {b : Nat} (h0 : n₀ ≤ b) (h1 : b < n₁) (v : Value) : Keep n₀ n₁ W (W'.setCell ⟨b, 0, none⟩ v) :=
  h.trans (Keep.grown (grownBy_setCell' W' b v) fun b' e _ _ _ _ => by cases e; exact ⟨h0, .inl h1⟩)
theorem Keep.putObj {n₀ n₁ : Nat} (W : World) (l : Nat) (o o' : Obj) (h : W.heap[l]? = some o) (hc : o.isCells = false) : Keep n₀ n₁ W (W.putObj l o') :=
  Keep.grown (grownBy_putObj' W l o') fun b e cs t fr hb => by
    cases e; rw [h] at hb; cases hb; cases hc
theorem ExAt.keep {n₀ n₁ : Nat} {W W' : World} (h : Keep n₀ n₁ W W') {v : Value} {e : Ex} (hx : ExAt n₀ W v e) : ExAt n₀ W' v e :=
  hx.kept (fun _ _ hb _ hv => h.tree hb hv) (Nat.le_refl _)
theorem ArgsAt.keep {n₀ n₁ : Nat} {W W' : World} (h : Keep n₀ n₁ W W') {p : Option Addr} {cap : Nat} {pl : Nat → Option Addr} {cl : Nat → Nat} {ks : List Ex} (hx : ArgsAt n₀ W p cap pl cl ks) : ArgsAt n₀ W' p cap pl cl ks :=
  hx.kept (fun _ _ hb _ hv => h.tree hb hv) (Nat.le_refl _)
end Go.Proofs.YtpejflgdehioaaaGreatDoor.ExW
namespace Go.Proofs.YtpejflgdehioaaaGreatDoor.ItW
open Go Go.RowKit Go.Proofs.YtpejflgdehioaaaGreatDoor.ExW
def Tells {α : Type} (F : Fence) (n : Nat) (P : Program) (g : Nat) (lb : Array Value) (encs : α → Array Value) (Kp : World → World → Prop) (S Sp : List α → Prop) (N : Nat) (Q : α → World → Prop) (w : World) : Prop :=
  ∀ (l : Nat) (J Jx : List α → World → Prop) (W : World), Below w.heap.size w W → AbidesFrom W.heap.size J → AbidesFrom W.heap.size Jx →
    (∀ bef x A, J bef A → Q x A → bef.length < N → YieldAt F (n - 1) P l (encs x) A fun e B =>
      (e = .returned (.bool true) ∧ J (bef ++ [x]) B ∧ Kp A B) ∨ (e = .returned (.bool false) ∧ Jx (bef ++ [x]) B ∧ Kp A B)) →
    J [] W → CallsIn F n P g (#[.func (.yield l) #[] #[]] ++ lb) W fun e B => (∃ v, e = .returned v) ∧ ((∃ xs, S xs ∧ J xs B) ∨ (∃ bef, Sp bef ∧ Jx bef B))
structure Near (A B : World) : Prop where
  size : B.heap.size = A.heap.size
  blk : ∀ (b : Nat) (o : Obj), A.heap[b]? = some o → (∀ r, o ≠ .loop r) → B.heap[b]? = some o
theorem Near.put {A : World} {l : Nat} {r r' : Loop} (h : A.heap[l]? = some (.loop r)) : Near A (A.putObj l (.loop r')) := by
  refine ⟨by simp, fun b o hb hn => ?_⟩; have : b ≠ l := (fun e => by subst e; rw [h] at hb; cases hb; exact hn r rfl); exact (World.putObj_heap_other this).trans hb
theorem Near.cell {A B : World} (h : Near A B) {b o : Nat} {v : Value} (hv : A.cell? ⟨b, o, none⟩ = some v) : B.cell? ⟨b, o, none⟩ = some v := by
  obtain ⟨cs, t, fr, hc⟩ := cell_cells hv; exact (World.cell?_of_block (w := A) (by rw [h.blk b _ hc (fun r e => by cases e), hc])).trans hv
def leftT {α : Type} (B : Nat) (Kp : World → World → Prop) (I : List α → World → Prop) (Ix : Code → List α → World → Prop) (xs : List α) (W : World) : Exit → Act → World → Prop
  | .normal, _, W' => KeepsFrom B W W' ∧ Kp W W' ∧ I xs W'
  | .ret, _, W' => KeepsFrom B W W' ∧ Kp W W' ∧ Ix .ret xs W'
  | .exit id, _, W' => KeepsFrom B W W' ∧ Kp W W' ∧ Ix (.exit id) xs W'
  | .goto t, _, W' => KeepsFrom B W W' ∧ Kp W W' ∧ Ix (.goto t) xs W'
  | .panic _, _, _ => False
  | .outgrown, _, _ => False
section
variable {F : Fence} {n : Nat} {P : Program}
set_option maxHeartbeats 1000000 in
theorem range_tells {α : Type} {g : Operand} {ps : Array Tmp} {assign body : Code} {Q : Exit → Act → World → Prop} {a : Act} {w : World}
    (hro : F.round = none) (h1 : 1 ≤ n) {gf : Nat} {lb : Array Value} (hg : a.eval g = .func (.func gf) #[] lb) (hFg : F.fn gf) (eg : ∀ args w, (callFunc gf args).run P w = .ok (.enter gf args) w)
    {encs : α → Array Value} {Kp : World → World → Prop} {S Sp : List α → Prop} {N : Nat} {R : α → World → Prop} (hseq : Tells F (n - 1) P gf lb encs Kp S Sp N R w)
    (hKt : ∀ {A B C : World}, Kp A B → Kp B C → Kp A C) (hKb : ∀ (W : World) (l : Nat) (o o' : Obj), w.heap.size ≤ l → W.heap[l]? = some o → o.isCells = false → o.isWalk = false → Kp W (W.putObj l o')) (hps : ∀ x, (encs x).size = ps.size)
    (I : List α → World → Prop) (Ix : Code → List α → World → Prop) (hI : OwnFrom w.heap.size I) (hIx : ∀ c, OwnFrom w.heap.size (Ix c)) (h0 : I [] w)
    (hround : ∀ (l : Nat) (bef : List α) (x : α) (W : World), w.heap.size ≤ l → I bef W → R x W → bef.length < N →
      assign.wpIn (F.inRound l) (n - 1 - 1) P (Exit.then (fun a' Wa => KeepsFrom w.heap.size W Wa ∧ Kp W Wa ∧ I bef Wa ∧
        ∀ Wb, Near Wa Wb → I bef Wb → body.wpIn (F.inRound l) (n - 1 - 1) P (leftT w.heap.size Kp I Ix (bef ++ [x]) Wb) a' Wb) (fun _ _ _ => False))
        { tmps := (ps.zip (encs x)).foldl (fun t (p, v) => t.setIfInBounds p v) a.tmps, defers := [] } W)
    (hdone : ∀ (D : Nat) (xs : List α) (W : World), w.heap.size ≤ D → S xs → I xs W → W.heap[D]? = some (.deferred (some [])) → Q .normal { a with defers := { target := .collected D, args := #[] } :: a.defers } W)
    (hstop : ∀ (D : Nat) (c : Code) (bef : List α) (W : World), w.heap.size ≤ D → Sp bef → Ix c bef W → W.heap[D]? = some (.deferred (some [])) → c.wpIn F n P Q { a with defers := { target := .collected D, args := #[] } :: a.defers } W) :
    (Code.rangeFunc g ps assign body).wpIn F n P Q a w := by
  refine (wpIn_rangeFunc fun fn hfn => ?_); rw [hro]
  -- The record of the loop, and the world in which the iterator is called.
  obtain ⟨rec, hrec⟩ : ∃ rec : LoopState → Option Code → Loop, rec = fun st pe => { state := st, pending := pe, fn, tmps := a.tmps, params := ps, assign, body, defers := w.heap.size } := ⟨_, rfl⟩
  have hp : ∀ st pe x, (encs x).size = (rec st pe).params.size := (fun st pe x => by rw [hrec]; exact hps x); have hsz : (w.alloc (.deferred (some []))).heap.size = w.heap.size + 1 := (by simp); obtain ⟨W1, hW1⟩ : ∃ W1, (w.alloc (.deferred (some []))).alloc (.loop (rec .ready none)) = W1 := ⟨_, rfl⟩; have hz1 : W1.heap.size = w.heap.size + 2 := (by rw [← hW1]; simp); have held : W1.heap[w.heap.size + 1]? = some (.loop (rec .ready none)) ∧ W1.heap[w.heap.size]? = some (.deferred (some [])) := by
    rw [← hW1]; refine ⟨?_, (Below.heap_alloc _ _ _ (by simp)).trans (World.alloc_heap_new w _)⟩; have := World.alloc_heap_new (w.alloc (.deferred (some []))) (.loop (rec .ready none))
    rwa [hsz] at this
  have low : Below w.heap.size w W1 := (by rw [← hW1]; exact ((Below.refl _ w).alloc (Nat.le_refl _) _).alloc (by simp) _); have start : I [] W1 := (by rw [← hW1]; exact hI.alloc _ (hI.alloc _ h0)); have wide : ∀ {β : Type} {X : β → World → Prop}, OwnFrom w.heap.size X → AbidesFrom W1.heap.size X := fun hX s A B row hs hg hr =>
    hX s A B row hs hg fun r e => by obtain ⟨h, o, ho, hw⟩ := hr r e; exact ⟨by omega, o, ho, Obj.not_cells_of_walk hw⟩
  have fast : ∀ {A B : World} {row : Option Nat} {b : Nat} {o : Obj}, A.grownBy B row → (∀ r, row = some r → W1.heap.size ≤ r ∧ ∃ o : Obj, A.heap[r]? = some o ∧ o.isWalk = true) → b < W1.heap.size → A.heap[b]? = some o → B.heap[b]? = some o := fun {A B row b o} hg hr hb ho =>
    (hg.block b (Array.getElem?_eq_some_iff.1 ho).1 (fun e => by have := (hr b e.symm).1; omega)).trans ho
  refine ⟨w.heap.size + 1, [{ target := .collected w.heap.size, args := #[] }], W1, { target := .fn (.func gf) lb, args := #[.func (.yield (w.heap.size + 1)) #[] #[]] }, W1, gf, #[.func (.yield (w.heap.size + 1)) #[] #[]] ++ lb, W1, ?_, ?_, ?_, ?_, fun _ => h1, ?_⟩
  · rw [← hW1, hrec]; exact run_enterLoop_outer _ _ _ _ _
  · simp only [resolve, hg]; simp [go_sem]
  · intro f' hf'; simp [Target.leads] at hf'; subst hf'; exact hFg
  · simp [invoke, go_sem, eg]
  · refine (hseq (w.heap.size + 1)
      (fun bef W => (I bef W ∧ W.heap[w.heap.size + 1]? = some (.loop (rec .ready none))) ∧ W.heap[w.heap.size]? = some (.deferred (some [])))
      (fun bef W => ∃ c, (Ix c bef W ∧ W.heap[w.heap.size + 1]? = some (.loop (rec .done (some c)))) ∧ W.heap[w.heap.size]? = some (.deferred (some [])))
      W1 low
      (fun s A B row hs hg hr => ⟨⟨wide hI s A B row hs.1.1 hg hr, fast hg hr (by omega) hs.1.2⟩, fast hg hr (by omega) hs.2⟩)
      (fun s A B row ⟨c, hs⟩ hg hr => ⟨c, ⟨wide (hIx c) s A B row hs.1.1 hg hr, fast hg hr (by omega) hs.1.2⟩, fast hg hr (by omega) hs.2⟩)
      ?_ ⟨⟨start, held.1⟩, held.2⟩).mono ?_
    · rintro bef x W ⟨⟨hi, hl⟩, hk⟩ hq hlen; have hy := run_yield (P := P) (args := encs x) hl (hp _ _ x); rw [hrec] at hy; refine ⟨fn, _, assign, body, hy, roundIn_of_wpIn hfn (wpIn_mono (hround _ bef x W (by omega) hi hq hlen) ?_)⟩; clear hy hi hq hround; rintro e a' Wa ha; cases e with
      | normal =>
        obtain ⟨kf, kp, hia, hb⟩ := ha; have hla := kf.same _ _ (by omega) hl rfl; have hka := kf.same _ _ (Nat.le_refl _) hk rfl; have hlt := (Array.getElem?_eq_some_iff.1 hla).1; refine ⟨_, run_beginRound hla (by rw [hrec]), ?_⟩; have hib := hI.putObj (.loop { rec .ready none with state := .busy }) hia (by omega) hla rfl; have hlb : (Wa.putObj (w.heap.size + 1) (.loop { rec .ready none with state := .busy })).heap[w.heap.size + 1]? = some (.loop { rec .ready none with state := .busy }) := World.putObj_heap_same hlt; have hkb : (Wa.putObj (w.heap.size + 1) (.loop { rec .ready none with state := .busy })).heap[w.heap.size]? = some (.deferred (some [])) := (World.putObj_heap_other (by omega)).trans hka; have kpb := hKt kp (hKb _ _ _ (.loop { rec .ready none with state := .busy }) (by omega) hla rfl rfl); refine wpIn_mono (hb _ (Near.put hla) hib) ?_; clear hb hib; generalize Wa.putObj (w.heap.size + 1) (.loop { rec .ready none with state := .busy }) = Wb at *
        have fin : ∀ (jump : Option Code) (W3 : World), KeepsFrom w.heap.size Wb W3 → ∃ W4, (Instr.endRound (w.heap.size + 1) jump).run P W3 = .ok (.bool jump.isNone) W4 ∧
            W4 = W3.putObj (w.heap.size + 1) (.loop (rec (if jump.isNone then .ready else .done) jump)) ∧ W3.heap[w.heap.size + 1]? = some (.loop { rec .ready none with state := .busy }) ∧
            W4.heap[w.heap.size + 1]? = some (.loop (rec (if jump.isNone then .ready else .done) jump)) ∧ W4.heap[w.heap.size]? = some (.deferred (some [])) := fun jump W3 k3 => by
          have h3 := k3.same _ _ (by omega) hlb rfl; have he := run_endRound (P := P) jump h3; refine ⟨_, ?_, rfl, h3, World.putObj_heap_same (Array.getElem?_eq_some_iff.1 h3).1, (World.putObj_heap_other (by omega)).trans (k3.same _ _ (Nat.le_refl _) hkb rfl)⟩; rw [he, hrec]
        rintro e a3 W3 hq; have leave : ∀ (c : Code), KeepsFrom w.heap.size Wb W3 ∧ Kp Wb W3 ∧ Ix c (bef ++ [x]) W3 → ∃ v W4, (Instr.endRound (w.heap.size + 1) (some c)).run P W3 = .ok v W4 ∧ (v = .bool false ∧ (∃ c, (Ix c (bef ++ [x]) W4 ∧ W4.heap[w.heap.size + 1]? = some (.loop (rec .done (some c)))) ∧ W4.heap[w.heap.size]? = some (.deferred (some []))) ∧ Kp W W4) := fun c ⟨k3, kp3, i3⟩ => by
          obtain ⟨W4, r4, e4, h3, l4, d4⟩ := fin (some c) W3 k3; exact ⟨_, W4, r4, rfl, ⟨c, ⟨by rw [e4]; exact (hIx c).putObj _ i3 (by omega) h3 rfl, l4⟩, d4⟩, hKt (hKt kpb kp3) (by rw [e4]; exact hKb _ _ _ _ (by omega) h3 rfl rfl)⟩
        cases e with
        | normal =>
          obtain ⟨k3, kp3, i3⟩ := hq; obtain ⟨W4, r4, e4, h3, l4, d4⟩ := fin none W3 k3; exact ⟨_, W4, r4, .inl ⟨rfl, ⟨⟨by rw [e4]; exact hI.putObj _ i3 (by omega) h3 rfl, l4⟩, d4⟩, hKt (hKt kpb kp3) (by rw [e4]; exact hKb _ _ _ _ (by omega) h3 rfl rfl)⟩⟩
        | ret => obtain ⟨v, W4, r4, rfl, h4⟩ := leave .ret hq; exact ⟨_, W4, r4, .inr ⟨rfl, h4⟩⟩
        | exit id => obtain ⟨v, W4, r4, rfl, h4⟩ := leave (.exit id) hq; exact ⟨_, W4, r4, .inr ⟨rfl, h4⟩⟩
        | goto t => obtain ⟨v, W4, r4, rfl, h4⟩ := leave (.goto t) hq; exact ⟨_, W4, r4, .inr ⟨rfl, h4⟩⟩
        | panic ch => exact hq.elim
        | outgrown => exact hq.elim
      | _ => exact ha.elim
    · rintro e W2 ⟨⟨v, rfl⟩, (⟨xs, hS, ⟨hi, hl⟩, hk⟩ | ⟨bef, hSp, c, ⟨hi, hl⟩, hk⟩)⟩
      · have hr := run_endLoop (P := P) hl (by rw [hrec]; simp); exact ⟨none, _, by rw [hr, hrec], hdone _ xs _ (Nat.le_refl _) hS (hI.putObj _ hi (by omega) hl rfl) ((World.putObj_heap_other (by omega)).trans hk)⟩
      · have hr := run_endLoop (P := P) hl (by rw [hrec]; simp); exact ⟨some c, _, by rw [hr, hrec], hstop _ c bef _ (Nat.le_refl _) hSp ((hIx c).putObj _ hi (by omega) hl rfl) ((World.putObj_heap_other (by omega)).trans hk)⟩
end
end Go.Proofs.YtpejflgdehioaaaGreatDoor.ItW
namespace Go.Proofs.YtpejflgdehioaaaGreatDoor.ItW
open Go Go.RowKit Go.Proofs.YtpejflgdehioaaaGreatDoor.LexW Go.Proofs.YtpejflgdehioaaaGreatDoor.LexM Go.Proofs.YtpejflgdehioaaaGreatDoor.ExM Go.Proofs.YtpejflgdehioaaaGreatDoor.ExW Go.Proofs.YtpejflgdehioaaaGreatDoor.ItM
open Go.Proofs.YtpejflgdehioaaaGreatDoor.ClM (Fld)
abbrev iv (kd o n : Int) (en : ByteArray) (a4 : Value) (nm ix : ByteArray) (a7 a8 a9 a10 a11 : Value) : Value :=
  .agg #[.int .i64 kd, .int .i64 o, .int .i64 n, .string en, a4, .string nm, .string ix, a7, a8, a9, a10, a11]
abbrev plv (d mb : Nat) : Value := .agg #[.int .i64 d, .map (some mb)]
def StA (N : Nat) (w : World) (v : Value) (l : List ByteArray) : Prop :=
  ∃ p cap, v = .slice p l.length cap ∧ l.length * 16 ≤ 140737488351232 ∧ l.length ≤ cap ∧ (∀ s ∈ l, s.size ≤ 140737488351232) ∧
    (0 < l.length → ∃ b off, p = some ⟨b, off, none⟩ ∧ b < N ∧ ∀ (i : Nat) (s : ByteArray), l[i]? = some s → w.cell? ⟨b, off + i, none⟩ = some (.string s))
def WtA (N : Nat) (w : World) (v : Value) (l : List Wt) : Prop :=
  ∃ p cap, v = .slice p l.length cap ∧ l.length * 32 ≤ 140737488351232 ∧ l.length ≤ cap ∧
    (0 < l.length → ∃ b off, p = some ⟨b, off, none⟩ ∧ b < N ∧ ∀ (i : Nat) (t : Wt), l[i]? = some t → w.cell? ⟨b, off + i * 4, none⟩ = some (.int .i64 t.lo) ∧ w.cell? ⟨b, off + i * 4 + 1, none⟩ = some (.int .i64 t.hi) ∧
      w.cell? ⟨b, off + i * 4 + 2, none⟩ = some (.int .i64 t.wt) ∧ w.cell? ⟨b, off + i * 4 + 3, none⟩ = some (.bool t.ea))
structure C12 (w : World) (b o : Nat) (x : It) (V : Nat → Value) : Prop where
  c0 : w.cell? ⟨b, o, none⟩ = some (.int .i64 x.kd)
  c1 : w.cell? ⟨b, o + 1, none⟩ = some (.int .i64 x.e.op)
  c2 : w.cell? ⟨b, o + 2, none⟩ = some (.int .i64 x.e.n)
  c3 : w.cell? ⟨b, o + 3, none⟩ = some (.string x.e.nm)
  c4 : w.cell? ⟨b, o + 4, none⟩ = some (V 4)
  c5 : w.cell? ⟨b, o + 5, none⟩ = some (.string x.nm)
  c6 : w.cell? ⟨b, o + 6, none⟩ = some (.string x.ix)
  c7 : w.cell? ⟨b, o + 7, none⟩ = some (V 7)
  c8 : w.cell? ⟨b, o + 8, none⟩ = some (V 8)
  c9 : w.cell? ⟨b, o + 9, none⟩ = some (V 9)
  c10 : w.cell? ⟨b, o + 10, none⟩ = some (V 10)
  c11 : w.cell? ⟨b, o + 11, none⟩ = some (V 11)
inductive ItsA (N : Nat) (w : World) : Value → List It → Prop where
  | mk (p : Option Addr) (cap : Nat) (l : List It) (V : Nat → Nat → Value)
      (hl : l.length * 216 ≤ 140737488351232) (hc : l.length ≤ cap)
      (hp : 0 < l.length → ∃ b off, p = some ⟨b, off, none⟩ ∧ b < N ∧ ∀ (i : Nat) (x : It), l[i]? = some x → C12 w b (off + i * 12) x (V i))
      (hn : ∀ (i : Nat) (x : It), l[i]? = some x → x.nm.size ≤ 140737488351232 ∧ x.ix.size ≤ 140737488351232)
      (he : ∀ (i : Nat) (x : It), l[i]? = some x → ExAt N w (xv x.e.op x.e.n x.e.nm (V i 4)) x.e)
      (hw : ∀ (i : Nat) (x : It), l[i]? = some x → WtA N w (V i 7) x.ws)
      (hi : ∀ (i : Nat) (x : It), l[i]? = some x → ItsA N w (V i 8) x.it)
      (hx : ∀ (i : Nat) (x : It), l[i]? = some x → ItsA N w (V i 9) x.el)
      (hb : ∀ (i : Nat) (x : It), l[i]? = some x → StA N w (V i 10) x.bf)
      (hf : ∀ (i : Nat) (x : It), l[i]? = some x → StA N w (V i 11) x.af) : ItsA N w (.slice p l.length cap) l
structure IV (N : Nat) (w : World) (a4 a7 a8 a9 a10 a11 : Value) (x : It) : Prop where
  nm : x.nm.size ≤ 140737488351232
  ix : x.ix.size ≤ 140737488351232
  ex : ExAt N w (xv x.e.op x.e.n x.e.nm a4) x.e
  wt : WtA N w a7 x.ws
  its : ItsA N w a8 x.it
  els : ItsA N w a9 x.el
  bfs : StA N w a10 x.bf
  afs : StA N w a11 x.af
structure RowI (N : Nat) (w : World) (p : Option Addr) (cap : Nat) (V : Nat → Nat → Value) (l : List It) : Prop where
  hl : l.length * 216 ≤ 140737488351232
  hc : l.length ≤ cap
  hp : 0 < l.length → ∃ b off, p = some ⟨b, off, none⟩ ∧ b < N ∧ ∀ (i : Nat) (x : It), l[i]? = some x → C12 w b (off + i * 12) x (V i)
  hv : ∀ (i : Nat) (x : It), l[i]? = some x → IV N w (V i 4) (V i 7) (V i 8) (V i 9) (V i 10) (V i 11) x
theorem ItsA.form {N : Nat} {w : World} {v : Value} {l : List It} (h : ItsA N w v l) : ∃ p cap V, v = .slice p l.length cap ∧ RowI N w p cap V l := by
  cases h with
  | mk p cap _ V hl hc hp hn he hw hi hx hb hf => exact ⟨p, cap, V, rfl, hl, hc, hp, fun i x h => ⟨(hn i x h).1, (hn i x h).2, he i x h, hw i x h, hi i x h, hx i x h, hb i x h, hf i x h⟩⟩
theorem RowI.its {N : Nat} {w : World} {p : Option Addr} {cap : Nat} {V : Nat → Nat → Value} {l : List It} (h : RowI N w p cap V l) : ItsA N w (.slice p l.length cap) l :=
  .mk p cap l V h.hl h.hc h.hp (fun i x g => ⟨(h.hv i x g).nm, (h.hv i x g).ix⟩) (fun i x g => (h.hv i x g).ex) (fun i x g => (h.hv i x g).wt) (fun i x g => (h.hv i x g).its) (fun i x g => (h.hv i x g).els) (fun i x g => (h.hv i x g).bfs) (fun i x g => (h.hv i x g).afs)
theorem StA.kept {N N' : Nat} {w w' : World} (hk : ∀ b o, b < N → ∀ v, w.cell? ⟨b, o, none⟩ = some v → w'.cell? ⟨b, o, none⟩ = some v) (hN : N ≤ N') {v : Value} {l : List ByteArray} (h : StA N w v l) : StA N' w' v l := by
  obtain ⟨p, cap, e, h1, h2, h3, h4⟩ := h; exact ⟨p, cap, e, h1, h2, h3, fun h0 => by obtain ⟨b, off, e, hb, hc⟩ := h4 h0; exact ⟨b, off, e, by omega, fun i s hi => hk _ _ hb _ (hc i s hi)⟩⟩
theorem WtA.kept {N N' : Nat} {w w' : World} (hk : ∀ b o, b < N → ∀ v, w.cell? ⟨b, o, none⟩ = some v → w'.cell? ⟨b, o, none⟩ = some v) (hN : N ≤ N') {v : Value} {l : List Wt} (h : WtA N w v l) : WtA N' w' v l := by
  obtain ⟨p, cap, e, h1, h2, h4⟩ := h; exact ⟨p, cap, e, h1, h2, fun h0 => by obtain ⟨b, off, e, hb, hc⟩ := h4 h0; exact ⟨b, off, e, by omega, fun i s hi => ⟨hk _ _ hb _ (hc i s hi).1, hk _ _ hb _ (hc i s hi).2.1, hk _ _ hb _ (hc i s hi).2.2.1, hk _ _ hb _ (hc i s hi).2.2.2⟩⟩⟩
theorem C12.kept {w w' : World} {b o : Nat} {x : It} {V : Nat → Value} (hk : ∀ o v, w.cell? ⟨b, o, none⟩ = some v → w'.cell? ⟨b, o, none⟩ = some v) (h : C12 w b o x V) : C12 w' b o x V :=
  ⟨hk _ _ h.c0, hk _ _ h.c1, hk _ _ h.c2, hk _ _ h.c3, hk _ _ h.c4, hk _ _ h.c5, hk _ _ h.c6, hk _ _ h.c7, hk _ _ h.c8, hk _ _ h.c9, hk _ _ h.c10, hk _ _ h.c11⟩
theorem ItsA.kept {N N' : Nat} {w w' : World} (hk : ∀ b o, b < N → ∀ v, w.cell? ⟨b, o, none⟩ = some v → w'.cell? ⟨b, o, none⟩ = some v) (hN : N ≤ N') {v : Value} {l : List It} (h : ItsA N w v l) : ItsA N' w' v l := by
  induction h with
  | mk p cap l V hl hc hp hn he hw hi hx hb hf ih1 ih2 =>
    refine .mk p cap l V hl hc (fun h0 => ?_) hn (fun i x g => (he i x g).kept hk hN) (fun i x g => (hw i x g).kept hk hN) ih1 ih2 (fun i x g => (hb i x g).kept hk hN) (fun i x g => (hf i x g).kept hk hN); obtain ⟨b, off, e, hlt, hcell⟩ := hp h0; exact ⟨b, off, e, by omega, fun i x g => (hcell i x g).kept (fun o v hv => hk _ _ hlt _ hv)⟩
theorem IV.kept {N N' : Nat} {w w' : World} (hk : ∀ b o, b < N → ∀ v, w.cell? ⟨b, o, none⟩ = some v → w'.cell? ⟨b, o, none⟩ = some v) (hN : N ≤ N') {a4 a7 a8 a9 a10 a11 : Value} {x : It} (h : IV N w a4 a7 a8 a9 a10 a11 x) : IV N' w' a4 a7 a8 a9 a10 a11 x :=
  ⟨h.nm, h.ix, h.ex.kept hk hN, h.wt.kept hk hN, h.its.kept hk hN, h.els.kept hk hN, h.bfs.kept hk hN, h.afs.kept hk hN⟩
theorem RowI.kept {N N' : Nat} {w w' : World} (hk : ∀ b o, b < N → ∀ v, w.cell? ⟨b, o, none⟩ = some v → w'.cell? ⟨b, o, none⟩ = some v) (hN : N ≤ N') {p : Option Addr} {cap : Nat} {V : Nat → Nat → Value} {l : List It} (h : RowI N w p cap V l) : RowI N' w' p cap V l :=
  ⟨h.hl, h.hc, fun h0 => by obtain ⟨b, off, e, hlt, hc⟩ := h.hp h0; exact ⟨b, off, e, by omega, fun i x g => (hc i x g).kept (fun o v hv => hk _ _ hlt _ hv)⟩, fun i x g => (h.hv i x g).kept hk hN⟩
theorem IV.slices {N : Nat} {w : World} {a4 a7 a8 a9 a10 a11 : Value} {x : It} (h : IV N w a4 a7 a8 a9 a10 a11 x) : ∃ p4 k4 p7 k7 p8 k8 p9 k9 p10 k10 p11 k11,
    a4 = .slice p4 x.e.args.length k4 ∧ a7 = .slice p7 x.ws.length k7 ∧ a8 = .slice p8 x.it.length k8 ∧ a9 = .slice p9 x.el.length k9 ∧ a10 = .slice p10 x.bf.length k10 ∧ a11 = .slice p11 x.af.length k11 := by
  obtain ⟨p4, k4, _, _, e4, _⟩ := h.ex.form; obtain ⟨p7, k7, e7, _⟩ := h.wt; obtain ⟨p8, k8, _, e8, _⟩ := h.its.form; obtain ⟨p9, k9, _, e9, _⟩ := h.els.form; obtain ⟨p10, k10, e10, _⟩ := h.bfs; obtain ⟨p11, k11, e11, _⟩ := h.afs; refine ⟨p4, k4, p7, k7, p8, k8, p9, k9, p10, k10, p11, k11, ?_, e7, e8, e9, e10, e11⟩
  simpa using e4
theorem low_cells {N : Nat} {w w' : World} (hb : Below N w w') : ∀ b o, b < N → ∀ v, w.cell? ⟨b, o, none⟩ = some v → w'.cell? ⟨b, o, none⟩ = some v := fun b o hlt _ hv => (hb.cell (p := ⟨b, o, none⟩) hlt).trans hv
theorem ItsA.under {N : Nat} {w w' : World} (hb : Below N w w') {v : Value} {l : List It} (h : ItsA N w v l) : ItsA N w' v l := h.kept (low_cells hb) (Nat.le_refl _)
theorem ItsA.wide {N N' : Nat} {w : World} (hN : N ≤ N') {v : Value} {l : List It} (h : ItsA N w v l) : ItsA N' w v l := h.kept (fun _ _ _ _ hv => hv) hN
theorem RowI.under {N : Nat} {w w' : World} (hb : Below N w w') {p : Option Addr} {cap : Nat} {V : Nat → Nat → Value} {l : List It} (h : RowI N w p cap V l) : RowI N w' p cap V l := h.kept (low_cells hb) (Nat.le_refl _)
theorem IV.under {N : Nat} {w w' : World} (hb : Below N w w') {a4 a7 a8 a9 a10 a11 : Value} {x : It} (h : IV N w a4 a7 a8 a9 a10 a11 x) : IV N w' a4 a7 a8 a9 a10 a11 x := h.kept (low_cells hb) (Nat.le_refl _)
theorem IV.wide {N N' : Nat} {w : World} (hN : N ≤ N') {a4 a7 a8 a9 a10 a11 : Value} {x : It} (h : IV N w a4 a7 a8 a9 a10 a11 x) : IV N' w a4 a7 a8 a9 a10 a11 x := h.kept (fun _ _ _ _ hv => hv) hN
theorem StA.under {N : Nat} {w w' : World} (hb : Below N w w') {v : Value} {l : List ByteArray} (h : StA N w v l) : StA N w' v l := h.kept (low_cells hb) (Nat.le_refl _)
theorem StA.wide {N N' : Nat} {w : World} (hN : N ≤ N') {v : Value} {l : List ByteArray} (h : StA N w v l) : StA N' w v l := h.kept (fun _ _ _ _ hv => hv) hN
theorem WtA.under {N : Nat} {w w' : World} (hb : Below N w w') {v : Value} {l : List Wt} (h : WtA N w v l) : WtA N w' v l := h.kept (low_cells hb) (Nat.le_refl _)
theorem WtA.wide {N N' : Nat} {w : World} (hN : N ≤ N') {v : Value} {l : List Wt} (h : WtA N w v l) : WtA N' w v l := h.kept (fun _ _ _ _ hv => hv) hN
theorem ItsA.nil (N : Nat) (w : World) (p : Option Addr) (cap : Nat) : ItsA N w (.slice p 0 cap) [] :=
  .mk p cap [] (fun _ _ => .bool false) (by simp) (by simp) (fun h => by simp at h) (fun i x h => by simp at h) (fun i x h => by simp at h) (fun i x h => by simp at h) (fun i x h => by simp at h) (fun i x h => by simp at h) (fun i x h => by simp at h) (fun i x h => by simp at h)
theorem StA.nil (N : Nat) (w : World) (p : Option Addr) (cap : Nat) : StA N w (.slice p 0 cap) [] := ⟨p, cap, rfl, by simp, by simp, fun _ h => (by cases h), fun h => by simp at h⟩
theorem WtA.nil (N : Nat) (w : World) (p : Option Addr) (cap : Nat) : WtA N w (.slice p 0 cap) [] := ⟨p, cap, rfl, by simp, by simp, fun h => by simp at h⟩
def okO : Obj → Prop
  | .cells _ t _ => t ≠ 9
  | .map .. => True
  | _ => False
theorem okC {cs : Array Value} {t : TypeId} {fr : Nat × Nat} (h : t ≠ 9) : okO (.cells cs t fr) := h
structure KeepC (n₀ n₁ : Nat) (W W' : World) : Prop where
  size : W.heap.size ≤ W'.heap.size
  low : ∀ b cs t fr, b < n₀ → W.heap[b]? = some (.cells cs t fr) → W'.heap[b]? = some (.cells cs t fr)
  high : ∀ b o, n₁ ≤ b → okO o → W.heap[b]? = some o → W'.heap[b]? = some o
theorem KeepC.refl (n₀ n₁ : Nat) (W : World) : KeepC n₀ n₁ W W := ⟨Nat.le_refl _, fun _ _ _ _ _ h => h, fun _ _ _ _ h => h⟩
theorem KeepC.trans {n₀ n₁ : Nat} {A B C : World} (h : KeepC n₀ n₁ A B) (k : KeepC n₀ n₁ B C) : KeepC n₀ n₁ A C :=
  ⟨Nat.le_trans h.size k.size, fun b cs t fr hb hv => k.low b cs t fr hb (h.low b cs t fr hb hv), fun b o hb ho hv => k.high b o hb ho (h.high b o hb ho hv)⟩
theorem KeepC.of_below {n₀ n₁ : Nat} {W W' : World} (h : Below W.heap.size W W') : KeepC n₀ n₁ W W' :=
  ⟨h.size, fun b _ _ _ _ hv => (h.block b (Array.getElem?_eq_some_iff.1 hv).1).trans hv, fun b _ _ _ hv => (h.block b (Array.getElem?_eq_some_iff.1 hv).1).trans hv⟩
theorem KeepC.tree {n₀ n₁ : Nat} {W W' : World} (h : KeepC n₀ n₁ W W') {b o : Nat} {v : Value} (hb : b < n₀) (hv : W.cell? ⟨b, o, none⟩ = some v) : W'.cell? ⟨b, o, none⟩ = some v := by
  obtain ⟨cs, t, fr, hc⟩ := cell_cells hv; exact (World.cell?_of_block (w := W) (by rw [h.low b cs t fr hb hc, hc])).trans hv
theorem KeepC.grown {n₀ n₁ : Nat} {W W' : World} {row : Option Nat} (h : W.grownBy W' row) (hr : ∀ b, row = some b → n₀ ≤ b ∧ (b < n₁ ∨ ∀ o, W.heap[b]? = some o → ¬ okO o)) : KeepC n₀ n₁ W W' := by
  refine ⟨h.size, fun b cs t fr hb hv => ?_, fun b o hb ho hv => ?_⟩
  · exact (h.block b (Array.getElem?_eq_some_iff.1 hv).1 (fun e => by have := (hr b e.symm).1; omega)).trans hv
  · exact (h.block b (Array.getElem?_eq_some_iff.1 hv).1 (fun e => by
      rcases (hr b e.symm).2 with g | g
      · omega
      · exact g o hv ho)).trans hv
theorem KeepC.set {n₀ n₁ : Nat} {W W' : World} (h : KeepC n₀ n₁ W W') {b : Nat} (h0 : n₀ ≤ b) (h1 : b < n₁) (v : Value) : KeepC n₀ n₁ W (W'.setCell ⟨b, 0, none⟩ v) :=
  h.trans (KeepC.grown (grownBy_setCell' W' b v) fun b' e => by cases e; exact ⟨h0, .inl h1⟩)
theorem keepC_t {n₀ n₁ : Nat} {A B C : World} (h : KeepC n₀ n₁ A B) (k : KeepC n₀ n₁ B C) : KeepC n₀ n₁ A C := h.trans k
theorem keepC_b {n₀ n₁ : Nat} {w : World} (hn : n₀ ≤ w.heap.size) (W : World) (l : Nat) (o o' : Obj) (hl : w.heap.size ≤ l) (h : W.heap[l]? = some o) (hc : o.isCells = false) (hw : o.isWalk = false) : KeepC n₀ n₁ W (W.putObj l o') :=
  KeepC.grown (grownBy_putObj' W l o') fun b e => by
    cases e; refine ⟨by omega, .inr fun o2 h2 ho => ?_⟩; rw [h] at h2; cases h2; cases o <;> simp_all [okO, Obj.isCells, Obj.isWalk]
theorem ItsA.keep {n₀ n₁ : Nat} {W W' : World} (h : KeepC n₀ n₁ W W') {v : Value} {l : List It} (hx : ItsA n₀ W v l) : ItsA n₀ W' v l :=
  hx.kept (fun _ _ hb _ hv => h.tree hb hv) (Nat.le_refl _)
theorem RowI.keep {n₀ n₁ : Nat} {W W' : World} (h : KeepC n₀ n₁ W W') {p : Option Addr} {cap : Nat} {V : Nat → Nat → Value} {l : List It} (hx : RowI n₀ W p cap V l) : RowI n₀ W' p cap V l :=
  hx.kept (fun _ _ hb _ hv => h.tree hb hv) (Nat.le_refl _)
theorem IV.keep {n₀ n₁ : Nat} {W W' : World} (h : KeepC n₀ n₁ W W') {a4 a7 a8 a9 a10 a11 : Value} {x : It} (hx : IV n₀ W a4 a7 a8 a9 a10 a11 x) : IV n₀ W' a4 a7 a8 a9 a10 a11 x :=
  hx.kept (fun _ _ hb _ hv => h.tree hb hv) (Nat.le_refl _)
def cntB (B : List ByteArray) (t : ByteArray) : Int := ((B.filter (fun s => ClM.same s t)).length : Int)
theorem cntB_cons (s t : ByteArray) (B : List ByteArray) : cntB (s :: B) t = cntB B t + (if ClM.same s t = true then 1 else 0) := by
  unfold cntB; rw [List.filter_cons]; split
  · simp
  · simp
theorem cntB_pos (B : List ByteArray) (t : ByteArray) : 0 ≤ cntB B t ∧ (cntB B t = 0 ↔ memB B t = false) := by
  refine ⟨by unfold cntB; omega, ?_⟩; unfold cntB memB; rw [List.any_eq_false]; constructor
  · intro h x hx hs; have h0 : B.filter (fun s => ClM.same s t) = [] := List.length_eq_zero_iff.1 (by omega); have := List.filter_eq_nil_iff.1 h0 x hx; exact this hs
  · intro h; have : B.filter (fun s => ClM.same s t) = [] := (List.filter_eq_nil_iff.2 fun x hx => h x hx); rw [this]; rfl
theorem cntB_le (B : List ByteArray) (t : ByteArray) : cntB B t ≤ B.length := by
  unfold cntB; have := List.length_filter_le (fun s => ClM.same s t) B; omega
def IntMap (W : World) (mb n : Nat) (f : ByteArray → Int) : Prop :=
  ∃ D : DataW Unit, W.ownsMap Tryz.prog 9 (plainElem (H := Unit) Tryz.prog 3) mb n D ∧ ∀ t : ByteArray, D.atKey (.string t.data.toList) (.lit (.int .i64 0)) = .lit (.int .i64 (f t))
theorem IntMap.made (w : World) : IntMap (w.alloc (.map #[] 0)) w.heap.size 0 (fun _ => 0) := ⟨_, World.ownsMap_made w _ _ _, fun t => by simp [DataW.atKey]⟩
theorem IntMap.mono {W : World} {mb n n' : Nat} {f : ByteArray → Int} (h : IntMap W mb n f) (hn : n ≤ n') : IntMap W mb n' f := by
  obtain ⟨D, h1, h2⟩ := h; exact ⟨D, h1.mono hn, h2⟩
theorem IntMap.same {W : World} {mb n : Nat} {f g : ByteArray → Int} (h : IntMap W mb n f) (e : ∀ t, f t = g t) : IntMap W mb n g := by
  obtain ⟨D, h1, h2⟩ := h; exact ⟨D, h1, fun t => by rw [h2, e]⟩
theorem IntMap.obj {W : World} {mb n : Nat} {f : ByteArray → Int} (h : IntMap W mb n f) : ∃ es ck, W.heap[mb]? = some (.map es ck) := by
  obtain ⟨D, ⟨es, ck, hb, _⟩, _⟩ := h; exact ⟨es, ck, hb⟩
theorem IntMap.lt {W : World} {mb n : Nat} {f : ByteArray → Int} (h : IntMap W mb n f) : mb < W.heap.size := by
  obtain ⟨es, ck, hb⟩ := h.obj; exact (Array.getElem?_eq_some_iff.1 hb).1
theorem IntMap.stay {W W' : World} {mb n : Nat} {f : ByteArray → Int} (h : IntMap W mb n f) (hk : ∀ o, W.heap[mb]? = some o → okO o → W'.heap[mb]? = some o) : IntMap W' mb n f := by
  obtain ⟨D, ⟨es, ck, hb, r⟩, h2⟩ := h; exact ⟨D, ⟨es, ck, hk _ hb trivial, r⟩, h2⟩
theorem IntMap.below {W W' : World} {mb n : Nat} {f : ByteArray → Int} (h : IntMap W mb n f) (hb : Below W.heap.size W W') : IntMap W' mb n f :=
  h.stay fun _ ho _ => (hb.block mb h.lt).trans ho
theorem IntMap.keep {W W' : World} {n₀ n₁ mb n : Nat} {f : ByteArray → Int} (h : IntMap W mb n f) (hm : n₁ ≤ mb) (hk : KeepC n₀ n₁ W W') : IntMap W' mb n f :=
  h.stay fun o ho ok => hk.high mb o hm ok ho
theorem IntMap.near {W W' : World} {mb n : Nat} {f : ByteArray → Int} (h : IntMap W mb n f) (hk : Near W W') : IntMap W' mb n f :=
  h.stay fun o ho ok => hk.blk mb o ho fun r e => by subst e; exact ok
theorem IntMap.setCell {W : World} {mb n b : Nat} {f : ByteArray → Int} (h : IntMap W mb n f) (hb : b ≠ mb) (v : Value) : IntMap (W.setCell ⟨b, 0, none⟩ v) mb n f := by
  obtain ⟨D, h1, h2⟩ := h; exact ⟨D, h1.setCell (fun e => hb e.symm) v, h2⟩
theorem IntMap.look {W : World} {mb n : Nat} {f : ByteArray → Int} {T : TypeId} (hT : Tryz.prog.underlying T = some (.map 9 3)) (h : IntMap W mb n f) (t : ByteArray) (ht : t.size ≤ 140737488351232) :
    (Instr.lookup T (.map (some mb)) (.string t) false).run Tryz.prog W = .ok (.int .i64 (f t)) W := by
  obtain ⟨D, h1, h2⟩ := h; obtain ⟨c, hr, hc, _⟩ := h1.lookup_int (Maps.string_keyed Tryz.underlying9) hT Tryz.underlying3 (Tryz.zeroValue3 W) (Go.WideMaps.keyOf_string_mk Tryz.underlying9 (Nat.le_trans ht (by decide))); rw [h2] at hc; simp only [DataW.lit.injEq, Lit.int.injEq, true_and] at hc; rw [hr, hc]
theorem bs_eq {a b : ByteArray} (h : a.data.toList = b.data.toList) : a = b := by
  rw [← bs_data a, ← bs_data b, h]
theorem hwf (v : Int) (h0 : -9223372036854775808 ≤ v) (h1 : v ≤ 9223372036854775807) : (Lit.int .i64 v).wf = true := by
  unfold Lit.wf; simp only [IntKind.min, IntKind.max, Bool.and_eq_true]; exact ⟨decide_eq_true h0, decide_eq_true h1⟩
theorem IntMap.put {W : World} {mb n : Nat} {f : ByteArray → Int} {T : TypeId} (hT : Tryz.prog.underlying T = some (.map 9 3)) (h : IntMap W mb n f) (hn : n ≤ 1000000) (s : ByteArray) (hs : s.size ≤ 140737488351232) (v : Int) (h0 : -9223372036854775808 ≤ v) (h1 : v ≤ 9223372036854775807) :
    ∃ W', (Instr.mapUpdate T (.map (some mb)) (.string s) (.int .i64 v)).run Tryz.prog W = .ok () W' ∧ IntMap W' mb (n + 1) (fun t => if ClM.same s t = true then v else f t) ∧ W.grownBy W' (some mb) := by
  obtain ⟨D, g1, g2⟩ := h; obtain ⟨W', hr, ho, hg⟩ := g1.update (Maps.string_keyed Tryz.underlying9) hT (Nat.lt_of_le_of_lt hn (by decide)) (Go.WideMaps.keyOf_string_mk Tryz.underlying9 (Nat.le_trans hs (by decide))) (plainElem_int Tryz.underlying3 (a := v) (hwf v h0 h1)); refine ⟨W', hr, ⟨_, ho, fun t => ?_⟩, hg⟩; have hm := g1.isMap; show (D.put (.string s.data.toList) (.lit (.int .i64 v))).atKey (.string t.data.toList) (.lit (.int .i64 0)) = .lit (.int .i64 (if ClM.same s t = true then v else f t)); by_cases e : ClM.same s t = true
  · have e2 : s.data.toList = t.data.toList := (by simpa [ClM.same] using e); rw [if_pos e, ← e2, Maps.atKey_put_same hm (by simp [WideAt.IsKeyLit])]
  · rw [if_neg e, Maps.atKey_put_other (by
      intro x; simp only [Lit.string.injEq] at x; exact e (by simpa [ClM.same] using x.symm)), g2]
end Go.Proofs.YtpejflgdehioaaaGreatDoor.ItW
namespace Go.Proofs.YtpejflgdehioaaaGreatDoor.LexW
open Go Go.RowKit Go.Proofs.YtpejflgdehioaaaGreatDoor.NumM Go.Proofs.YtpejflgdehioaaaGreatDoor.LexM
def atL (ys : List (List UInt8)) (j : Nat) : List UInt8 := (ys[j]?).getD []
theorem atL_of {ys : List (List UInt8)} {j : Nat} {m : List UInt8} (h : ys[j]? = some m) : atL ys j = m := by unfold atL; rw [h]; rfl
def tabF (ys : List (List UInt8)) : Nat → Value := fun j => .string (bs (atL ys j))
theorem row_tab (w : World) (ys : List (List UInt8)) (t : TypeId) : (w.alloc (.cells (ys.map fun y => Value.string (bs y)).toArray t)).rowIs w.heap.size t ys.length (tabF ys) := by
  refine ⟨_, heap_alloc_new _ _, by simp, fun i hi => ?_⟩; rw [List.getElem?_toArray, List.getElem?_map, List.getElem?_eq_getElem hi]; show some (Value.string (bs ys[i])) = _; unfold tabF; rw [atL_of (List.getElem?_eq_getElem hi)]
def tTab (ys : List (List UInt8)) (w : World) (e : Ending) (w' : World) : Prop := ∃ g, e = .returned (.slice (some ⟨g, 0, none⟩) ys.length ys.length) ∧ w'.rowIs g 9 ys.length (tabF ys) ∧ Below w.heap.size w w'
set_option maxRecDepth 100000 in
theorem keywords_any (w : World) : Calls Tryz.prog 123 #[] w (tTab kws w) := by
  go_enter Tryz.func123, Tryz.ntmps123
  go_wp2; go_ret; exact ⟨_, rfl, row_tab w kws _, (Below.refl _ _).alloc (Nat.le_refl _) _⟩
set_option maxRecDepth 100000 in
theorem has_any (ys : List (List UInt8)) (g : Nat) (s : ByteArray) (w : World) (hr : w.rowIs g 9 ys.length (tabF ys)) (hn : ys.length ≤ 100) :
    Calls Tryz.prog 122 #[.slice (some ⟨g, 0, none⟩) ys.length ys.length, .string s] w fun e w' => e = .returned (.bool (decide (s.data.toList ∈ ys))) ∧ w = w' := by
  have HR := Lib.hid hr; clear hr; obtain ⟨n, hnn⟩ : ∃ n, ys.length = n := ⟨_, rfl⟩; have HN := Lib.hid hnn; rw [hnn] at HR hn ⊢; clear hnn
  go_enter Tryz.func122, Tryz.ntmps122
  go_wp2; go_loop [5] (fun i => ∃ k : Nat, k ≤ n ∧ i = .int .i64 k ∧ Hid (∀ j, j < k → ys[j]? ≠ some s.data.toList)) (fun i => n - (intOf i).toNat)
  case atStart => exact ⟨0, Nat.zero_le _, rfl, Lib.hid fun j hj => by omega⟩
  case round =>
    obtain ⟨k, hk, rfl, NO⟩ := hrel; by_cases hlt : k < n
    · obtain ⟨m, hm⟩ : ∃ m, ys[k]? = some m := ⟨_, List.getElem?_eq_getElem (by rw [HN.out]; exact hlt)⟩; have hck := HR.out.cell hlt; unfold tabF at hck; rw [atL_of hm] at hck; have HM := Lib.hid hm; clear hm; by_cases e : m = s.data.toList
      · have e1 : ((bs m).toList == s.toList) = true := (by rw [Lib.toList_data, Lib.toList_data, e]; simp); have FIN : Hid (true = decide (s.data.toList ∈ ys)) := Lib.hid (by rw [eq_comm, decide_eq_true_eq, ← e]; exact List.mem_of_getElem? HM.out); obtain ⟨y, hy⟩ : ∃ y, bs m = y := ⟨_, rfl⟩; rw [hy] at e1 hck; clear e hy; go_wp2; go_ret; exact ⟨retb FIN.out, rfl⟩
      · have e1 : ((bs m).toList == s.toList) = false := (by rw [Lib.toList_data, Lib.toList_data]; simpa using e); have NO2 : Hid (∀ j, j < k + 1 → ys[j]? ≠ some s.data.toList) := Lib.hid fun j hj x => by
          by_cases hjk : j = k
          · rw [hjk, HM.out] at x; exact e (Option.some.inj x)
          · exact NO.out j (by omega) x
        obtain ⟨y, hy⟩ : ∃ y, bs m = y := ⟨_, rfl⟩; rw [hy] at e1 hck; clear e hy; go_wp2; go_round
        case rel => exact ⟨k + 1, by omega, by go_num, NO2⟩
        case measure => simp [intOf]; omega
    · have FIN : Hid (false = decide (s.data.toList ∈ ys)) := Lib.hid (by
        rw [eq_comm, decide_eq_false_iff_not]; intro x; obtain ⟨j, hj, he⟩ := List.mem_iff_getElem.1 x; exact NO.out j (by rw [HN.out] at hj; omega) (by rw [List.getElem?_eq_getElem hj, he]))
      go_wp2; go_ret; exact ⟨retb FIN.out, rfl⟩
theorem kwR_any (s : ByteArray) (w : World) : Calls Tryz.prog 79 #[.string s] w fun e w' => e = .returned (.bool (isKw s.data.toList)) ∧ Below w.heap.size w w' := by
  go_enter Tryz.func79, Tryz.ntmps79
  go_wp2_with (first
    | (go_at_call 123; ((with_reducible refine (keywords_any _).mono ?_); rintro e w1 ⟨g, rfl, hr, hb⟩; have HR := Lib.hid hr; have HB := Lib.hid hb; clear hr hb))
    | (go_at_call 122; ((with_reducible refine (has_any kws g s _ HR.out (by decide)).mono ?_); rintro e w' ⟨rfl, rfl⟩)))
  go_ret; exact ⟨rfl, HB.out⟩
theorem inner_any (c : UInt8) (w : World) : Calls Tryz.prog 80 #[.int .u8 (c.toNat : Int)] w fun e w' => e = .returned (.bool (wrd c)) ∧ w = w' := by
  have HC := Lib.hid (wrI_byte c); obtain ⟨n, hn⟩ : ∃ n : Int, (c.toNat : Int) = n := ⟨_, rfl⟩; rw [hn] at HC ⊢; rw [← HC.out]; clear hn HC
  go_enter Tryz.func80, Tryz.ntmps80
  go_wp2_with (first | (go_at_call 78; refine (smallR_any _ _).mono ?_; rintro e w' ⟨rfl, rfl⟩) | (go_at_call 124; refine (digitR_any _ _).mono ?_; rintro e w' ⟨rfl, rfl⟩))
  all_goals
    go_ret; exact ⟨retb (by simp_all [wrI]; try (intros; omega)), rfl⟩
theorem nmB_of (s : ByteArray) (h0 : 0 < s.size) : nmB s.data.toList = (decide (s.size ≤ 16) && (sml s[0] && (!isKw s.data.toList && s.data.toList.all wrd))) := by
  have hl := len_data s; rcases hx : s.data.toList with _ | ⟨c, r⟩
  · rw [hx] at hl; simp at hl; omega
  · obtain ⟨_, hc⟩ := head_of s hx; rw [hx, List.length_cons] at hl; rw [hc, ← hl]; rfl
theorem not_allW {s : ByteArray} {k : Nat} (h : k < s.size) (g : wrd s[k] = false) : s.data.toList.all wrd = false := by
  cases e : s.data.toList.all wrd
  · rfl
  · have hm : s[k] ∈ s.data.toList := by
      have : s.data.toList[k]'(by simpa using h) = s[k] := rfl; rw [← this]; exact List.getElem_mem _
    have := List.all_eq_true.1 e _ hm; rw [g] at this; cases this
def tBool (b : Bool) (w : World) (e : Ending) (w' : World) : Prop := e = .returned (.bool b) ∧ Below w.heap.size w w'
theorem tBool_mk {a b : Bool} {w w' : World} (h : a = b) (hb : Below w.heap.size w w') : tBool b w (.returned (.bool a)) w' := by subst h; exact ⟨rfl, hb⟩
set_option maxRecDepth 100000 in
set_option maxHeartbeats 1000000 in
theorem nameR_any (s : ByteArray) (w : World) (hs : s.size ≤ 140737488351232) : Calls Tryz.prog 42 #[.string s] w (tBool (nmB s.data.toList) w) := by
  have KC := (fun W => kwR_any s W); by_cases h0 : 0 < s.size
  · have e0 : s.toList.isEmpty = false := by
      rw [Lib.toList_data]; have := len_data s; cases hx : s.data.toList with
      | nil => rw [hx] at this; simp at this; omega
      | cons a b => rfl
    have hn := nmB_of s h0; by_cases h16 : 16 < s.size
    · have EE : Hid (false = nmB s.data.toList) := Lib.hid (by rw [hn, decide_eq_false (by omega)]; rfl); clear hn KC
      go_enter Tryz.func42, Tryz.ntmps42
      go_wp2; go_ret; exact tBool_mk EE.out (Below.refl _ _)
    rw [decide_eq_true (show s.size ≤ 16 by omega)] at hn; have hsm := sm_byte s[0]; cases h1 : sml s[0]
    · rw [h1] at hsm; have EE : Hid (false = nmB s.data.toList) := Lib.hid (by rw [hn, h1]; rfl); clear hn KC h1
      go_enter Tryz.func42, Tryz.ntmps42
      go_wp2_with (go_at_call 78; refine (smallR_any _ _).mono ?_; rintro e w' ⟨rfl, rfl⟩)
      go_ret; exact tBool_mk EE.out (Below.refl _ _)
    · rw [h1] at hsm hn; cases h2 : isKw s.data.toList
      · rw [h2] at KC hn; have KC := Lib.hid KC; have HN := Lib.hid hn; clear hn h1 h2
        go_enter Tryz.func42, Tryz.ntmps42
        go_wp2_with (first | (go_at_call 78; refine (smallR_any _ _).mono ?_; rintro e w' ⟨rfl, rfl⟩) | (go_at_call 79; ((with_reducible refine (KC.out _).mono ?_); rintro e w1 ⟨rfl, hb⟩; have HB := Lib.hid hb; clear hb)))
        go_loop [3] (fun i => ∃ k : Nat, k ≤ s.size ∧ i = .int .i64 k ∧ Hid ((s.data.toList.take k).all wrd = true)) (fun i => s.size - (intOf i).toNat)
        case atStart => exact ⟨0, Nat.zero_le _, rfl, Lib.hid rfl⟩
        case round =>
          obtain ⟨k, hk, rfl, AL⟩ := hrel; by_cases hlt : k < s.size
          · have IC : ∀ W, Calls Tryz.prog 80 #[.int .u8 (s[k].toNat : Int)] W fun e w' => e = .returned (.bool (wrd s[k])) ∧ W = w' := fun W => inner_any s[k] W
            cases hw : wrd s[k]
            · rw [hw] at IC; have EE : Hid (false = nmB s.data.toList) := Lib.hid (by rw [HN.out, not_allW hlt hw]; rfl); have IC := Lib.hid IC; clear hw; go_wp2_with (go_at_call 80; ((with_reducible refine (IC.out _).mono ?_); rintro e w' ⟨rfl, rfl⟩))
              go_ret; exact tBool_mk EE.out HB.out
            · rw [hw] at IC; have A2 : Hid ((s.data.toList.take (k + 1)).all wrd = true) := Lib.hid (by rw [take_snoc s k hlt, List.all_append, AL.out]; simp [hw]); have IC := Lib.hid IC; clear hw; go_wp2_with (go_at_call 80; ((with_reducible refine (IC.out _).mono ?_); rintro e w' ⟨rfl, rfl⟩))
              go_round
              case rel => exact ⟨k + 1, by omega, by go_num, A2⟩
              case measure => simp [intOf]; omega
          · have EE : Hid (true = nmB s.data.toList) := Lib.hid (by
              have := AL.out; rw [List.take_of_length_le (by rw [len_data]; omega)] at this; rw [HN.out, this]; rfl)
            go_wp2; go_ret; exact tBool_mk EE.out HB.out
      · rw [h2] at KC hn; have KC := Lib.hid KC; have EE : Hid (false = nmB s.data.toList) := Lib.hid (by rw [hn]; rfl); clear hn h1 h2
        go_enter Tryz.func42, Tryz.ntmps42
        go_wp2_with (first | (go_at_call 78; refine (smallR_any _ _).mono ?_; rintro e w' ⟨rfl, rfl⟩) | (go_at_call 79; ((with_reducible refine (KC.out _).mono ?_); rintro e w1 ⟨rfl, hb⟩; have HB := Lib.hid hb; clear hb)))
        go_ret; exact tBool_mk EE.out HB.out
  · have hx : s.data.toList = [] := List.length_eq_zero_iff.1 (by rw [len_data]; omega); have e0 : s.toList = [] := (by rw [Lib.toList_data, hx]); have EE : Hid (false = nmB s.data.toList) := Lib.hid (by rw [hx]; rfl); clear hx KC
    go_enter Tryz.func42, Tryz.ntmps42
    go_wp2; go_ret; exact tBool_mk EE.out (Below.refl _ _)
end Go.Proofs.YtpejflgdehioaaaGreatDoor.LexW
namespace Go.Proofs.YtpejflgdehioaaaGreatDoor.ExW
open Go Go.RowKit Go.Proofs.YtpejflgdehioaaaGreatDoor.NumM Go.Proofs.YtpejflgdehioaaaGreatDoor.LexW Go.Proofs.YtpejflgdehioaaaGreatDoor.LexM Go.Proofs.YtpejflgdehioaaaGreatDoor.ExM
theorem nm_wrd {l : List UInt8} (h : nmB l = true) : ∀ c ∈ l, wrd c = true := by
  cases l with
  | nil => simp
  | cons a r =>
    unfold nmB at h; simp only [Bool.and_eq_true] at h; exact List.all_eq_true.1 h.2.2.2
theorem nm_no {l : List UInt8} (h : nmB l = true) : (91 : UInt8) ∉ l := fun hm => by
  have := nm_wrd h _ hm
  revert this; decide
def idxB (l : List UInt8) : Bool := match l with | [d, c] => decide (48 ≤ d.toNat ∧ d.toNat ≤ 55) && decide (c = 93) | _ => false
theorem idx_iff {l : List UInt8} : idxB l = true ↔ ∃ d : UInt8, l = [d, 93] ∧ (48 ≤ d.toNat ∧ d.toNat ≤ 55) := by
  unfold idxB; split
  · rename_i d c; simp only [Bool.and_eq_true, decide_eq_true_eq]; constructor
    · rintro ⟨a, rfl⟩; exact ⟨d, rfl, a⟩
    · rintro ⟨d', h, a⟩; have h1 : d = d' := (by simpa using congrArg (fun l => l.head?) h); have h2 : c = 93 := (by simpa using congrArg (fun l => l.tail.head?) h); exact ⟨by rw [h1]; exact a, h2⟩
  · rename_i hn; simp only [Bool.false_eq_true, false_iff]; rintro ⟨d, rfl, _⟩; exact hn d 93 rfl
theorem elm_iff {l : List UInt8} : elmB l = true ↔ ∃ r d, l = r ++ 91 :: [d, 93] ∧ (48 ≤ d.toNat ∧ d.toNat ≤ 55) ∧ nmB r = true := by
  unfold elmB; split
  · rename_i c d b r hr; have hl : l = r.reverse ++ [b, d, c] := (by rw [← List.reverse_reverse l, hr]; simp); simp only [Bool.and_eq_true, decide_eq_true_eq]; constructor
    · rintro ⟨rfl, rfl, a, n⟩; exact ⟨r.reverse, d, hl, a, n⟩
    · rintro ⟨r', d', h, a, n⟩; rw [hl] at h; have hlen : r.reverse.length = r'.length := (by have := congrArg List.length h; simp at this; simpa using this); obtain ⟨h1, h2⟩ := List.append_inj h hlen; have e1 : b = 91 := (by simpa using congrArg (fun l => l.head?) h2); have e2 : d = d' := (by simpa using congrArg (fun l => l.tail.head?) h2); have e3 : c = 93 := (by simpa using congrArg (fun l => l.tail.tail.head?) h2); exact ⟨e3, e1, by rw [e2]; exact a, by rw [h1]; exact n⟩
  · rename_i hn; simp only [Bool.false_eq_true, false_iff]; rintro ⟨r, d, rfl, _⟩; exact hn 93 d 91 r.reverse (by simp)
theorem var_none {l : List UInt8} (h : (91 : UInt8) ∉ l) : varB l = nmB l := by
  unfold varB; have : elmB l = false := by
    rw [Bool.eq_false_iff]; intro e; obtain ⟨r, d, rfl, _⟩ := elm_iff.1 e; exact h (by simp)
  rw [this]; rfl
theorem split_at {a b c d : List UInt8} (h : a ++ 91 :: b = c ++ 91 :: d) (ha : (91 : UInt8) ∉ a) (hc : (91 : UInt8) ∉ c) : a = c ∧ b = d := by
  induction a generalizing c with
  | nil =>
    cases c with
    | nil => simpa using h
    | cons x r =>
      have : (91 : UInt8) = x := (by simpa using congrArg (fun l => l.head?) h); exact absurd (by rw [this]; simp) hc
  | cons y q ih =>
    cases c with
    | nil =>
      have : y = (91 : UInt8) := (by simpa using congrArg (fun l => l.head?) h); exact absurd (by rw [this]; simp) ha
    | cons x r =>
      simp only [List.cons_append, List.cons.injEq] at h; obtain ⟨h1, h2⟩ := ih h.2 (fun m => ha (by simp [m])) (fun m => hc (by simp [m])); exact ⟨by rw [h.1, h1], h2⟩
theorem var_some {a b : List UInt8} (h : (91 : UInt8) ∉ a) : varB (a ++ 91 :: b) = (nmB a && idxB b) := by
  unfold varB; have h0 : nmB (a ++ 91 :: b) = false := by
    rw [Bool.eq_false_iff]; intro e; exact nm_no e (by simp)
  rw [h0, Bool.or_false, Bool.eq_iff_iff, elm_iff, Bool.and_eq_true, idx_iff]; constructor
  · rintro ⟨r, d, e, hd, n⟩; obtain ⟨e1, e2⟩ := split_at e h (nm_no n); exact ⟨by rw [e1]; exact n, d, e2, hd⟩
  · rintro ⟨n, d, rfl, hd⟩; exact ⟨a, d, rfl, hd, n⟩
theorem ext_list (s : ByteArray) (a e : Nat) : (s.extract a e).data.toList = (s.data.toList.drop a).take (e - a) := by
  simp [ByteArray.data_extract, Array.toList_extract]
def cutB (s t b : ByteArray) (f : Bool) : Prop := t.size ≤ s.size ∧ b.size ≤ s.size ∧ (91 : UInt8) ∉ t.data.toList ∧ ((f = true ∧ s.data.toList = t.data.toList ++ 91 :: b.data.toList) ∨ (f = false ∧ t.data.toList = s.data.toList))
set_option maxRecDepth 100000 in
set_option maxHeartbeats 8000000 in
theorem cutLite (s : ByteArray) (hs : s.size ≤ 140737488351232) :
    ∃ t b f, cutB s t b f ∧ ∀ w, Calls Tryz.prog 199 #[.string s, .string ⟨#[91]⟩] w fun e w' => e = .returned (.tuple #[.string t, .string b, .bool f]) ∧ Below w.heap.size w w' := by
  have IX := (fun w => Tryz.stringslite_Index_one s 91 w); have hge := Lib.indexByte_ge s.data.toList 91; have hlen : s.data.toList.length = s.size := (by simp); by_cases h : Lib.indexByte s.data.toList 91 = -1
  · have e := (fun j => Lib.indexByte_none h j); rw [h] at IX; have IX := Lib.hid IX; have P : Hid (cutB s s ⟨#[]⟩ false) := Lib.hid ⟨Nat.le_refl _, Nat.zero_le _, fun hm => by
      obtain ⟨j, hj, he⟩ := List.mem_iff_getElem.1 hm; exact e j (by rw [List.getElem?_eq_getElem hj, he]), .inr ⟨rfl, rfl⟩⟩
    clear h hge e hlen; refine ⟨_, _, _, P.out, fun w => ?_⟩
    go_enter Tryz.func199, Tryz.ntmps199
    go_wp2_with (go_at_call 210; ((with_reducible refine (IX.out _).mono ?_); rintro e w' ⟨rfl, rfl⟩))
    refine bodyPost_ret (v := .tuple #[.string s, .string ⟨#[]⟩, .bool false]) (by simp [results, Tryz.results199, go_sem]) rfl ?_; exact ⟨rfl, Below.refl _ _⟩
  · obtain ⟨k, hk⟩ : ∃ k : Nat, Lib.indexByte s.data.toList 91 = (k : Int) := ⟨(Lib.indexByte s.data.toList 91).toNat, by omega⟩; obtain ⟨h1, h2⟩ := Lib.indexByte_some hk; have hlt : k < s.data.toList.length := by
      apply Nat.lt_of_not_le; intro g; rw [List.getElem?_eq_none g] at h1; cases h1
    rw [hk] at IX; have IX := Lib.hid IX; have P : Hid (cutB s (s.extract 0 k) (s.extract (k + 1) s.size) true) := Lib.hid (by
      have q1 : (s.extract 0 k).data.toList = s.data.toList.take k := (by rw [ext_list]; simp); have q2 : (s.extract (k + 1) s.size).data.toList = s.data.toList.drop (k + 1) := by
        rw [ext_list, List.take_of_length_le (by rw [List.length_drop]; omega)]
      have z1 := congrArg List.length q1; have z2 := congrArg List.length q2; rw [len_data, List.length_take, len_data] at z1; rw [len_data, List.length_drop, len_data] at z2; refine ⟨by omega, by omega, ?_, .inl ⟨rfl, ?_⟩⟩
      · rw [q1]; intro hm; obtain ⟨j, hj, he⟩ := List.mem_iff_getElem.1 hm; rw [List.length_take] at hj; rw [List.getElem_take] at he; exact h2 j (by omega) (by rw [List.getElem?_eq_getElem (by omega), he])
      · rw [q1, q2]; have := List.take_append_drop k s.data.toList; have hd : s.data.toList.drop k = 91 :: s.data.toList.drop (k + 1) := by
          rw [List.drop_eq_getElem_cons hlt]; have : s.data.toList[k] = 91 := (by rw [List.getElem?_eq_getElem hlt] at h1; simpa using h1); rw [this]
        rw [← hd]; exact this.symm)
    rw [hlen] at hlt; have b1 : (0 : Int) ≤ (k : Int) := (by omega); have b2 : (k : Int) ≤ (s.size : Int) := (by omega); have b3 : (k : Int) + 1 ≤ (s.size : Int) := (by omega); have b4 : IntKind.i64.wrap ((k : Int) + 1) = (k : Int) + 1 := (by rw [IntKind.wrap_i64]; omega); have b5 : ((k : Int) + 1).toNat = k + 1 := (by omega); clear h hge hlen hk h1 h2; refine ⟨_, _, _, P.out, fun w => ?_⟩
    go_enter Tryz.func199, Tryz.ntmps199
    go_wp2_with (go_at_call 210; ((with_reducible refine (IX.out _).mono ?_); rintro e w' ⟨rfl, rfl⟩))
    go_region
    all_goals
      go_wp2; refine bodyPost_ret (v := .tuple #[.string (s.extract 0 k), .string (s.extract (k + 1) s.size), .bool true]) (by simp [results, Tryz.results199, go_sem]) rfl ?_; exact ⟨rfl, by first | exact Below.refl _ _ | exact (Below.refl _ _).drew⟩
set_option maxRecDepth 100000 in
set_option maxHeartbeats 4000000 in
theorem cutCode (s : ByteArray) (hs : s.size ≤ 140737488351232) :
    ∃ t b f, cutB s t b f ∧ ∀ w, Calls Tryz.prog 174 #[.string s, .string ⟨#[91]⟩] w fun e w' => e = .returned (.tuple #[.string t, .string b, .bool f]) ∧ Below w.heap.size w w' := by
  obtain ⟨t, b, f, P, C⟩ := cutLite s hs; refine ⟨t, b, f, P, fun w => ?_⟩; have C := Lib.hid C; clear hs P
  go_enter Tryz.func174, Tryz.ntmps174
  go_wp2_with (go_at_call 199; ((with_reducible refine (C.out _).mono ?_); rintro e w1 ⟨rfl, hb⟩; have HB := Lib.hid hb; clear hb))
  refine bodyPost_ret (v := .tuple #[.string t, .string b, .bool f]) (by simp [results, Tryz.results174, go_sem]) rfl ?_; exact ⟨rfl, HB.out⟩
theorem two_bytes {s : ByteArray} (h : s.size = 2) : s.data.toList = [s[0], s[1]] := by
  apply List.ext_getElem
  · have := len_data s; simp only [List.length_cons, List.length_nil]; omega
  · intro i h1 h2; simp only [List.length_cons, List.length_nil] at h2; match i, h2 with
    | 0, _ => rfl
    | 1, _ => rfl
set_option maxRecDepth 100000 in
theorem isIndex_any (s : ByteArray) (w : World) : Calls Tryz.prog 175 #[.string s] w fun e w' => e = .returned (.bool (idxB s.data.toList)) ∧ w = w' := by
  by_cases h : s.size = 2
  · have e2 := two_bytes h; have h0 : 0 < s.size := (by omega); have h1 : 1 < s.size := (by omega); by_cases g1 : 48 ≤ (s[0].toNat : Int)
    · by_cases g2 : (s[0].toNat : Int) < 56
      · by_cases g3 : (s[1].toNat : Int) = 93
        · have EE : Hid (true = idxB s.data.toList) := Lib.hid (by
            rw [e2, eq_comm, idx_iff]; refine ⟨s[0], ?_, by omega, by omega⟩; have : s[1] = 93 := UInt8.toNat_inj.1 (by show s[1].toNat = 93; omega); rw [this])
          clear e2
          go_enter Tryz.func175, Tryz.ntmps175
          go_wp2; go_ret; exact ⟨retb EE.out, rfl⟩
        · have EE : Hid (false = idxB s.data.toList) := Lib.hid (by
            rw [e2]
            have : (s[1] = 93) ↔ False := by constructor
                                             · intro x; rw [x] at g3; exact g3 rfl
                                             · exact False.elim
            simp [idxB, this])
          have g4 : ((s[1].toNat : Int) == 93) = false := (by rw [beq_eq_false_iff_ne]; exact g3); clear e2 g3
          go_enter Tryz.func175, Tryz.ntmps175
          go_wp2; go_ret; exact ⟨retb EE.out, rfl⟩
      · have EE : Hid (false = idxB s.data.toList) := Lib.hid (by rw [e2]; simp [idxB]; intros; omega); clear e2
        go_enter Tryz.func175, Tryz.ntmps175
        go_wp2; go_ret; exact ⟨retb EE.out, rfl⟩
    · have EE : Hid (false = idxB s.data.toList) := Lib.hid (by rw [e2]; simp [idxB]; intros; omega); clear e2
      go_enter Tryz.func175, Tryz.ntmps175
      go_wp2; go_ret; exact ⟨retb EE.out, rfl⟩
  · have EE : Hid (false = idxB s.data.toList) := Lib.hid (by
      rw [eq_comm, Bool.eq_false_iff]; intro e; obtain ⟨d, hd, _⟩ := idx_iff.1 e; have := len_data s; rw [hd] at this; exact h this.symm)
    have h2 : ((s.size : Int) == 2) = false := (by rw [beq_eq_false_iff_ne]; omega); clear h
    go_enter Tryz.func175, Tryz.ntmps175
    go_wp2; go_ret; exact ⟨retb EE.out, rfl⟩
theorem nameS_eq (l : List UInt8) : nameS l = nmB l := name_iff l
set_option maxRecDepth 100000 in
set_option maxHeartbeats 4000000 in
theorem isVar_any (s : ByteArray) (w : World) (hs : s.size ≤ 140737488351232) (ht : Tab w) :
    Calls Tryz.prog 146 #[.string s] w (tBool (varB s.data.toList) w) := by
  obtain ⟨t, b, f, ⟨p1, p2, p3, p4⟩, C⟩ := cutCode s hs; have C := Lib.hid C; have HT := Lib.hid ht
  have NC : Hid (∀ W, Below w.heap.size w W → Calls Tryz.prog 76 #[.string t] W fun e w' => e = .returned (.bool (nmB t.data.toList)) ∧ Below W.heap.size W w') :=
    Lib.hid fun W hb => by rw [← nameS_eq]; exact isName_any t W (by omega) (HT.out.later hb)
  have IC : Hid (∀ W, Calls Tryz.prog 175 #[.string b] W fun e w' => e = .returned (.bool (idxB b.data.toList)) ∧ W = w') := (Lib.hid fun W => isIndex_any b W); have VV : Hid (varB s.data.toList = (nmB t.data.toList && (!f || idxB b.data.toList))) := Lib.hid (by
    rcases p4 with ⟨rfl, e⟩ | ⟨rfl, e⟩
    · rw [e, var_some p3]; rfl
    · rw [← e, var_none p3]; simp)
  clear ht p1 p2 p3 p4; generalize nmB t.data.toList = n at *
  generalize idxB b.data.toList = i at *
  cases n
  · go_enter Tryz.func146, Tryz.ntmps146
    go_wp2_with (first
      | (go_at_call 174; ((with_reducible refine (C.out _).mono ?_); rintro e w1 ⟨rfl, hb⟩; have HB := Lib.hid hb; clear hb))
      | (go_at_call 76; ((with_reducible refine (NC.out _ HB.out).mono ?_); rintro e w2 ⟨rfl, hb⟩; have HB2 := Lib.hid hb; clear hb)))
    go_ret; exact tBool_mk (by rw [VV.out]; rfl) (HB.out.then_ HB2.out)
  · cases f
    · go_enter Tryz.func146, Tryz.ntmps146
      go_wp2_with (first
        | (go_at_call 174; ((with_reducible refine (C.out _).mono ?_); rintro e w1 ⟨rfl, hb⟩; have HB := Lib.hid hb; clear hb))
        | (go_at_call 76; ((with_reducible refine (NC.out _ HB.out).mono ?_); rintro e w2 ⟨rfl, hb⟩; have HB2 := Lib.hid hb; clear hb)))
      go_ret; exact tBool_mk (by rw [VV.out]; rfl) (HB.out.then_ HB2.out)
    · go_enter Tryz.func146, Tryz.ntmps146
      go_wp2_with (first
        | (go_at_call 174; ((with_reducible refine (C.out _).mono ?_); rintro e w1 ⟨rfl, hb⟩; have HB := Lib.hid hb; clear hb))
        | (go_at_call 76; ((with_reducible refine (NC.out _ HB.out).mono ?_); rintro e w2 ⟨rfl, hb⟩; have HB2 := Lib.hid hb; clear hb))
        | (go_at_call 175; ((with_reducible refine (IC.out _).mono ?_); rintro e w3 ⟨rfl, rfl⟩)))
      go_ret; exact tBool_mk (by rw [VV.out]; rfl) (HB.out.then_ HB2.out)
end Go.Proofs.YtpejflgdehioaaaGreatDoor.ExW
namespace Go.Proofs.YtpejflgdehioaaaGreatDoor.ExW
open Go Go.RowKit Go.Proofs.YtpejflgdehioaaaGreatDoor.LexW Go.Proofs.YtpejflgdehioaaaGreatDoor.LexM Go.Proofs.YtpejflgdehioaaaGreatDoor.ExM
theorem cases25 {o : Int} (h : 1 ≤ o ∧ o ≤ 25) : o = 1 ∨ o = 2 ∨ o = 3 ∨ o = 4 ∨ o = 5 ∨ o = 6 ∨ o = 7 ∨ o = 8 ∨ o = 9 ∨ o = 10 ∨ o = 11 ∨ o = 12 ∨ o = 13 ∨ o = 14 ∨ o = 15 ∨ o = 16 ∨ o = 17 ∨ o = 18 ∨ o = 19 ∨ o = 20 ∨ o = 21 ∨ o = 22 ∨ o = 23 ∨ o = 24 ∨ o = 25 := by omega
theorem ar_out {o : Int} (h : ¬ (1 ≤ o ∧ o ≤ 25)) : arS o = -1 := by
  unfold arS; rw [if_neg (by omega), if_neg (by omega), if_neg (by omega), if_neg (by omega), if_neg (by omega)]
set_option maxHeartbeats 4000000 in
theorem arity_any (o : Int) (w : World) : Calls Tryz.prog 173 #[.int .i64 o] w fun e w' => e = .returned (.int .i64 (arS o)) ∧ w = w' := by
  by_cases h : 1 ≤ o ∧ o ≤ 25
  · rcases cases25 h with rfl | rfl | rfl | rfl | rfl | rfl | rfl | rfl | rfl | rfl | rfl | rfl | rfl | rfl | rfl | rfl | rfl | rfl | rfl | rfl | rfl | rfl | rfl | rfl | rfl
    all_goals
      go_enter Tryz.func173, Tryz.ntmps173
      go_wp2; go_ret; exact ⟨rfl, rfl⟩
  · rw [ar_out h]; have f1 : (o == 1) = false := (by rw [beq_eq_false_iff_ne]; omega); have f2 : (o == 2) = false := (by rw [beq_eq_false_iff_ne]; omega); have f3 : (o == 3) = false := (by rw [beq_eq_false_iff_ne]; omega); have f4 : (o == 4) = false := (by rw [beq_eq_false_iff_ne]; omega); have f5 : (o == 5) = false := (by rw [beq_eq_false_iff_ne]; omega); have f6 : (o == 6) = false := (by rw [beq_eq_false_iff_ne]; omega); have f7 : (o == 7) = false := (by rw [beq_eq_false_iff_ne]; omega); have f8 : (o == 8) = false := (by rw [beq_eq_false_iff_ne]; omega); have f9 : (o == 9) = false := (by rw [beq_eq_false_iff_ne]; omega); have f10 : (o == 10) = false := (by rw [beq_eq_false_iff_ne]; omega); have f11 : (o == 11) = false := (by rw [beq_eq_false_iff_ne]; omega); have f12 : (o == 12) = false := (by rw [beq_eq_false_iff_ne]; omega); have f13 : (o == 13) = false := (by rw [beq_eq_false_iff_ne]; omega); have f14 : (o == 14) = false := (by rw [beq_eq_false_iff_ne]; omega); have f15 : (o == 15) = false := (by rw [beq_eq_false_iff_ne]; omega); have f16 : (o == 16) = false := (by rw [beq_eq_false_iff_ne]; omega); have f17 : (o == 17) = false := (by rw [beq_eq_false_iff_ne]; omega); have f18 : (o == 18) = false := (by rw [beq_eq_false_iff_ne]; omega); have f19 : (o == 19) = false := (by rw [beq_eq_false_iff_ne]; omega); have f20 : (o == 20) = false := (by rw [beq_eq_false_iff_ne]; omega); have f21 : (o == 21) = false := (by rw [beq_eq_false_iff_ne]; omega); have f22 : (o == 22) = false := (by rw [beq_eq_false_iff_ne]; omega); have f23 : (o == 23) = false := (by rw [beq_eq_false_iff_ne]; omega); have f24 : (o == 24) = false := (by rw [beq_eq_false_iff_ne]; omega); have f25 : (o == 25) = false := (by rw [beq_eq_false_iff_ne]; omega); have h1 : decide (o < 1) = true ∨ (decide (o < 1) = false ∧ decide (25 < o) = true) := by
      by_cases g : o < 1
      · exact .inl (by simpa using g)
      · exact .inr ⟨by simpa using g, by simp; omega⟩
    clear h; rcases h1 with h1 | ⟨h1, h2⟩
    all_goals
      go_enter Tryz.func173, Tryz.ntmps173
      go_wp2; go_ret; exact ⟨rfl, rfl⟩
end Go.Proofs.YtpejflgdehioaaaGreatDoor.ExW
namespace Go.Proofs.YtpejflgdehioaaaGreatDoor.ExW
open Go Go.RowKit Go.Proofs.YtpejflgdehioaaaGreatDoor.NumM Go.Proofs.YtpejflgdehioaaaGreatDoor.LexW Go.Proofs.YtpejflgdehioaaaGreatDoor.LexM Go.Proofs.YtpejflgdehioaaaGreatDoor.ExM
theorem takes_any (o : Int) (k : Nat) (w : World) (hk : k ≤ 140737488351232) :
    Calls Tryz.prog 142 #[.int .i64 o, .int .i64 k] w fun e w' => e = .returned (.bool (takesS o k)) ∧ w = w' := by
  by_cases h : o = 23
  · subst h; by_cases h1 : 3 ≤ (k : Int)
    · by_cases h2 : (k : Int) ≤ 33
      · go_enter Tryz.func142, Tryz.ntmps142
        go_wp2; go_ret; exact ⟨retb (by rw [takesS, if_pos rfl, Bool.eq_iff_iff]; simp only [beq_iff_eq, decide_eq_true_eq]; omega), rfl⟩
      · go_enter Tryz.func142, Tryz.ntmps142
        go_wp2; go_ret; exact ⟨retb (by rw [takesS, if_pos rfl, eq_comm, decide_eq_false_iff_not]; omega), rfl⟩
    · go_enter Tryz.func142, Tryz.ntmps142
      go_wp2; go_ret; exact ⟨retb (by rw [takesS, if_pos rfl, eq_comm, decide_eq_false_iff_not]; omega), rfl⟩
  · have h0 : (o == 23) = false := (by rw [beq_eq_false_iff_ne]; exact h); have EE : Hid (takesS o k = ((k : Int) == arS o)) := Lib.hid (by rw [takesS, if_neg h, Bool.eq_iff_iff]; simp); have AC : Hid (∀ W, Calls Tryz.prog 173 #[.int .i64 o] W fun e w' => e = .returned (.int .i64 (arS o)) ∧ W = w') := (Lib.hid fun W => arity_any o W); clear h; generalize arS o = A at *
    go_enter Tryz.func142, Tryz.ntmps142
    go_wp2_with (go_at_call 173; ((with_reducible refine (AC.out _).mono ?_); rintro e w' ⟨rfl, rfl⟩))
    go_ret; exact ⟨retb (by rw [EE.out]), rfl⟩
theorem great_any (o : Int) (w : World) : Calls Tryz.prog 143 #[.int .i64 o] w fun e w' => e = .returned (.int .i64 (greatS o)) ∧ w = w' := by
  by_cases h : o = 1
  · subst h
    go_enter Tryz.func143, Tryz.ntmps143
    go_wp2; go_ret; exact ⟨rfl, rfl⟩
  · have h0 : (o == 1) = false := (by rw [beq_eq_false_iff_ne]; exact h); have EE : Hid (greatS o = 0) := Lib.hid (if_neg h); clear h; rw [EE.out]
    go_enter Tryz.func143, Tryz.ntmps143
    go_wp2; go_ret; exact ⟨rfl, rfl⟩
theorem isVr_any (o : Int) (w : World) : Calls Tryz.prog 144 #[.int .i64 o] w fun e w' => e = .returned (.bool (isVr o)) ∧ w = w' := by
  go_enter Tryz.func144, Tryz.ntmps144
  go_wp2; go_ret; exact ⟨retb (by unfold isVr; rw [Bool.eq_iff_iff]; simp), rfl⟩
theorem isAr_any (o : Int) (w : World) : Calls Tryz.prog 145 #[.int .i64 o] w fun e w' => e = .returned (.bool (isAr o)) ∧ w = w' := by
  by_cases h : o = 3
  · subst h
    go_enter Tryz.func145, Tryz.ntmps145
    go_wp2; go_ret; exact ⟨rfl, rfl⟩
  · have h0 : (o == 3) = false := (by rw [beq_eq_false_iff_ne]; exact h); have EE : Hid (isAr o = (o == 24)) := Lib.hid (by unfold isAr; rw [Bool.eq_iff_iff]; simp [h]); clear h
    go_enter Tryz.func145, Tryz.ntmps145
    go_wp2; go_ret; exact ⟨retb (by rw [EE.out]), rfl⟩
def tInt (n : Int) (w : World) (e : Ending) (w' : World) : Prop := e = .returned (.int .i64 n) ∧ Below w.heap.size w w'
theorem tInt_mk {a n : Int} {w w' : World} (h : a = n) (hb : Below w.heap.size w w') : tInt n w (.returned (.int .i64 a)) w' := by subst h; exact ⟨rfl, hb⟩
theorem drewB {W w1 : World} {n : Nat} (h : Below W.heap.size W w1) : Below W.heap.size W (w1.drewN n) := ⟨h.os, h.tape, h.output, h.size, h.block⟩
theorem quietA {P : Program} {f : FuncId} {args : Array Value} {w : World} {a n : Nat} {v : Value}
    (h : Calls P f args (w.drewN (a + n)) fun e w' => e = .returned v ∧ w.drewN (a + n) = w') :
    Calls P f args (w.drewN (a + n)) fun e w'' => e = .returned v ∧ ∃ m, w'' = w.drewN (a + m) :=
  h.mono fun _ _ ⟨he, hm⟩ => ⟨he, n, hm.symm⟩
theorem str_empty (s : ByteArray) : s.toList.isEmpty = decide (s.size = 0) := by
  rw [Lib.toList_data, ← len_data]; cases s.data.toList <;> simp
set_option maxRecDepth 100000 in
set_option maxHeartbeats 8000000 in
theorem fault_any (o n : Int) (s : ByteArray) (p : Option Addr) (k cap : Nat) (w : World) (hs : s.size ≤ 140737488351232) (hk : k ≤ 140737488351232) (ht : Tab w) :
    Calls Tryz.prog 95 #[xv o n s (.slice p k cap)] w (tInt (fltS ⟨0, o, n, s, k⟩) w) := by
  have HT := Lib.hid ht; have TC : Hid (∀ W, Calls Tryz.prog 142 #[.int .i64 o, .int .i64 k] W fun e w' => e = .returned (.bool (takesS o k)) ∧ W = w') := (Lib.hid fun W => takes_any o k W hk); have GC : Hid (∀ W, Calls Tryz.prog 143 #[.int .i64 o] W fun e w' => e = .returned (.int .i64 (greatS o)) ∧ W = w') := (Lib.hid fun W => great_any o W); have VC : Hid (∀ W, Calls Tryz.prog 144 #[.int .i64 o] W fun e w' => e = .returned (.bool (isVr o)) ∧ W = w') := (Lib.hid fun W => isVr_any o W); have AC : Hid (∀ W, Calls Tryz.prog 145 #[.int .i64 o] W fun e w' => e = .returned (.bool (isAr o)) ∧ W = w') := (Lib.hid fun W => isAr_any o W); have NV : Hid (∀ W, Below w.heap.size w W → Calls Tryz.prog 146 #[.string s] W fun e w' => e = .returned (.bool (varB s.data.toList)) ∧ Below W.heap.size W w') := (Lib.hid fun W hb => isVar_any s W hs (HT.out.later hb)); have NA : Hid (∀ W, Below w.heap.size w W → Calls Tryz.prog 76 #[.string s] W fun e w' => e = .returned (.bool (nmB s.data.toList)) ∧ Below W.heap.size W w') := (Lib.hid fun W hb => by rw [← nameS_eq]; exact isName_any s W hs (HT.out.later hb)); have FF : Hid (fltS ⟨0, o, n, s, k⟩ = if (!takesS o k || (decide (n < 0) || (decide (greatS o < n) || (!decide (s.size = 0) && (!isVr o && !isAr o))))) = true then 1 else if ((isVr o && !varB s.data.toList) || (isAr o && !nmB s.data.toList)) = true then 7 else 0) := Lib.hid rfl; have HB0 : Hid (∀ a, Below w.heap.size w ((w.alloc (.cells #[.int .i64 o, .int .i64 n, .string s, .slice p k cap] 43)).drewN a)) := (Lib.hid fun a => drewB ((Below.refl _ _).alloc (Nat.le_refl _) _)); have hse := str_empty s; clear ht hs; generalize takesS o k = T at *
  generalize greatS o = G at *
  generalize isVr o = V at *
  generalize isAr o = A at *
  generalize varB s.data.toList = B at *
  generalize nmB s.data.toList = C at *
  generalize decide (s.size = 0) = Z at *
  cases T
  · go_enter Tryz.func95, Tryz.ntmps95
    go_wp2; go_quiet (fail)
    go_wp2_with (first
      | (go_at_call 142; ((with_reducible refine (TC.out _).mono ?_); rintro e w1 ⟨rfl, rfl⟩)))
    go_ret; exact tInt_mk (by rw [FF.out]; rfl) (HB0.out _)
  · by_cases hn : n < 0
    · have FE : Hid (fltS ⟨0, o, n, s, k⟩ = 1) := Lib.hid (by rw [FF.out, decide_eq_true hn]; rfl); clear FF
      go_enter Tryz.func95, Tryz.ntmps95
      go_wp2; go_quiet (fail)
      go_wp2_with (first
        | (go_at_call 142; ((with_reducible refine (TC.out _).mono ?_); rintro e w1 ⟨rfl, rfl⟩)))
      go_ret; exact tInt_mk FE.out.symm (HB0.out _)
    · have FF2 := FF.out; rw [decide_eq_false hn] at FF2; have FF2 := Lib.hid FF2; clear FF; by_cases hg : G < n
      · have FE : Hid (fltS ⟨0, o, n, s, k⟩ = 1) := Lib.hid (by rw [FF2.out, decide_eq_true hg]; rfl); clear FF2
        go_enter Tryz.func95, Tryz.ntmps95
        go_wp2; go_quiet (fail)
        go_wp2_with (first
          | (go_at_call 142; ((with_reducible refine (TC.out _).mono ?_); rintro e w1 ⟨rfl, rfl⟩)))
        go_quiet ((go_at_call 143; exact quietA (GC.out _)))
        go_wp2; go_ret; exact tInt_mk FE.out.symm (by first | exact HB0.out _ | exact drewB (HB0.out _))
      · have FF3 := FF2.out; rw [decide_eq_false hg] at FF3; have FF3 := Lib.hid FF3; clear FF2; cases Z <;> cases V <;> cases A <;> cases B <;> cases C
        all_goals
          have FE := Lib.hid FF3.out; clear FF3
          go_enter Tryz.func95, Tryz.ntmps95
          go_wp2; go_quiet (fail)
          go_wp2_with (first
            | (go_at_call 142; ((with_reducible refine (TC.out _).mono ?_); rintro e w1 ⟨rfl, rfl⟩)))
          go_quiet ((go_at_call 143; exact quietA (GC.out _)))
          go_wp2_with (first
            | (go_at_call 144; ((with_reducible refine (VC.out _).mono ?_); rintro e w1 ⟨rfl, rfl⟩))
            | (go_at_call 145; ((with_reducible refine (AC.out _).mono ?_); rintro e w1 ⟨rfl, rfl⟩))
            | (go_at_call 146; ((with_reducible refine (NV.out _ (HB0.out _)).mono ?_); rintro e w1 ⟨rfl, hb⟩; have HB1 := Lib.hid ((HB0.out _).then_ hb); clear hb))
            | (go_at_call 76; ((with_reducible refine (NA.out _ (HB0.out _)).mono ?_); rintro e w1 ⟨rfl, hb⟩; have HB1 := Lib.hid ((HB0.out _).then_ hb); clear hb))
            | (go_at_call 76; ((with_reducible refine (NA.out _ HB1.out).mono ?_); rintro e w2 ⟨rfl, hb⟩; have HB2 := Lib.hid (HB1.out.then_ hb); clear hb)))
          go_ret; exact tInt_mk (by rw [FE.out]; rfl) (by first | exact HB0.out _ | exact HB2.out | exact HB1.out)
end Go.Proofs.YtpejflgdehioaaaGreatDoor.ExW
