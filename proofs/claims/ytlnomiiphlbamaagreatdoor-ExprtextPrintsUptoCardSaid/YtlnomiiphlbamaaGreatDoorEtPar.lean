/-
  The parser in memory; its small methods.
-/
import Derived.Test.YtlnomiiphlbamaaGreatDoorEtLev
import Derived.Test.YtlnomiiphlbamaaGreatDoorLexJoin
import Derived.Test.YtlnomiiphlbamaaGreatDoorExBuild
import Derived.WalkLawsBesides
namespace Go.Proofs.YtlnomiiphlbamaaGreatDoor.EtW
open Go Go.RowKit Go.Proofs.YtlnomiiphlbamaaGreatDoor.NumM Go.Proofs.YtlnomiiphlbamaaGreatDoor.LexW Go.Proofs.YtlnomiiphlbamaaGreatDoor.LexM Go.Proofs.YtlnomiiphlbamaaGreatDoor.ExM Go.Proofs.YtlnomiiphlbamaaGreatDoor.ExW Go.Proofs.YtlnomiiphlbamaaGreatDoor.EtM

/-- What the parser reads: the tokens, in memory that was there before it. -/
structure Cx (L : List Tk) (sl : Value) (w0 : World) : Prop where
  tab : TabE w0
  tok : ToksAt w0 sl L
  val : ∀ t ∈ L, validS t = true
  len : L.length ≤ 16384
  tlen : ∀ t ∈ L, t.text.length ≤ 16384
def six (sl : Value) (k : Int) (t : Tk) : Array Value := #[sl, .int .i64 k, .int .i64 t.kind, .int .i64 t.n, .string (bs t.text), .int .i64 t.line]
abbrev Blk (W : World) (g : Nat) (sl : Value) (k : Int) (t : Tk) : Prop := W.heap[g]? = some (.cells (six sl k t) 56)
def pos (L r : List Tk) : Nat := L.length - r.length
/-- The parser at a rest of the tokens. -/
structure In (L : List Tk) (sl : Value) (w0 : World) (r : List Tk) (w : World) : Prop where
  bel : Below w0.heap.size w0 w
  blk : Blk w w0.heap.size sl (pos L r) (hdT r)
  suf : r = L.drop (pos L r) ∧ r.length ≤ L.length
theorem Blk.lt {W : World} {g : Nat} {sl : Value} {k : Int} {t : Tk} (h : Blk W g sl k t) : g < W.heap.size := (Array.getElem?_eq_some_iff.1 h).1
theorem Blk.cell {W : World} {g : Nat} {sl : Value} {k : Int} {t : Tk} (h : Blk W g sl k t) (j : Nat) : W.cell? ⟨g, j, none⟩ = (six sl k t)[j]? := cell_of_row W g j _ _ (0, 0) h
theorem Blk.frz {W : World} {g : Nat} {sl : Value} {k : Int} {t : Tk} (h : Blk W g sl k t) (j : Nat) : W.frozen? ⟨g, j, none⟩ = false := by simp [World.frozen?, show W.heap[g]? = _ from h]
theorem Blk.later {W W' : World} {g : Nat} {sl : Value} {k : Int} {t : Tk} (h : Blk W g sl k t) (hb : Below W.heap.size W W') : Blk W' g sl k t := (hb.block g h.lt).trans h
theorem In.lt {L : List Tk} {sl : Value} {w0 : World} {r : List Tk} {w : World} (h : In L sl w0 r w) : w0.heap.size < w.heap.size := h.blk.lt
theorem In.later {L : List Tk} {sl : Value} {w0 : World} {r : List Tk} {w w' : World} (h : In L sl w0 r w) (hb : Below w.heap.size w w') : In L sl w0 r w' :=
  ⟨h.bel.then_ hb, h.blk.later hb, h.suf⟩
theorem In.alloc {L : List Tk} {sl : Value} {w0 : World} {r : List Tk} {w : World} (h : In L sl w0 r w) (o : Obj) : In L sl w0 r (w.alloc o) := h.later ((Below.refl _ _).alloc (Nat.le_refl _) _)
theorem In.set {L : List Tk} {sl : Value} {w0 : World} {r : List Tk} {w : World} (h : In L sl w0 r w) {g o : Nat} (hg : w0.heap.size < g) (v : Value) : In L sl w0 r (w.setCell ⟨g, o, none⟩ v) :=
  ⟨h.bel.setCell (Nat.le_of_lt hg) _, (heap_setCell_other w ⟨g, o, none⟩ w0.heap.size v (by simpa using (Nat.ne_of_lt hg))).trans h.blk, h.suf⟩
/-- Only the parser has turned, and memory is new. -/
abbrev Tn (w0 w w' : World) : Prop := w.grownBy w' (some w0.heap.size)
theorem below_tn {w0 w w' : World} (hg : Tn w0 w w') (hs : w0.heap.size ≤ w.heap.size) : Below w0.heap.size w w' :=
  ⟨hg.os, hg.tape, hg.output, hg.size, fun k hk => hg.block k (by omega) (fun e => by have := Option.some.inj e; omega)⟩
theorem tn_below {w0 w w' : World} (hb : Below w.heap.size w w') : Tn w0 w w' := ⟨hb.os, hb.tape, hb.output, hb.size, fun k hk _ => hb.block k hk⟩
theorem Tn.refl (w0 w : World) : Tn w0 w w := World.grownBy.refl w _
theorem In.turn {L : List Tk} {sl : Value} {w0 : World} {r r' : List Tk} {w w' : World} (h : In L sl w0 r w) (hg : Tn w0 w w') (hb : Blk w' w0.heap.size sl (pos L r') (hdT r')) (hs : r' = L.drop (pos L r') ∧ r'.length ≤ L.length) : In L sl w0 r' w' :=
  ⟨h.bel.trans (below_tn hg (Nat.le_of_lt h.lt)), hb, hs⟩
theorem In.tab {L : List Tk} {sl : Value} {w0 : World} {r : List Tk} {w : World} (hc : Cx L sl w0) (h : In L sl w0 r w) : TabE w := hc.tab.later h.bel
theorem In.tok {L : List Tk} {sl : Value} {w0 : World} {r : List Tk} {w : World} (hc : Cx L sl w0) (h : In L sl w0 r w) : ToksAt w sl L := hc.tok.later h.bel
theorem suf_tail {L r : List Tk} (h : r = L.drop (pos L r) ∧ r.length ≤ L.length) (hr : 0 < r.length) : r.tail = L.drop (pos L r.tail) ∧ r.tail.length ≤ L.length ∧ pos L r.tail = pos L r + 1 := by
  have e : pos L r.tail = pos L r + 1 := by unfold pos; rw [tl_len]; have := h.2; omega
  refine ⟨?_, by rw [tl_len]; omega, e⟩
  rw [e, ← List.tail_drop, ← h.1]
theorem dB (W : World) (n : Nat) : Below W.heap.size W (W.drewN n) := drewB (Below.refl _ _)
/-- The panic of the parser. -/
abbrev pan (err : Int) (at_ : Int) : Ending := .panicked [{ v := .iface 49 (.agg #[.int .i64 err, .int .i64 at_]), recovered := false }]
def fErr (r : List Tk) : Int := if r.length = 0 then 6 else 5
set_option maxRecDepth 100000 in
theorem fault_raw (B k n cap : Nat) (p : Option Addr) (er : Int) (w : World) (c0 : (w.alloc (.cells #[.int .i64 0, .int .i64 0] 49)).cell? ⟨B, 0, none⟩ = some (.slice p n cap))
    (c1 : (w.alloc (.cells #[.int .i64 0, .int .i64 0] 49)).cell? ⟨B, 1, none⟩ = some (.int .i64 k)) (he : (k = n ∧ er = 6) ∨ (k ≠ n ∧ er = 5)) :
    Calls Tryz.prog 25 #[.pointer (some ⟨B, 0, none⟩)] w fun e w' => e = .returned (.agg #[.int .i64 er, .int .i64 k]) ∧ Below w.heap.size w w' := by
  have F0 := Duo.new w (.int .i64 0) (.int .i64 0) 49
  have HB0 : Hid (Below w.heap.size w (w.alloc (.cells #[.int .i64 0, .int .i64 0] 49))) := Lib.hid ((Below.refl _ _).alloc (Nat.le_refl _) _)
  have d0 := F0.c0
  have d1 := F0.c1
  have z0 := F0.f0
  have z1 := F0.f1
  have FF := Lib.hid F0
  clear F0
  rcases he with ⟨h1, h2⟩ | ⟨h1, h2⟩
  all_goals
    first
      | (have t1 : ((k : Int) == (n : Int)) = true := by rw [h1]; simp)
      | (have t1 : ((k : Int) == (n : Int)) = false := by rw [beq_eq_false_iff_ne]; omega)
    subst h2
    clear h1
    go_enter Tryz.func25, Tryz.ntmps25
    go_wp2
    go_quiet (fail)
    go_wp2
    first
      | (have hP := (FF.out.stay (dB _ nq)).put (.int .i64 6) (.int .i64 k)
         have r0 := hP.c0
         have r1 := hP.c1
         refine bodyPost_ret (v := .agg #[.int .i64 6, .int .i64 k]) (by simp [results, Tryz.results25, go_sem, r0, r1]) rfl ⟨rfl, ?_⟩
         exact below_duo (HB0.out.then_ (dB _ nq)) (Nat.le_refl _) _ _)
      | (have hP := (FF.out.stay (dB _ nq)).put (.int .i64 5) (.int .i64 k)
         have r0 := hP.c0
         have r1 := hP.c1
         refine bodyPost_ret (v := .agg #[.int .i64 5, .int .i64 k]) (by simp [results, Tryz.results25, go_sem, r0, r1]) rfl ⟨rfl, ?_⟩
         exact below_duo (HB0.out.then_ (dB _ nq)) (Nat.le_refl _) _ _)
theorem fault_any {L : List Tk} {sl : Value} {w0 : World} (hc : Cx L sl w0) (r : List Tk) (w : World) (h : In L sl w0 r w) :
    Calls Tryz.prog 25 #[.pointer (some ⟨w0.heap.size, 0, none⟩)] w fun e w' => e = .returned (.agg #[.int .i64 (fErr r), .int .i64 (pos L r)]) ∧ Below w.heap.size w w' := by
  obtain ⟨p, cap, hsl, _⟩ := hc.tok
  have hle := h.suf.2
  have HA := (h.alloc (.cells #[.int .i64 0, .int .i64 0] 49)).blk
  refine fault_raw w0.heap.size (pos L r) L.length cap p (fErr r) w (by rw [← hsl]; exact HA.cell 0) (HA.cell 1) ?_
  unfold pos fErr
  by_cases g : r.length = 0
  · rw [if_pos g]; exact .inl ⟨by omega, rfl⟩
  · rw [if_neg g]; exact .inr ⟨by omega, rfl⟩
set_option maxRecDepth 100000 in
set_option maxHeartbeats 2000000 in
/-- A valid token is valid for the parser. -/
theorem isValid_any (t : Tk) (w : World) (ht : Tab w) (hv : validS t = true) (hl : t.text.length ≤ 16384) :
    Calls Tryz.prog 86 #[tvT t] w fun e w' => e = .returned (.bool true) ∧ Below w.heap.size w w' := by
  have hb2 : Below w.heap.size w ((w.alloc (.cells #[.int .i64 t.kind, .int .i64 t.n, .string (bs t.text), .int .i64 t.line] 41)).alloc (.cells #[.int .i64 t.kind, .int .i64 t.n, .string (bs t.text), .int .i64 t.line] 41)) := ((Below.refl _ _).alloc (Nat.le_refl _) _).alloc (by simp) _
  have F1 := Four.new w (.int .i64 t.kind) (.int .i64 t.n) (.string (bs t.text)) (.int .i64 t.line) 41
  have F2 := Four.new (w.alloc (.cells #[.int .i64 t.kind, .int .i64 t.n, .string (bs t.text), .int .i64 t.line] 41)) (.int .i64 t.kind) (.int .i64 t.n) (.string (bs t.text)) (.int .i64 t.line) 41
  rw [World.size_alloc] at F2
  have TA : ToksAt ((w.alloc (.cells #[.int .i64 t.kind, .int .i64 t.n, .string (bs t.text), .int .i64 t.line] 41)).alloc (.cells #[.int .i64 t.kind, .int .i64 t.n, .string (bs t.text), .int .i64 t.line] 41)) (.slice (some ⟨w.heap.size + 1, 0, none⟩) 1 1) [t] :=
    ⟨some ⟨w.heap.size + 1, 0, none⟩, 1, rfl, by simp, fun _ => ⟨w.heap.size + 1, 0, rfl, F2.lt, fun i u hi => by
      match i, hi with
      | 0, hi =>
        cases hi
        exact ⟨F2.c0, F2.c1, F2.c2, F2.c3⟩⟩⟩
  have JC := join_any [t] _ _ TA (by simp) (by simpa using hl) (ht.later hb2)
  have hj : joinS [t] = (t.text, 0) := by unfold joinS; rw [if_pos (by simp [hv])]; rfl
  rw [hj] at JC
  have JC := Lib.hid JC
  have HB2 := Lib.hid hb2
  have e0 := F1.c0
  have e1 := F1.c1
  have e2 := F1.c2
  have e3 := F1.c3
  clear TA F1 F2 hb2 hj ht hv hl
  show Calls Tryz.prog 86 #[.agg #[.int .i64 t.kind, .int .i64 t.n, .string (bs t.text), .int .i64 t.line]] w _
  generalize t.kind = tk at *
  generalize t.n = tn at *
  generalize bs t.text = tt at *
  generalize t.line = tl at *
  go_enter Tryz.func86, Tryz.ntmps86
  go_wp2_with (go_at_call 113; ((with_reducible refine JC.out.mono ?_); rintro e w2 ⟨rfl, hb⟩; have HB3 := Lib.hid (HB2.out.then_ hb); clear hb))
  go_ret
  exact ⟨rfl, HB3.out⟩
/-- The six cells of a parser. -/
def Six (W : World) (g : Nat) (x0 x1 x2 x3 x4 x5 : Value) : Prop := W.heap[g]? = some (.cells #[x0, x1, x2, x3, x4, x5] 56)
section
variable {W W' : World} {g : Nat} {x0 x1 x2 x3 x4 x5 : Value}
theorem Six.lt (h : Six W g x0 x1 x2 x3 x4 x5) : g < W.heap.size := (Array.getElem?_eq_some_iff.1 h).1
theorem Six.cell (h : Six W g x0 x1 x2 x3 x4 x5) (j : Nat) : W.cell? ⟨g, j, none⟩ = (#[x0, x1, x2, x3, x4, x5] : Array Value)[j]? := cell_of_row W g j _ _ (0, 0) h
theorem Six.c0 (h : Six W g x0 x1 x2 x3 x4 x5) : W.cell? ⟨g, 0, none⟩ = some x0 := h.cell 0
theorem Six.c1 (h : Six W g x0 x1 x2 x3 x4 x5) : W.cell? ⟨g, 1, none⟩ = some x1 := h.cell 1
theorem Six.c2 (h : Six W g x0 x1 x2 x3 x4 x5) : W.cell? ⟨g, 2, none⟩ = some x2 := h.cell 2
theorem Six.c3 (h : Six W g x0 x1 x2 x3 x4 x5) : W.cell? ⟨g, 3, none⟩ = some x3 := h.cell 3
theorem Six.c4 (h : Six W g x0 x1 x2 x3 x4 x5) : W.cell? ⟨g, 4, none⟩ = some x4 := h.cell 4
theorem Six.c5 (h : Six W g x0 x1 x2 x3 x4 x5) : W.cell? ⟨g, 5, none⟩ = some x5 := h.cell 5
theorem Six.frz (h : Six W g x0 x1 x2 x3 x4 x5) (j : Nat) : W.frozen? ⟨g, j, none⟩ = false := by simp [World.frozen?, show W.heap[g]? = _ from h]
theorem Six.new (W : World) (x0 x1 x2 x3 x4 x5 : Value) : Six (W.alloc (.cells #[x0, x1, x2, x3, x4, x5] 56)) W.heap.size x0 x1 x2 x3 x4 x5 := heap_alloc_new _ _
theorem Six.later (h : Six W g x0 x1 x2 x3 x4 x5) (hb : Below W.heap.size W W') : Six W' g x0 x1 x2 x3 x4 x5 := (hb.block g h.lt).trans h
theorem Six.set1 (h : Six W g x0 x1 x2 x3 x4 x5) (u : Value) : Six (W.setCell ⟨g, 1, none⟩ u) g x0 u x2 x3 x4 x5 := by unfold Six; rw [heap_setCell_same W g 1 _ _ u h]; rfl
theorem Six.set2 (h : Six W g x0 x1 x2 x3 x4 x5) (u : Value) : Six (W.setCell ⟨g, 2, none⟩ u) g x0 x1 u x3 x4 x5 := by unfold Six; rw [heap_setCell_same W g 2 _ _ u h]; rfl
theorem Six.set3 (h : Six W g x0 x1 x2 x3 x4 x5) (u : Value) : Six (W.setCell ⟨g, 3, none⟩ u) g x0 x1 x2 u x4 x5 := by unfold Six; rw [heap_setCell_same W g 3 _ _ u h]; rfl
theorem Six.set4 (h : Six W g x0 x1 x2 x3 x4 x5) (u : Value) : Six (W.setCell ⟨g, 4, none⟩ u) g x0 x1 x2 x3 u x5 := by unfold Six; rw [heap_setCell_same W g 4 _ _ u h]; rfl
theorem Six.set5 (h : Six W g x0 x1 x2 x3 x4 x5) (u : Value) : Six (W.setCell ⟨g, 5, none⟩ u) g x0 x1 x2 x3 x4 u := by unfold Six; rw [heap_setCell_same W g 5 _ _ u h]; rfl
end
theorem grownBy_set (W : World) (b o : Nat) (v : Value) : W.grownBy (W.setCell ⟨b, o, none⟩ v) (some b) :=
  ⟨by simp [World.setCell], by simp [World.setCell], by simp [World.setCell], by rw [setCell_size]; exact Nat.le_refl _, fun k _ hne => heap_setCell_other W ⟨b, o, none⟩ k v (by intro e; exact hne (by rw [e]))⟩
theorem gset {a b : World} {g : Nat} (h : a.grownBy b (some g)) (o : Nat) (v : Value) : a.grownBy (b.setCell ⟨g, o, none⟩ v) (some g) := h.trans (grownBy_set b g o v)
theorem bset {B : Nat} {a b : World} (h : Below B a b) (o : Nat) (v : Value) : Below B a (b.setCell ⟨B, o, none⟩ v) := h.setCell (Nat.le_refl _) _
theorem gbel {w w' : World} (hb : Below w.heap.size w w') (g : Nat) : w.grownBy w' (some g) := ⟨hb.os, hb.tape, hb.output, hb.size, fun k hk _ => hb.block k hk⟩
def tMove (B : Nat) (sl : Value) (k : Nat) (t : Tk) (w : World) (e : Ending) (w' : World) : Prop :=
  e = .returned (.tuple #[]) ∧ w.grownBy w' (some B) ∧ Blk w' B sl k t
set_option maxRecDepth 100000 in
set_option maxHeartbeats 4000000 in
theorem move_in (B b off k n cap : Nat) (t : Tk) (x1 x2 x3 x4 x5 : Value) (w : World) (hS : Six w B (.slice (some ⟨b, off, none⟩) n cap) x1 x2 x3 x4 x5) (hk : k < n) (_hn : n ≤ cap) (_hn2 : n ≤ 16384) (hb : b < B)
    (q0 : w.cell? ⟨b, off + k * 4, none⟩ = some (.int .i64 t.kind)) (q1 : w.cell? ⟨b, off + k * 4 + 1, none⟩ = some (.int .i64 t.n)) (q2 : w.cell? ⟨b, off + k * 4 + 2, none⟩ = some (.string (bs t.text))) (q3 : w.cell? ⟨b, off + k * 4 + 3, none⟩ = some (.int .i64 t.line))
    (IV : ∀ W, Below B w W → Calls Tryz.prog 86 #[tvT t] W fun e w' => e = .returned (.bool true) ∧ Below W.heap.size W w') :
    Calls Tryz.prog 46 #[.pointer (some ⟨B, 0, none⟩), .int .i64 k] w (tMove B (.slice (some ⟨b, off, none⟩) n cap) k t w) := by
  have S1 := (((((hS.set1 (.int .i64 k)).set2 (.int .i64 0)).set3 (.int .i64 0)).set4 (.string ⟨#[]⟩)).set5 (.int .i64 0))
  have HB1 := Lib.hid (bset (bset (bset (bset (bset (Below.refl B w) 1 (.int .i64 k)) 2 (.int .i64 0)) 3 (.int .i64 0)) 4 (.string ⟨#[]⟩)) 5 (.int .i64 0))
  have G1 := Lib.hid (gset (gset (gset (gset (gset (World.grownBy.refl w (some B)) 1 (.int .i64 k)) 2 (.int .i64 0)) 3 (.int .i64 0)) 4 (.string ⟨#[]⟩)) 5 (.int .i64 0))
  have c0 := hS.c0
  have c1 := hS.c1
  have c2 := hS.c2
  have c3 := hS.c3
  have c4 := hS.c4
  have c5 := hS.c5
  have z1 := hS.frz 1
  have z2 := hS.frz 2
  have z3 := hS.frz 3
  have z4 := hS.frz 4
  have z5 := hS.frz 5
  obtain ⟨w1, hw1⟩ : ∃ w1, ((((w.setCell ⟨B, 1, none⟩ (.int .i64 k)).setCell ⟨B, 2, none⟩ (.int .i64 0)).setCell ⟨B, 3, none⟩ (.int .i64 0)).setCell ⟨B, 4, none⟩ (.string ⟨#[]⟩)).setCell ⟨B, 5, none⟩ (.int .i64 0) = w1 := ⟨_, rfl⟩
  have HW := Lib.hid hw1
  rw [hw1] at S1 HB1 G1
  clear hw1
  have HS1 := Lib.hid S1
  have d0 := S1.c0
  have r0 := (HB1.out.cell (p := ⟨b, off + k * 4, none⟩) hb).trans q0
  have r1 := (HB1.out.cell (p := ⟨b, off + k * 4 + 1, none⟩) hb).trans q1
  have r2 := (HB1.out.cell (p := ⟨b, off + k * 4 + 2, none⟩) hb).trans q2
  have r3 := (HB1.out.cell (p := ⟨b, off + k * 4 + 3, none⟩) hb).trans q3
  have IC := Lib.hid (IV w1 HB1.out)
  have hbl : b < w1.heap.size := Nat.lt_trans hb S1.lt
  clear q0 q1 q2 q3 IV S1
  unfold tvT at IC
  unfold tMove Blk six
  obtain ⟨tk, htk⟩ : ∃ x, t.kind = x := ⟨_, rfl⟩
  obtain ⟨tn, htn⟩ : ∃ x, t.n = x := ⟨_, rfl⟩
  obtain ⟨tt, htt⟩ : ∃ x, bs t.text = x := ⟨_, rfl⟩
  obtain ⟨tl, htl⟩ : ∃ x, t.line = x := ⟨_, rfl⟩
  rw [htk] at r0 IC ⊢
  rw [htn] at r1 IC ⊢
  rw [htt] at r2 IC ⊢
  rw [htl] at r3 IC ⊢
  clear htk htn htt htl hS
  go_enter Tryz.func46, Tryz.ntmps46
  go_upto_region 1 with (fail)
  rw [HW.out]
  clear c0 c1 c2 c3 c4 c5 z1 z2 z3 z4 z5 HW
  go_wp2_with (go_at_call 86; ((with_reducible refine IC.out.mono ?_); rintro e w2 ⟨rfl, hb2⟩; have HB2 := Lib.hid hb2; have S2 := HS1.out.later hb2; have HS2 := Lib.hid S2; have e0 := S2.c0; have e2 := S2.c2; have e3 := S2.c3; have e4 := S2.c4; have e5 := S2.c5; have y2 := S2.frz 2; have y3 := S2.frz 3; have y4 := S2.frz 4; have y5 := S2.frz 5; have s0 := (hb2.cell (p := ⟨b, off + k * 4, none⟩) hbl).trans r0; have s1 := (hb2.cell (p := ⟨b, off + k * 4 + 1, none⟩) hbl).trans r1; have s2 := (hb2.cell (p := ⟨b, off + k * 4 + 2, none⟩) hbl).trans r2; have s3 := (hb2.cell (p := ⟨b, off + k * 4 + 3, none⟩) hbl).trans r3; clear hb2 S2 r0 r1 r2 r3 d0))
  go_end0
  exact ⟨rfl, gset (gset (gset (gset (G1.out.trans (gbel HB2.out B)) _ _) _ _) _ _) _ _, (((HS2.out.set2 _).set3 _).set4 _).set5 _⟩
set_option maxRecDepth 100000 in
set_option maxHeartbeats 4000000 in
theorem move_end (B n cap : Nat) (p : Option Addr) (x1 x2 x3 x4 x5 : Value) (w : World) (hS : Six w B (.slice p n cap) x1 x2 x3 x4 x5) (_hn2 : n ≤ 16384) :
    Calls Tryz.prog 46 #[.pointer (some ⟨B, 0, none⟩), .int .i64 n] w (tMove B (.slice p n cap) n zTk w) := by
  have S1 := (((((hS.set1 (.int .i64 n)).set2 (.int .i64 0)).set3 (.int .i64 0)).set4 (.string ⟨#[]⟩)).set5 (.int .i64 0))
  have G1 := Lib.hid (gset (gset (gset (gset (gset (World.grownBy.refl w (some B)) 1 (.int .i64 n)) 2 (.int .i64 0)) 3 (.int .i64 0)) 4 (.string ⟨#[]⟩)) 5 (.int .i64 0))
  have c0 := hS.c0
  have c1 := hS.c1
  have c2 := hS.c2
  have c3 := hS.c3
  have c4 := hS.c4
  have c5 := hS.c5
  have z1 := hS.frz 1
  have z2 := hS.frz 2
  have z3 := hS.frz 3
  have z4 := hS.frz 4
  have z5 := hS.frz 5
  obtain ⟨w1, hw1⟩ : ∃ w1, ((((w.setCell ⟨B, 1, none⟩ (.int .i64 n)).setCell ⟨B, 2, none⟩ (.int .i64 0)).setCell ⟨B, 3, none⟩ (.int .i64 0)).setCell ⟨B, 4, none⟩ (.string ⟨#[]⟩)).setCell ⟨B, 5, none⟩ (.int .i64 0) = w1 := ⟨_, rfl⟩
  have HW := Lib.hid hw1
  rw [hw1] at S1 G1
  clear hw1
  have HS1 := Lib.hid S1
  have d0 := S1.c0
  clear S1 hS
  unfold tMove Blk six
  go_enter Tryz.func46, Tryz.ntmps46
  go_upto_region 1 with (fail)
  rw [HW.out]
  clear c0 c1 c2 c3 c4 c5 z1 z2 z3 z4 z5 HW
  go_wp2
  go_end0
  exact ⟨rfl, G1.out, HS1.out⟩
def tIn (L : List Tk) (sl : Value) (w0 : World) (r : List Tk) (w : World) (v : Value) (e : Ending) (w' : World) : Prop := e = .returned v ∧ Tn w0 w w' ∧ In L sl w0 r w'
theorem hd_at {L r : List Tk} (h : r = L.drop (pos L r) ∧ r.length ≤ L.length) (hr : 0 < r.length) : L[pos L r]? = some (hdT r) := by
  cases r with
  | nil => simp at hr
  | cons t q =>
    have e := congrArg List.head? h.1
    rw [List.head?_cons, List.head?_drop] at e
    exact e.symm
theorem move_any {L : List Tk} {sl : Value} {w0 : World} (hc : Cx L sl w0) {r : List Tk} {w : World} (h : In L sl w0 r w) (r' : List Tk) (hs : r' = L.drop (pos L r') ∧ r'.length ≤ L.length) :
    Calls Tryz.prog 46 #[.pointer (some ⟨w0.heap.size, 0, none⟩), .int .i64 (pos L r')] w (tIn L sl w0 r' w (.tuple #[])) := by
  have hT := h.tok hc
  obtain ⟨p, cap, hsl, hcap, hx⟩ := hc.tok
  have hl := hc.len
  subst hsl
  have hS : Six w w0.heap.size _ _ _ _ _ _ := h.blk
  by_cases g : r'.length = 0
  · have e : pos L r' = L.length := by unfold pos; omega
    have e2 : r' = [] := List.length_eq_zero_iff.1 g
    have M := move_end w0.heap.size L.length cap p _ _ _ _ _ w hS hl
    rw [e]
    refine M.mono fun e w' hm => ⟨hm.1, hm.2.1, h.turn hm.2.1 ?_ hs⟩
    rw [e2]
    have := hm.2.2
    unfold pos
    exact this
  · obtain ⟨b, off, rfl, hb, hcell⟩ := hx (by have := hs.2; omega)
    have hd := hd_at hs (by omega)
    obtain ⟨q0, q1, q2, q3⟩ := hcell _ _ hd
    have M := move_in w0.heap.size b off (pos L r') L.length cap (hdT r') _ _ _ _ _ w hS (by unfold pos; have := hs.2; omega) hcap hl hb
      ((h.bel.cell (p := ⟨b, off + pos L r' * 4, none⟩) hb).trans q0) ((h.bel.cell (p := ⟨b, off + pos L r' * 4 + 1, none⟩) hb).trans q1) ((h.bel.cell (p := ⟨b, off + pos L r' * 4 + 2, none⟩) hb).trans q2) ((h.bel.cell (p := ⟨b, off + pos L r' * 4 + 3, none⟩) hb).trans q3)
      (fun W hW => isValid_any _ W (hc.tab.base.later (h.bel.trans hW)) (hc.val _ (List.mem_of_getElem? hd)) (hc.tlen _ (List.mem_of_getElem? hd)))
    exact M.mono fun e w' hm => ⟨hm.1, hm.2.1, h.turn hm.2.1 hm.2.2 hs⟩
/-- To the next token. -/
theorem step_any {L : List Tk} {sl : Value} {w0 : World} (hc : Cx L sl w0) {r : List Tk} {w : World} (h : In L sl w0 r w) (hr : 0 < r.length) :
    Calls Tryz.prog 46 #[.pointer (some ⟨w0.heap.size, 0, none⟩), .int .i64 ((pos L r : Int) + 1)] w (tIn L sl w0 r.tail w (.tuple #[])) := by
  obtain ⟨h1, h2, h3⟩ := suf_tail h.suf hr
  have M := move_any hc h r.tail ⟨h1, h2⟩
  rw [h3, show ((pos L r + 1 : Nat) : Int) = (pos L r : Int) + 1 by omega] at M
  exact M
theorem pos_le {L : List Tk} (r : List Tk) (h : L.length ≤ 16384) : pos L r ≤ 16384 := by unfold pos; omega
set_option maxRecDepth 100000 in
set_option maxHeartbeats 2000000 in
theorem skip_yes {L : List Tk} {sl : Value} {w0 : World} (hc : Cx L sl w0) {r : List Tk} {w : World} (h : In L sl w0 r w) (m : ByteArray) (hm : tx r = m.data.toList) (hr : 0 < r.length) :
    Calls Tryz.prog 48 #[.pointer (some ⟨w0.heap.size, 0, none⟩), .string m] w (tIn L sl w0 r.tail w (.bool true)) := by
  have MC := Lib.hid (step_any hc h hr)
  have hS : Six w w0.heap.size _ _ _ _ _ _ := h.blk
  have c1 := hS.c1
  have c4 := hS.c4
  have hk := pos_le r hc.len
  have hx : bs (hdT r).text = m := by rw [← bs_data m, ← hm]; rfl
  rw [hx] at c4
  have t1 : (m.toList == m.toList) = true := by simp
  clear hS hx hm h
  generalize pos L r = k at *
  unfold tIn at MC ⊢
  generalize w0.heap.size = B at *
  go_enter Tryz.func48, Tryz.ntmps48
  go_wp2_with (go_at_call 46; ((with_reducible refine MC.out.mono ?_); rintro e w2 ⟨rfl, hb⟩; have HB := Lib.hid hb; clear hb c1 c4))
  go_ret
  exact ⟨rfl, HB.out⟩
set_option maxRecDepth 100000 in
set_option maxHeartbeats 2000000 in
theorem skip_no {L : List Tk} {sl : Value} {w0 : World} {r : List Tk} {w : World} (h : In L sl w0 r w) (m : ByteArray) (hm : tx r ≠ m.data.toList) :
    Calls Tryz.prog 48 #[.pointer (some ⟨w0.heap.size, 0, none⟩), .string m] w (fun e w' => e = .returned (.bool false) ∧ w = w') := by
  have hS : Six w w0.heap.size _ _ _ _ _ _ := h.blk
  have c4 := hS.c4
  obtain ⟨x, hx⟩ : ∃ x : ByteArray, bs (hdT r).text = x := ⟨_, rfl⟩
  have t1 : (x.toList == m.toList) = false := by rw [Lib.toList_data, Lib.toList_data, ← hx]; simpa [tx] using hm
  rw [hx] at c4
  clear hS hx hm h
  generalize w0.heap.size = B at *
  go_enter Tryz.func48, Tryz.ntmps48
  go_wp2
  go_ret
  exact ⟨rfl, rfl⟩
/-- The parser gives up. -/
def tBad (L : List Tk) (w0 : World) (err : Int) (k : Nat) (w : World) (e : Ending) (w' : World) : Prop := e = pan err ((L.length - k : Nat) : Int) ∧ Tn w0 w w'
theorem Tn.then_ {w0 a b c : World} (h : Tn w0 a b) (k : Tn w0 b c) : Tn w0 a c := World.grownBy.trans h k
set_option maxRecDepth 100000 in
set_option maxHeartbeats 2000000 in
theorem need_yes' {L : List Tk} {sl : Value} {w0 : World} (hc : Cx L sl w0) {r : List Tk} {w : World} (h : In L sl w0 r w) (m : ByteArray) (hm : tx r = m.data.toList) (hr : 0 < r.length) :
    Calls Tryz.prog 49 #[.pointer (some ⟨w0.heap.size, 0, none⟩), .string m] w (tIn L sl w0 r.tail w (.tuple #[])) := by
  have SC := Lib.hid (skip_yes hc h m hm hr)
  clear hm h
  unfold tIn at SC ⊢
  generalize w0.heap.size = B at *
  go_enter Tryz.func49, Tryz.ntmps49
  go_wp2_with (go_at_call 48; ((with_reducible refine SC.out.mono ?_); rintro e w2 ⟨rfl, hb⟩; have HB := Lib.hid hb; clear hb))
  go_end0
  exact ⟨rfl, HB.out⟩
set_option maxRecDepth 100000 in
set_option maxHeartbeats 2000000 in
theorem need_no' {L : List Tk} {sl : Value} {w0 : World} (hc : Cx L sl w0) {r : List Tk} {w : World} (h : In L sl w0 r w) (m : ByteArray) (hm : tx r ≠ m.data.toList) :
    Calls Tryz.prog 49 #[.pointer (some ⟨w0.heap.size, 0, none⟩), .string m] w (tBad L w0 (fErr r) r.length w) := by
  have SC := Lib.hid (skip_no h m hm)
  have FC := Lib.hid (fault_any hc r w h)
  clear hm h
  show Calls _ _ _ _ (fun e w' => e = pan (fErr r) (pos L r) ∧ Tn w0 w w')
  generalize pos L r = k at *
  generalize fErr r = er at *
  unfold Tn
  generalize w0.heap.size = B at *
  go_enter Tryz.func49, Tryz.ntmps49
  go_wp2_with (first
    | (go_at_call 48; ((with_reducible refine SC.out.mono ?_); rintro e w2 ⟨rfl, rfl⟩))
    | (go_at_call 25; ((with_reducible refine FC.out.mono ?_); rintro e w2 ⟨rfl, hb⟩; have HB := Lib.hid hb; clear hb)))
  exact ⟨rfl, rfl, gbel HB.out B⟩
end Go.Proofs.YtlnomiiphlbamaaGreatDoor.EtW
