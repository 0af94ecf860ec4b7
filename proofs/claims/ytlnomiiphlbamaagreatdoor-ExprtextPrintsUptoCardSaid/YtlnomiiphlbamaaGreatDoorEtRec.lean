/-
  The parser's recursive methods: what is said of them; choice.
-/
import Derived.Test.YtlnomiiphlbamaaGreatDoorEtPar2
import Derived.Test.YtlnomiiphlbamaaGreatDoorEtBack
import Derived.Deep.RegionHeld3
import Derived.Deep.RegionWith
import Derived.Deep.DeepCutAuto
namespace Go.Proofs.YtlnomiiphlbamaaGreatDoor.EtW
open Go Go.RowKit Go.Proofs.YtlnomiiphlbamaaGreatDoor.NumM Go.Proofs.YtlnomiiphlbamaaGreatDoor.LexW Go.Proofs.YtlnomiiphlbamaaGreatDoor.LexM Go.Proofs.YtlnomiiphlbamaaGreatDoor.ExM Go.Proofs.YtlnomiiphlbamaaGreatDoor.ExW Go.Proofs.YtlnomiiphlbamaaGreatDoor.EtM

/-- Blocks of memory that is new since w. -/
def New (w w' : World) (b : Nat) : Prop := w.heap.size ≤ b ∧ b < w'.heap.size
/-- The parser returns an expression that lies in new memory, and stands at r. -/
def tOk (L : List Tk) (sl : Value) (w0 : World) (r : List Tk) (x : Ex) (w : World) (e : Ending) (w' : World) : Prop :=
  ∃ o n s p k c, e = .returned (xv o n s (.slice p k c)) ∧ Tn w0 w w' ∧ In L sl w0 r w' ∧ Fr w.heap.size w' (xv o n s (.slice p k c)) x
/-- .. or in blocks of P. -/
def tOkP (L : List Tk) (sl : Value) (w0 : World) (r : List Tk) (x : Ex) (P : Nat → Prop) (w : World) (e : Ending) (w' : World) : Prop :=
  ∃ o n s p k c, e = .returned (xv o n s (.slice p k c)) ∧ Tn w0 w w' ∧ In L sl w0 r w' ∧ ExS (fun b => P b ∨ New w w' b) w' (xv o n s (.slice p k c)) x
def tRs (L : List Tk) (sl : Value) (w0 : World) (q : Rs) (w : World) (e : Ending) (w' : World) : Prop :=
  match q with
  | .ok x r => tOk L sl w0 r x w e w'
  | .bad err k => tBad L w0 err k w e w'
  | .out => True
def tRsP (L : List Tk) (sl : Value) (w0 : World) (q : Rs) (P : Nat → Prop) (w : World) (e : Ending) (w' : World) : Prop :=
  match q with
  | .ok x r => tOkP L sl w0 r x P w e w'
  | .bad err k => tBad L w0 err k w e w'
  | .out => True
/-- What the call of a job's method does. -/
def Ct (L : List Tk) (sl : Value) (w0 : World) (f : Nat) (j : Jb) (F : Nat) (args : Array Value) : Prop :=
  ∀ r w, In L sl w0 r w → run f j r ≠ .out → Calls Tryz.prog F args w (tRs L sl w0 (run f j r) w)
theorem Ct.ok {L : List Tk} {sl : Value} {w0 : World} {f : Nat} {j : Jb} {F : Nat} {args : Array Value} (C : Ct L sl w0 f j F args) {r : List Tk} {w : World} (h : In L sl w0 r w) {x : Ex} {r' : List Tk} (hq : run f j r = .ok x r') : Calls Tryz.prog F args w (tOk L sl w0 r' x w) := by
  have := C r w h (by rw [hq]; exact ok_ne)
  rw [hq] at this
  exact this
theorem Ct.bad {L : List Tk} {sl : Value} {w0 : World} {f : Nat} {j : Jb} {F : Nat} {args : Array Value} (C : Ct L sl w0 f j F args) {r : List Tk} {w : World} (h : In L sl w0 r w) {er : Int} {k : Nat} (hq : run f j r = .bad er k) : Calls Tryz.prog F args w (tBad L w0 er k w) := by
  have := C r w h (by rw [hq]; intro e; cases e)
  rw [hq] at this
  exact this
theorem ex_turn {S : Nat → Prop} {w0 w w' : World} {v : Value} {e : Ex} (h : ExS S w v e) (hg : Tn w0 w w') (hS : ∀ b, S b → b < w.heap.size ∧ w0.heap.size < b) : ExS S w' v e :=
  h.kept (fun _ q => q) (fun b o q v hv => (World.cell?_of_block (w := w) (a := ⟨b, o, none⟩) (hg.block b (hS b q).1 (fun e => by have := Option.some.inj e; have := (hS b q).2; omega))).trans hv)
theorem fr_turn {lo : Nat} {w0 w w' : World} {v : Value} {e : Ex} (h : Fr lo w v e) (hg : Tn w0 w w') (hl : w0.heap.size < lo) : Fr lo w' v e :=
  (ex_turn h hg (fun b q => ⟨q.2, by omega⟩)).kept (fun _ q => ⟨q.1, Nat.lt_of_lt_of_le q.2 hg.size⟩) (fun _ _ _ _ hv => hv)
theorem fr_alloc {lo : Nat} {w : World} {v : Value} {e : Ex} (h : Fr lo w v e) (o : Obj) : Fr lo (w.alloc o) v e := h.later ((Below.refl _ _).alloc (Nat.le_refl _) _)
/-- A store into a block that is no operand's. -/
theorem ex_away {S : Nat → Prop} {w : World} {v : Value} {e : Ex} (h : ExS S w v e) {g o : Nat} (hg : ¬ S g) (u : Value) : ExS S (w.setCell ⟨g, o, none⟩ u) v e :=
  h.kept (fun _ q => q) (fun b i q x hx => by rw [World.cell?_setCell_other _ _ _ _ (fun e => by have := congrArg Addr.block e; simp at this; exact hg (this ▸ q))]; exact hx)
theorem ex_away4 {S : Nat → Prop} {w : World} {v : Value} {e : Ex} (h : ExS S w v e) {g : Nat} (hg : ¬ S g) (y0 y1 y2 y3 : Value) : ExS S ((((w.setCell ⟨g, 0, none⟩ y0).setCell ⟨g, 1, none⟩ y1).setCell ⟨g, 2, none⟩ y2).setCell ⟨g, 3, none⟩ y3) v e :=
  ex_away (ex_away (ex_away (ex_away h hg _) hg _) hg _) hg _
theorem ex_wide {S S' : Nat → Prop} {w : World} {v : Value} {e : Ex} (h : ExS S w v e) (hS : ∀ b, S b → S' b) : ExS S' w v e := h.kept hS (fun _ _ _ _ hv => hv)
theorem four_turn {w0 W W' : World} {g : Nat} {x0 x1 x2 x3 : Value} (h : Four W g x0 x1 x2 x3) (hg : Tn w0 W W') (hr : w0.heap.size < g) : Four W' g x0 x1 x2 x3 :=
  four_grown h hg (fun e => by have := Option.some.inj e; omega)
abbrev pp (w0 : World) : Value := .pointer (some ⟨w0.heap.size, 0, none⟩)
theorem tn_set {w0 w w' : World} (h : Tn w0 w w') {g o : Nat} (hg : w.heap.size ≤ g) (v : Value) : Tn w0 w (w'.setCell ⟨g, o, none⟩ v) :=
  h.andThen (grownBy_set w' g o v) (fun j e => by cases e; exact .inl hg)
theorem tn_put {w0 w w' : World} (h : Tn w0 w w') {g : Nat} (hg : w.heap.size ≤ g) (y0 y1 y2 y3 : Value) : Tn w0 w ((((w'.setCell ⟨g, 0, none⟩ y0).setCell ⟨g, 1, none⟩ y1).setCell ⟨g, 2, none⟩ y2).setCell ⟨g, 3, none⟩ y3) :=
  tn_set (tn_set (tn_set (tn_set h hg _) hg _) hg _) hg _
theorem in_put {L : List Tk} {sl : Value} {w0 : World} {r : List Tk} {w : World} (h : In L sl w0 r w) {g : Nat} (hg : w0.heap.size < g) (y0 y1 y2 y3 : Value) : In L sl w0 r ((((w.setCell ⟨g, 0, none⟩ y0).setCell ⟨g, 1, none⟩ y1).setCell ⟨g, 2, none⟩ y2).setCell ⟨g, 3, none⟩ y3) :=
  (((h.set hg _).set hg _).set hg _).set hg _
theorem tn_alloc (w0 w : World) (o : Obj) : Tn w0 w (w.alloc o) := tn_below ((Below.refl _ _).alloc (Nat.le_refl _) _)
/-- What a method leaves when it has stored its result, an expression in new memory, into its result's box. -/
theorem done_box {L : List Tk} {sl : Value} {w0 w wz : World} {r : List Tk} {x : Ex} {o n : Int} {s : ByteArray} {p : Option Addr} {k c : Nat} (hw : w0.heap.size < w.heap.size) (hT : Tn w0 w wz) (hI : In L sl w0 r wz) (hF : Fr (w.heap.size + 1) wz (xv o n s (.slice p k c)) x) :
    tOk L sl w0 r x w (.returned (xv o n s (.slice p k c))) ((((wz.setCell ⟨w.heap.size, 0, none⟩ (.int .i64 o)).setCell ⟨w.heap.size, 1, none⟩ (.int .i64 n)).setCell ⟨w.heap.size, 2, none⟩ (.string s)).setCell ⟨w.heap.size, 3, none⟩ (.slice p k c)) := by
  refine ⟨o, n, s, p, k, c, rfl, tn_put hT (Nat.le_refl _) _ _ _ _, in_put hI hw _ _ _ _, ex_wide (ex_away4 hF (by omega) _ _ _ _) (fun b q => ⟨by omega, ?_⟩)⟩
  have := q.2
  simp only [setCell_size]
  exact this
/-- The same where the operands may lie in older blocks. -/
theorem done_boxP {L : List Tk} {sl : Value} {w0 w wz : World} {r : List Tk} {x : Ex} {P : Nat → Prop} {g : Nat} {o n : Int} {s : ByteArray} {p : Option Addr} {k c : Nat} (hg : w.heap.size ≤ g) (hw : w0.heap.size < w.heap.size) (hT : Tn w0 w wz) (hI : In L sl w0 r wz) (hF : ExS (fun b => (P b ∨ New w wz b) ∧ b ≠ g) wz (xv o n s (.slice p k c)) x) :
    tOkP L sl w0 r x P w (.returned (xv o n s (.slice p k c))) ((((wz.setCell ⟨g, 0, none⟩ (.int .i64 o)).setCell ⟨g, 1, none⟩ (.int .i64 n)).setCell ⟨g, 2, none⟩ (.string s)).setCell ⟨g, 3, none⟩ (.slice p k c)) := by
  refine ⟨o, n, s, p, k, c, rfl, tn_put hT hg _ _ _ _, in_put hI (by omega) _ _ _ _, ex_wide (ex_away4 hF (fun q => q.2 rfl) _ _ _ _) (fun b q => q.1.imp id (fun q => ⟨q.1, ?_⟩))⟩
  have := q.2
  simp only [setCell_size]
  exact this
theorem s8 {w : World} {a b : Nat} {x0 x1 x2 x3 y0 y1 y2 y3 : Value} (h : Four w a x0 x1 x2 x3) (k : Four w b y0 y1 y2 y3) : w.cell? ⟨a, 0, none⟩ = some x0 ∧ w.cell? ⟨a, 1, none⟩ = some x1 ∧ w.cell? ⟨a, 2, none⟩ = some x2 ∧ w.cell? ⟨a, 3, none⟩ = some x3 ∧ w.cell? ⟨b, 0, none⟩ = some y0 ∧ w.cell? ⟨b, 1, none⟩ = some y1 ∧ w.cell? ⟨b, 2, none⟩ = some y2 ∧ w.cell? ⟨b, 3, none⟩ = some y3 :=
  ⟨h.c0, h.c1, h.c2, h.c3, k.c0, k.c1, k.c2, k.c3⟩
/-- A node over operands that stand in one new block, cell by cell. -/
theorem node_new {S : Nat → Prop} {w : World} {g : Nat} {o : Int} (ks : List Ex) (ps : Nat → Option Addr) (cs : Nat → Nat) (hg : S g) (hl : ks.length ≤ 100)
    (hcell : ∀ i a, ks[i]? = some a → w.cell? ⟨g, 0 + i * 4, none⟩ = some (.int .i64 a.op) ∧ w.cell? ⟨g, 0 + i * 4 + 1, none⟩ = some (.int .i64 a.n) ∧ w.cell? ⟨g, 0 + i * 4 + 2, none⟩ = some (.string a.nm) ∧ w.cell? ⟨g, 0 + i * 4 + 3, none⟩ = some (.slice (ps i) a.args.length (cs i)))
    (hx : ∀ i a, ks[i]? = some a → ExS S w (xv a.op a.n a.nm (.slice (ps i) a.args.length (cs i))) a) : ExS S w (xv o 0 ⟨#[]⟩ (.slice (some ⟨g, 0, none⟩) ks.length ks.length)) (nod o ks) :=
  .mk ps cs (by decide) (by omega) (Nat.le_refl _) (fun _ => ⟨g, 0, rfl, hg, hcell⟩) hx
theorem ex_parts {S : Nat → Prop} {w : World} {o n : Int} {s : ByteArray} {p : Option Addr} {k c : Nat} {x : Ex} (h : ExS S w (xv o n s (.slice p k c)) x) : x.op = o ∧ x.n = n ∧ x.nm = s ∧ x.args.length = k := by
  cases h with
  | mk pl cl hs hl hc hp hx => exact ⟨rfl, rfl, rfl, rfl⟩
theorem cells_new (w : World) (xs : Array Value) (t : TypeId) (j : Nat) : (w.alloc (.cells xs t)).cell? ⟨w.heap.size, j, none⟩ = xs[j]? := cell_of_row _ _ j _ _ (0, 0) (heap_alloc_new w (.cells xs t))
theorem node1 {lo : Nat} {w8 w9 : World} {o : Int} {a : Ex} {oa na : Int} {sa : ByteArray} {pa : Option Addr} {ka ca : Nat} (ha : Fr lo w8 (xv oa na sa (.slice pa ka ca)) a) (hl : lo ≤ w8.heap.size)
    (hW : Below (w8.alloc (.cells #[.int .i64 oa, .int .i64 na, .string sa, .slice pa ka ca] 24)).heap.size (w8.alloc (.cells #[.int .i64 oa, .int .i64 na, .string sa, .slice pa ka ca] 24)) w9) : Fr lo w9 (xv o 0 ⟨#[]⟩ (.slice (some ⟨w8.heap.size, 0, none⟩) 1 1)) (nod o [a]) := by
  obtain ⟨rfl, rfl, rfl, rfl⟩ := ex_parts ha
  have hb8 : Below w8.heap.size w8 w9 := ((Below.refl w8.heap.size w8).alloc (Nat.le_refl _) _).then_ hW
  have q : ∀ j, w9.cell? ⟨w8.heap.size, j, none⟩ = (#[.int .i64 a.op, .int .i64 a.n, .string a.nm, .slice pa a.args.length ca] : Array Value)[j]? := fun j => (hW.cell (p := ⟨w8.heap.size, j, none⟩) (by simp)).trans (cells_new _ _ _ j)
  have hs := hW.size
  rw [World.size_alloc] at hs
  refine node_new (w := w9) [a] (fun _ => pa) (fun _ => ca) ⟨hl, by omega⟩ (by simp) (fun i x hi => ?_) (fun i x hi => ?_)
  · match i, hi with
    | 0, hi => cases hi; exact ⟨q 0, q 1, q 2, q 3⟩
    | i + 1, hi => simp at hi
  · match i, hi with
    | 0, hi => cases hi; exact ha.later hb8
    | i + 1, hi => simp at hi
theorem node2 {lo : Nat} {w8 w9 : World} {o : Int} {a : Ex} {oa na : Int} {sa : ByteArray} {pa : Option Addr} {ka ca : Nat} (ha : Fr lo w8 (xv oa na sa (.slice pa ka ca)) a) {b : Ex} {ob nb : Int} {sb : ByteArray} {pb : Option Addr} {kb cb : Nat} (hb : Fr lo w8 (xv ob nb sb (.slice pb kb cb)) b) (hl : lo ≤ w8.heap.size)
    (hW : Below (w8.alloc (.cells #[.int .i64 oa, .int .i64 na, .string sa, .slice pa ka ca, .int .i64 ob, .int .i64 nb, .string sb, .slice pb kb cb] 24)).heap.size (w8.alloc (.cells #[.int .i64 oa, .int .i64 na, .string sa, .slice pa ka ca, .int .i64 ob, .int .i64 nb, .string sb, .slice pb kb cb] 24)) w9) : Fr lo w9 (xv o 0 ⟨#[]⟩ (.slice (some ⟨w8.heap.size, 0, none⟩) 2 2)) (nod o [a, b]) := by
  obtain ⟨rfl, rfl, rfl, rfl⟩ := ex_parts ha
  obtain ⟨rfl, rfl, rfl, rfl⟩ := ex_parts hb
  have hb8 : Below w8.heap.size w8 w9 := ((Below.refl w8.heap.size w8).alloc (Nat.le_refl _) _).then_ hW
  have q : ∀ j, w9.cell? ⟨w8.heap.size, j, none⟩ = (#[.int .i64 a.op, .int .i64 a.n, .string a.nm, .slice pa a.args.length ca, .int .i64 b.op, .int .i64 b.n, .string b.nm, .slice pb b.args.length cb] : Array Value)[j]? := fun j => (hW.cell (p := ⟨w8.heap.size, j, none⟩) (by simp)).trans (cells_new _ _ _ j)
  have hs := hW.size
  rw [World.size_alloc] at hs
  refine node_new (w := w9) [a, b] (fun i => match i with | 0 => pa | _ => pb) (fun i => match i with | 0 => ca | _ => cb) ⟨hl, by omega⟩ (by simp) (fun i x hi => ?_) (fun i x hi => ?_)
  · match i, hi with
    | 0, hi => cases hi; exact ⟨q 0, q 1, q 2, q 3⟩
    | 1, hi => cases hi; exact ⟨q 4, q 5, q 6, q 7⟩
    | i + 2, hi => simp at hi
  · match i, hi with
    | 0, hi => cases hi; exact ha.later hb8
    | 1, hi => cases hi; exact hb.later hb8
    | i + 2, hi => simp at hi
theorem node3 {lo : Nat} {w8 w9 : World} {o : Int} {a : Ex} {oa na : Int} {sa : ByteArray} {pa : Option Addr} {ka ca : Nat} (ha : Fr lo w8 (xv oa na sa (.slice pa ka ca)) a) {b : Ex} {ob nb : Int} {sb : ByteArray} {pb : Option Addr} {kb cb : Nat} (hb : Fr lo w8 (xv ob nb sb (.slice pb kb cb)) b) {c : Ex} {oc nc : Int} {sc : ByteArray} {pc : Option Addr} {kc cc : Nat} (hc : Fr lo w8 (xv oc nc sc (.slice pc kc cc)) c) (hl : lo ≤ w8.heap.size)
    (hW : Below (w8.alloc (.cells #[.int .i64 oa, .int .i64 na, .string sa, .slice pa ka ca, .int .i64 ob, .int .i64 nb, .string sb, .slice pb kb cb, .int .i64 oc, .int .i64 nc, .string sc, .slice pc kc cc] 24)).heap.size (w8.alloc (.cells #[.int .i64 oa, .int .i64 na, .string sa, .slice pa ka ca, .int .i64 ob, .int .i64 nb, .string sb, .slice pb kb cb, .int .i64 oc, .int .i64 nc, .string sc, .slice pc kc cc] 24)) w9) : Fr lo w9 (xv o 0 ⟨#[]⟩ (.slice (some ⟨w8.heap.size, 0, none⟩) 3 3)) (nod o [a, b, c]) := by
  obtain ⟨rfl, rfl, rfl, rfl⟩ := ex_parts ha
  obtain ⟨rfl, rfl, rfl, rfl⟩ := ex_parts hb
  obtain ⟨rfl, rfl, rfl, rfl⟩ := ex_parts hc
  have hb8 : Below w8.heap.size w8 w9 := ((Below.refl w8.heap.size w8).alloc (Nat.le_refl _) _).then_ hW
  have q : ∀ j, w9.cell? ⟨w8.heap.size, j, none⟩ = (#[.int .i64 a.op, .int .i64 a.n, .string a.nm, .slice pa a.args.length ca, .int .i64 b.op, .int .i64 b.n, .string b.nm, .slice pb b.args.length cb, .int .i64 c.op, .int .i64 c.n, .string c.nm, .slice pc c.args.length cc] : Array Value)[j]? := fun j => (hW.cell (p := ⟨w8.heap.size, j, none⟩) (by simp)).trans (cells_new _ _ _ j)
  have hs := hW.size
  rw [World.size_alloc] at hs
  refine node_new (w := w9) [a, b, c] (fun i => match i with | 0 => pa | 1 => pb | _ => pc) (fun i => match i with | 0 => ca | 1 => cb | _ => cc) ⟨hl, by omega⟩ (by simp) (fun i x hi => ?_) (fun i x hi => ?_)
  · match i, hi with
    | 0, hi => cases hi; exact ⟨q 0, q 1, q 2, q 3⟩
    | 1, hi => cases hi; exact ⟨q 4, q 5, q 6, q 7⟩
    | 2, hi => cases hi; exact ⟨q 8, q 9, q 10, q 11⟩
    | i + 3, hi => simp at hi
  · match i, hi with
    | 0, hi => cases hi; exact ha.later hb8
    | 1, hi => cases hi; exact hb.later hb8
    | 2, hi => cases hi; exact hc.later hb8
    | i + 3, hi => simp at hi
set_option maxRecDepth 100000 in
set_option maxHeartbeats 16000000 in
theorem choice_any {L : List Tk} {sl : Value} {w0 : World} (hc : Cx L sl w0) (f : Nat) (IO : Ct L sl w0 f (.op 2) 47 #[pp w0, .int .i64 2]) (IC : Ct L sl w0 f .ch 24 #[pp w0]) :
    Ct L sl w0 (f + 1) .ch 24 #[pp w0] := by
  intro r w h hne
  rw [run] at hne ⊢
  have lt := h.lt
  have hA := h.alloc (.cells #[.int .i64 0, .int .i64 0, .string ⟨#[]⟩, .slice none 0 0] 24)
  have HTA : Hid (Tn w0 w (w.alloc (.cells #[.int .i64 0, .int .i64 0, .string ⟨#[]⟩, .slice none 0 0] 24))) := Lib.hid (tn_alloc _ _ _)
  have F0 := Lib.hid (Four.new w (.int .i64 0) (.int .i64 0) (.string ⟨#[]⟩) (.slice none 0 0) 24)
  rcases h1 : run f (.op 2) r with ⟨c, r1⟩ | ⟨er, k⟩ | _
  · have OC := Lib.hid (IO.ok hA h1)
    rw [h1, bok] at hne
    rw [bok]
    by_cases q1 : tx r1 = [63]
    · rw [if_pos q1] at hne ⊢
      have hr1 := tx_pos q1 (by decide)
      rcases h2 : run f .ch r1.tail with ⟨a, r2⟩ | ⟨er, k⟩ | _
      · rw [h2, bok] at hne
        rw [bok]
        by_cases q2 : tx r2 = [58]
        · have hr2 := tx_pos q2 (by decide)
          unfold need at hne ⊢
          rw [if_pos q2] at hne ⊢
          change (run f .ch r2.tail).bind _ ≠ _ at hne
          show Calls _ _ _ _ (tRs L sl w0 ((run f .ch r2.tail).bind _) w)
          rcases h3 : run f .ch r2.tail with ⟨b, r3⟩ | ⟨er, k⟩ | _
          · show Calls _ _ _ _ (tOk L sl w0 r3 (nod 22 [c, a, b]) w)
            clear hne h h1 hA
            go_enter Tryz.func24, Tryz.ntmps24
            go_wp2_with (first
              | (go_at_call 47; ((with_reducible refine OC.out.mono ?_); rintro e w2 ⟨o2, n2, s2, p2, k2, c2, rfl, hT, hI, hF⟩; have HT2 := Lib.hid (HTA.out.then_ hT); have l2 := hT.size; rw [World.size_alloc] at l2; have I3 := Lib.hid (hI.alloc (.cells #[.int .i64 o2, .int .i64 n2, .string s2, .slice p2 k2 c2] 24)); have F3 := Lib.hid ((four_turn F0.out hT lt).alloc (.cells #[.int .i64 o2, .int .i64 n2, .string s2, .slice p2 k2 c2] 24)); have B3 := Lib.hid (Four.new w2 (.int .i64 o2) (.int .i64 n2) (.string s2) (.slice p2 k2 c2) 24); have X3 := Lib.hid (fr_alloc hF (.cells #[.int .i64 o2, .int .i64 n2, .string s2, .slice p2 k2 c2] 24)); have SK := Lib.hid (skip_yes hc I3.out ⟨#[63]⟩ q1 hr1); clear hT hI hF))
              | (go_at_call 48; ((with_reducible refine SK.out.mono ?_); rintro e w4 ⟨rfl, hT, hI⟩; have HT4 := Lib.hid ((HT2.out.then_ (tn_alloc _ _ _)).then_ hT); have l4 := hT.size; rw [World.size_alloc] at l4; have F4 := Lib.hid (four_turn F3.out hT lt); have B4 := Lib.hid (four_turn B3.out hT (by omega)); have X4 := Lib.hid (fr_turn X3.out hT (by rw [World.size_alloc]; omega)); have CH := Lib.hid (IC.ok hI h2); clear hT hI))
              | (go_at_call 24; ((with_reducible refine CH.out.mono ?_); rintro e w5 ⟨o5, n5, s5, p5, k5, c5, rfl, hT, hI, hF⟩; have HT5 := Lib.hid (HT4.out.then_ hT); have l5 := hT.size; have I6 := Lib.hid (hI.alloc (.cells #[.int .i64 o5, .int .i64 n5, .string s5, .slice p5 k5 c5] 24)); have F6 := Lib.hid ((four_turn F4.out hT lt).alloc (.cells #[.int .i64 o5, .int .i64 n5, .string s5, .slice p5 k5 c5] 24)); have B6 := Lib.hid ((four_turn B4.out hT (by omega)).alloc (.cells #[.int .i64 o5, .int .i64 n5, .string s5, .slice p5 k5 c5] 24)); have D6 := Lib.hid (Four.new w5 (.int .i64 o5) (.int .i64 n5) (.string s5) (.slice p5 k5 c5) 24); have X6 := Lib.hid (fr_alloc (fr_turn X4.out hT (by rw [World.size_alloc]; omega)) (.cells #[.int .i64 o5, .int .i64 n5, .string s5, .slice p5 k5 c5] 24)); have Y6 := Lib.hid (fr_alloc hF (.cells #[.int .i64 o5, .int .i64 n5, .string s5, .slice p5 k5 c5] 24)); have ND := Lib.hid (need_yes' hc I6.out ⟨#[58]⟩ q2 hr2); clear hT hI hF))
              | (go_at_call 49; ((with_reducible refine ND.out.mono ?_); rintro e w7 ⟨rfl, hT, hI⟩; have HT7 := Lib.hid ((HT5.out.then_ (tn_alloc _ _ _)).then_ hT); have l7 := hT.size; rw [World.size_alloc] at l7; have F7 := Lib.hid (four_turn F6.out hT lt); have B7 := Lib.hid (four_turn B6.out hT (by omega)); have D7 := Lib.hid (four_turn D6.out hT (by omega)); have X7 := Lib.hid (fr_turn X6.out hT (by rw [World.size_alloc]; omega)); have Y7 := Lib.hid (fr_turn Y6.out hT (by omega)); have CB := Lib.hid (fun W (hW : Below w7.heap.size w7 W) => IC.ok (hI.later hW) h3); clear hT hI)))
            have m0 := B7.out.c0
            have m1 := B7.out.c1
            have m2 := B7.out.c2
            have m3 := B7.out.c3
            have m4 := D7.out.c0
            have m5 := D7.out.c1
            have m6 := D7.out.c2
            have m7 := D7.out.c3
            have KK := Lib.hid (fun W (hW : Below w7.heap.size w7 W) => s8 (B7.out.stay hW) (D7.out.stay hW))
            go_region_held3 (fun w' => w'.cell? ⟨w2.heap.size, 0, none⟩ = some (.int .i64 o2) ∧ w'.cell? ⟨w2.heap.size, 1, none⟩ = some (.int .i64 n2) ∧ w'.cell? ⟨w2.heap.size, 2, none⟩ = some (.string s2) ∧ w'.cell? ⟨w2.heap.size, 3, none⟩ = some (.slice p2 k2 c2) ∧ w'.cell? ⟨w5.heap.size, 0, none⟩ = some (.int .i64 o5) ∧ w'.cell? ⟨w5.heap.size, 1, none⟩ = some (.int .i64 n5) ∧ w'.cell? ⟨w5.heap.size, 2, none⟩ = some (.string s5) ∧ w'.cell? ⟨w5.heap.size, 3, none⟩ = some (.slice p5 k5 c5)) (first | assumption | exact KK.out _ (Below.refl _ _).drew | exact KK.out _ (Below.refl _ _) | exact KL.out _ ((Below.refl _ _).alloc (Nat.le_refl _) _) | exact KL.out _ HB9.out | exact s8 ((((Z2.far (by omega)).far (by omega)).far (by omega)).far (by omega)) ((((Z5.far (by omega)).far (by omega)).far (by omega)).far (by omega)) | fail)
              (first
                | (go_at_call 24; (with_reducible refine (CB.out _ ?_).mono ?_); (first | exact (Below.refl _ _).drew | exact Below.refl _ _); rintro e w8 ⟨o8, n8, s8', p8, k8, c8, rfl, hT, hI, hF⟩; have hT8 := (tn_below (w0 := w0) (Below.refl w7.heap.size w7).drew).then_ hT; have l8 := hT8.size; have X2 := four_turn B7.out hT8 (by omega); have X5 := four_turn D7.out hT8 (by omega); have K := s8 X2 X5; have KL := Lib.hid (fun W (hW : Below w8.heap.size w8 W) => s8 (X2.stay hW) (X5.stay hW)); have Q2 := Lib.hid X2; have Q5 := Lib.hid X5; clear X2 X5; have F8 := Lib.hid (four_turn F7.out hT8 lt); have HT8 := Lib.hid hT8; have HI8 := Lib.hid hI; have HF8 := Lib.hid (Fr.low (lo' := w.heap.size + 1) hF (by first | omega | (show _ ≤ w7.heap.size; omega))); have X8 := Lib.hid (Fr.low (lo' := w.heap.size + 1) (fr_turn X7.out hT8 (by rw [World.size_alloc]; omega)) (by rw [World.size_alloc]; omega)); have Y8 := Lib.hid (Fr.low (lo' := w.heap.size + 1) (fr_turn Y7.out hT8 (by omega)) (by omega)); clear hT hT8 hI hF)
                | (go_at_call 50; ((with_reducible refine (node_any _ _ _ _ _).mono ?_); rintro e w9 ⟨rfl, hb⟩; have HB9 := Lib.hid (((Below.refl w8.heap.size w8).alloc (Nat.le_refl _) _).then_ hb); have F9 := F8.out.stay HB9.out; have y0 := F9.f0; have y1 := F9.f1; have y2 := F9.f2; have y3 := F9.f3; have d0 := F9.c0; have d1 := F9.c1; have d2 := F9.c2; have d3 := F9.c3; have HF9 := Lib.hid F9; have Z2 := Q2.out.stay HB9.out; have Z5 := Q5.out.stay HB9.out; have HB9b := Lib.hid hb; clear hb F9)))
            all_goals
              have hP := HF9.out.put (.int .i64 22) (.int .i64 0) (.string ⟨#[]⟩) (.slice (some ⟨w8.heap.size, 0, none⟩) 3 3)
              have r0 := hP.c0
              have r1 := hP.c1
              have r2 := hP.c2
              have r3 := hP.c3
              clear hP
              go_wp2
              refine bodyPost_ret (v := xv 22 0 ⟨#[]⟩ (.slice (some ⟨w8.heap.size, 0, none⟩) 3 3)) (by simp [results, Tryz.results24, go_sem, r0, r1, r2, r3]) rfl ?_
              exact done_box lt ((HT7.out.then_ HT8.out).then_ (tn_below HB9.out)) (HI8.out.later HB9.out) (node3 X8.out Y8.out HF8.out (by omega) HB9b.out)
          · show Calls _ _ _ _ (tBad L w0 er k w)
            clear hne h h1 hA
            go_enter Tryz.func24, Tryz.ntmps24
            go_wp2_with (first
              | (go_at_call 47; ((with_reducible refine OC.out.mono ?_); rintro e w2 ⟨o2, n2, s2, p2, k2, c2, rfl, hT, hI, hF⟩; have HT2 := Lib.hid (HTA.out.then_ hT); have l2 := hT.size; rw [World.size_alloc] at l2; have I3 := Lib.hid (hI.alloc (.cells #[.int .i64 o2, .int .i64 n2, .string s2, .slice p2 k2 c2] 24)); have F3 := Lib.hid ((four_turn F0.out hT lt).alloc (.cells #[.int .i64 o2, .int .i64 n2, .string s2, .slice p2 k2 c2] 24)); have B3 := Lib.hid (Four.new w2 (.int .i64 o2) (.int .i64 n2) (.string s2) (.slice p2 k2 c2) 24); have X3 := Lib.hid (fr_alloc hF (.cells #[.int .i64 o2, .int .i64 n2, .string s2, .slice p2 k2 c2] 24)); have SK := Lib.hid (skip_yes hc I3.out ⟨#[63]⟩ q1 hr1); clear hT hI hF))
              | (go_at_call 48; ((with_reducible refine SK.out.mono ?_); rintro e w4 ⟨rfl, hT, hI⟩; have HT4 := Lib.hid ((HT2.out.then_ (tn_alloc _ _ _)).then_ hT); have l4 := hT.size; rw [World.size_alloc] at l4; have F4 := Lib.hid (four_turn F3.out hT lt); have B4 := Lib.hid (four_turn B3.out hT (by omega)); have X4 := Lib.hid (fr_turn X3.out hT (by rw [World.size_alloc]; omega)); have CH := Lib.hid (IC.ok hI h2); clear hT hI))
              | (go_at_call 24; ((with_reducible refine CH.out.mono ?_); rintro e w5 ⟨o5, n5, s5, p5, k5, c5, rfl, hT, hI, hF⟩; have HT5 := Lib.hid (HT4.out.then_ hT); have l5 := hT.size; have I6 := Lib.hid (hI.alloc (.cells #[.int .i64 o5, .int .i64 n5, .string s5, .slice p5 k5 c5] 24)); have F6 := Lib.hid ((four_turn F4.out hT lt).alloc (.cells #[.int .i64 o5, .int .i64 n5, .string s5, .slice p5 k5 c5] 24)); have B6 := Lib.hid ((four_turn B4.out hT (by omega)).alloc (.cells #[.int .i64 o5, .int .i64 n5, .string s5, .slice p5 k5 c5] 24)); have D6 := Lib.hid (Four.new w5 (.int .i64 o5) (.int .i64 n5) (.string s5) (.slice p5 k5 c5) 24); have X6 := Lib.hid (fr_alloc (fr_turn X4.out hT (by rw [World.size_alloc]; omega)) (.cells #[.int .i64 o5, .int .i64 n5, .string s5, .slice p5 k5 c5] 24)); have Y6 := Lib.hid (fr_alloc hF (.cells #[.int .i64 o5, .int .i64 n5, .string s5, .slice p5 k5 c5] 24)); have ND := Lib.hid (need_yes' hc I6.out ⟨#[58]⟩ q2 hr2); clear hT hI hF))
              | (go_at_call 49; ((with_reducible refine ND.out.mono ?_); rintro e w7 ⟨rfl, hT, hI⟩; have HT7 := Lib.hid ((HT5.out.then_ (tn_alloc _ _ _)).then_ hT); have l7 := hT.size; rw [World.size_alloc] at l7; have F7 := Lib.hid (four_turn F6.out hT lt); have B7 := Lib.hid (four_turn B6.out hT (by omega)); have D7 := Lib.hid (four_turn D6.out hT (by omega)); have X7 := Lib.hid (fr_turn X6.out hT (by rw [World.size_alloc]; omega)); have Y7 := Lib.hid (fr_turn Y6.out hT (by omega)); have CB := Lib.hid (fun W (hW : Below w7.heap.size w7 W) => IC.bad (hI.later hW) h3); clear hT hI)))
            have m0 := B7.out.c0
            have m1 := B7.out.c1
            have m2 := B7.out.c2
            have m3 := B7.out.c3
            have m4 := D7.out.c0
            have m5 := D7.out.c1
            have m6 := D7.out.c2
            have m7 := D7.out.c3
            have KK := Lib.hid (fun W (hW : Below w7.heap.size w7 W) => s8 (B7.out.stay hW) (D7.out.stay hW))
            refine wp_region_held_drew (S := (fun w' => w'.cell? ⟨w2.heap.size, 0, none⟩ = some (.int .i64 o2) ∧ w'.cell? ⟨w2.heap.size, 1, none⟩ = some (.int .i64 n2) ∧ w'.cell? ⟨w2.heap.size, 2, none⟩ = some (.string s2) ∧ w'.cell? ⟨w2.heap.size, 3, none⟩ = some (.slice p2 k2 c2) ∧ w'.cell? ⟨w5.heap.size, 0, none⟩ = some (.int .i64 o5) ∧ w'.cell? ⟨w5.heap.size, 1, none⟩ = some (.int .i64 n5) ∧ w'.cell? ⟨w5.heap.size, 2, none⟩ = some (.string s5) ∧ w'.cell? ⟨w5.heap.size, 3, none⟩ = some (.slice p5 k5 c5))) (by kernel_rfl) ?_ (fun hHeld => ?_)
            · exact KK.out _ (Below.refl _ _).drew
            refine wpAnyH_take (i := 0) (v := (.agg #[.int .i64 o2, .int .i64 n2, .string s2, .slice p2 k2 c2])) rfl (by kernel_rfl) (by kernel_rfl) (by kernel_rfl) (fun _ _ _ h => h) (Or.inl ⟨by rfl, ?_⟩) hHeld ?_
            · intro w hSw
              (try dsimp only at hSw)
              go_simp
            simp only [Act.put]
            refine wpAnyH_take (i := 1) (v := (.agg #[.int .i64 o5, .int .i64 n5, .string s5, .slice p5 k5 c5])) rfl (by kernel_rfl) (by kernel_rfl) (by kernel_rfl) (fun _ _ _ h => h) (Or.inl ⟨by rfl, ?_⟩) hHeld ?_
            · intro w hSw
              (try dsimp only at hSw)
              go_simp
            simp only [Act.put]
            refine wpAnyH_take (i := 2) (v := pp w0) rfl (by kernel_rfl) (by kernel_rfl) (by kernel_rfl) (fun _ _ _ h => h) (Or.inl ⟨by rfl, ?_⟩) hHeld ?_
            · intro w hSw
              (try dsimp only at hSw)
              go_simp
            simp only [Act.put]
            refine wpAnyH_ready (rs := [3]) (by kernel_rfl) (by simp) (AllReadyH.cons rfl (fun K hK => ?_) AllReadyH.nil)
            go_simp
            (go_at_call 24; (with_reducible refine (CB.out _ ?_).mono ?_); (first | exact (Below.refl _ _).drew | exact Below.refl _ _); rintro e w8 ⟨rfl, hT⟩; exact ⟨rfl, rfl, HT7.out.then_ ((tn_below (w0 := w0) (Below.refl w7.heap.size w7).drew).then_ hT)⟩)
          · rw [h3] at hne; exact absurd rfl hne
        · unfold need
          rw [if_neg q2]
          show Calls _ _ _ _ (tBad L w0 (fErr r2) r2.length w)
          clear hne h h1 hA
          go_enter Tryz.func24, Tryz.ntmps24
          go_wp2_with (first
            | (go_at_call 47; ((with_reducible refine OC.out.mono ?_); rintro e w2 ⟨o2, n2, s2, p2, k2, c2, rfl, hT, hI, hF⟩; have HT2 := Lib.hid (HTA.out.then_ hT); have l2 := hT.size; rw [World.size_alloc] at l2; have I3 := Lib.hid (hI.alloc (.cells #[.int .i64 o2, .int .i64 n2, .string s2, .slice p2 k2 c2] 24)); have F3 := Lib.hid ((four_turn F0.out hT lt).alloc (.cells #[.int .i64 o2, .int .i64 n2, .string s2, .slice p2 k2 c2] 24)); have B3 := Lib.hid (Four.new w2 (.int .i64 o2) (.int .i64 n2) (.string s2) (.slice p2 k2 c2) 24); have X3 := Lib.hid (fr_alloc hF (.cells #[.int .i64 o2, .int .i64 n2, .string s2, .slice p2 k2 c2] 24)); have SK := Lib.hid (skip_yes hc I3.out ⟨#[63]⟩ q1 hr1); clear hT hI hF))
            | (go_at_call 48; ((with_reducible refine SK.out.mono ?_); rintro e w4 ⟨rfl, hT, hI⟩; have HT4 := Lib.hid ((HT2.out.then_ (tn_alloc _ _ _)).then_ hT); have l4 := hT.size; rw [World.size_alloc] at l4; have F4 := Lib.hid (four_turn F3.out hT lt); have B4 := Lib.hid (four_turn B3.out hT (by omega)); have X4 := Lib.hid (fr_turn X3.out hT (by rw [World.size_alloc]; omega)); have CH := Lib.hid (IC.ok hI h2); clear hT hI))
            | (go_at_call 24; ((with_reducible refine CH.out.mono ?_); rintro e w5 ⟨o5, n5, s5, p5, k5, c5, rfl, hT, hI, hF⟩; have HT5 := Lib.hid (HT4.out.then_ hT); have l5 := hT.size; have I6 := Lib.hid (hI.alloc (.cells #[.int .i64 o5, .int .i64 n5, .string s5, .slice p5 k5 c5] 24)); have F6 := Lib.hid ((four_turn F4.out hT lt).alloc (.cells #[.int .i64 o5, .int .i64 n5, .string s5, .slice p5 k5 c5] 24)); have B6 := Lib.hid ((four_turn B4.out hT (by omega)).alloc (.cells #[.int .i64 o5, .int .i64 n5, .string s5, .slice p5 k5 c5] 24)); have D6 := Lib.hid (Four.new w5 (.int .i64 o5) (.int .i64 n5) (.string s5) (.slice p5 k5 c5) 24); have X6 := Lib.hid (fr_alloc (fr_turn X4.out hT (by rw [World.size_alloc]; omega)) (.cells #[.int .i64 o5, .int .i64 n5, .string s5, .slice p5 k5 c5] 24)); have Y6 := Lib.hid (fr_alloc hF (.cells #[.int .i64 o5, .int .i64 n5, .string s5, .slice p5 k5 c5] 24)); have ND := Lib.hid (need_no' hc I6.out ⟨#[58]⟩ q2); clear hT hI hF))
            | (go_at_call 49; ((with_reducible refine ND.out.mono ?_); rintro e w7 ⟨rfl, hT⟩; have HT7 := Lib.hid ((HT5.out.then_ (tn_alloc _ _ _)).then_ hT); clear hT)))
          exact ⟨rfl, rfl, HT7.out⟩
      · show Calls _ _ _ _ (tBad L w0 er k w)
        clear hne h h1 hA
        go_enter Tryz.func24, Tryz.ntmps24
        go_wp2_with (first
          | (go_at_call 47; ((with_reducible refine OC.out.mono ?_); rintro e w2 ⟨o2, n2, s2, p2, k2, c2, rfl, hT, hI, hF⟩; have HT2 := Lib.hid (HTA.out.then_ hT); have l2 := hT.size; rw [World.size_alloc] at l2; have I3 := Lib.hid (hI.alloc (.cells #[.int .i64 o2, .int .i64 n2, .string s2, .slice p2 k2 c2] 24)); have F3 := Lib.hid ((four_turn F0.out hT lt).alloc (.cells #[.int .i64 o2, .int .i64 n2, .string s2, .slice p2 k2 c2] 24)); have B3 := Lib.hid (Four.new w2 (.int .i64 o2) (.int .i64 n2) (.string s2) (.slice p2 k2 c2) 24); have X3 := Lib.hid (fr_alloc hF (.cells #[.int .i64 o2, .int .i64 n2, .string s2, .slice p2 k2 c2] 24)); have SK := Lib.hid (skip_yes hc I3.out ⟨#[63]⟩ q1 hr1); clear hT hI hF))
          | (go_at_call 48; ((with_reducible refine SK.out.mono ?_); rintro e w4 ⟨rfl, hT, hI⟩; have HT4 := Lib.hid ((HT2.out.then_ (tn_alloc _ _ _)).then_ hT); have l4 := hT.size; rw [World.size_alloc] at l4; have F4 := Lib.hid (four_turn F3.out hT lt); have B4 := Lib.hid (four_turn B3.out hT (by omega)); have X4 := Lib.hid (fr_turn X3.out hT (by rw [World.size_alloc]; omega)); have CH := Lib.hid (IC.bad hI h2); clear hT hI))
          | (go_at_call 24; ((with_reducible refine CH.out.mono ?_); rintro e w5 ⟨rfl, hT⟩; have HT5 := Lib.hid (HT4.out.then_ hT); clear hT)))
        exact ⟨rfl, rfl, HT5.out⟩
      · rw [h2] at hne; exact absurd rfl hne
    · rw [if_neg q1]
      show Calls _ _ _ _ (tOk L sl w0 r1 c w)
      clear hne h h1 hA
      go_enter Tryz.func24, Tryz.ntmps24
      go_wp2_with (first
        | (go_at_call 47; ((with_reducible refine OC.out.mono ?_); rintro e w2 ⟨o2, n2, s2, p2, k2, c2, rfl, hT, hI, hF⟩; have HT2 := Lib.hid (HTA.out.then_ hT); have l2 := hT.size; rw [World.size_alloc] at l2; have I3 := Lib.hid (hI.alloc (.cells #[.int .i64 o2, .int .i64 n2, .string s2, .slice p2 k2 c2] 24)); have F3 := Lib.hid ((four_turn F0.out hT lt).alloc (.cells #[.int .i64 o2, .int .i64 n2, .string s2, .slice p2 k2 c2] 24)); have B3 := Lib.hid (Four.new w2 (.int .i64 o2) (.int .i64 n2) (.string s2) (.slice p2 k2 c2) 24); have X3 := Lib.hid (fr_alloc hF (.cells #[.int .i64 o2, .int .i64 n2, .string s2, .slice p2 k2 c2] 24)); have SK := Lib.hid (skip_no I3.out ⟨#[63]⟩ q1); clear hT hI hF))
        | (go_at_call 48; ((with_reducible refine SK.out.mono ?_); rintro e w4 ⟨rfl, rfl⟩; have b2 := B3.out.c0; have b3 := B3.out.c1; have b4 := B3.out.c2; have b5 := B3.out.c3; have d0 := F3.out.c0; have d1 := F3.out.c1; have d2 := F3.out.c2; have d3 := F3.out.c3; have y0 := F3.out.f0; have y1 := F3.out.f1; have y2 := F3.out.f2; have y3 := F3.out.f3)))
      have hP := (F3.out).put (.int .i64 o2) (.int .i64 n2) (.string s2) (.slice p2 k2 c2)
      have r0 := hP.c0
      have r1 := hP.c1
      have r2 := hP.c2
      have r3 := hP.c3
      refine bodyPost_ret (v := xv o2 n2 s2 (.slice p2 k2 c2)) (by simp [results, Tryz.results24, go_sem, r0, r1, r2, r3]) rfl ?_
      exact done_box lt (HT2.out.then_ (tn_alloc _ _ _)) (I3.out) (X3.out.low (by rw [World.size_alloc]; omega))
  · show Calls _ _ _ _ (tBad L w0 er k w)
    have OC := Lib.hid (IO.bad hA h1)
    clear hne h h1 hA
    go_enter Tryz.func24, Tryz.ntmps24
    go_wp2_with (go_at_call 47; ((with_reducible refine OC.out.mono ?_); rintro e w2 ⟨rfl, hT⟩; have HT2 := Lib.hid (HTA.out.then_ hT); clear hT))
    exact ⟨rfl, rfl, HT2.out⟩
  · rw [h1] at hne; exact absurd rfl hne
end Go.Proofs.YtlnomiiphlbamaaGreatDoor.EtW
