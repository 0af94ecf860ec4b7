/-
  Trees of leaves in memory; classes, fields, blocks and constraints as values.
-/
import Derived.Test.YtoigjeoncdfdmaaGreatDoorExLexValid
import Derived.Test.YtoigjeoncdfdmaaGreatDoorClMath
import Derived.Deep.OwnRows
import Derived.OwnWalk
namespace Go.Proofs.YtoigjeoncdfdmaaGreatDoor.ClW
open Go Go.RowKit Go.Proofs.YtoigjeoncdfdmaaGreatDoor.LexW Go.Proofs.YtoigjeoncdfdmaaGreatDoor.LexM Go.Proofs.YtoigjeoncdfdmaaGreatDoor.ClM

/-- The value is this leaf, whose rows lie in blocks of S. -/
inductive At (S : Nat → Prop) (w : World) : Sh → Value → Lf → Prop where
  | n (i : Int) : At S w .n (.int .i64 i) (.n i)
  | s (t : ByteArray) (h : t.size ≤ 140737488351232) : At S w .s (.string t) (.s t)
  | b (v : Bool) : At S w .b (.bool v) (.b v)
  | row (k : Kd) (l : List (List Lf)) (p : Option Addr) (cap : Nat) (F : Nat → Nat → Value)
      (hl : l.length * byt k ≤ 140737488351232) (hc : l.length ≤ cap)
      (hp : 0 < l.length → ∃ b off, p = some ⟨b, off, none⟩ ∧ S b ∧ ∀ i j, i < l.length → j < (shp k).length → w.cell? ⟨b, off + i * (shp k).length + j, none⟩ = some (F i j))
      (hw : ∀ (i : Nat) (x : List Lf), l[i]? = some x → x.length = (shp k).length)
      (hx : ∀ (i : Nat) (x : List Lf) (j : Nat) (y : Lf) (sh : Sh), l[i]? = some x → x[j]? = some y → (shp k)[j]? = some sh → At S w sh (F i j) y) :
      At S w (.r k) (.slice p l.length cap) (.row k l)
/-- A row, opened. -/
structure RowA (S : Nat → Prop) (w : World) (k : Kd) (p : Option Addr) (cap : Nat) (F : Nat → Nat → Value) (l : List (List Lf)) : Prop where
  hl : l.length * byt k ≤ 140737488351232
  hc : l.length ≤ cap
  hp : 0 < l.length → ∃ b off, p = some ⟨b, off, none⟩ ∧ S b ∧ ∀ i j, i < l.length → j < (shp k).length → w.cell? ⟨b, off + i * (shp k).length + j, none⟩ = some (F i j)
  hw : ∀ (i : Nat) (x : List Lf), l[i]? = some x → x.length = (shp k).length
  hx : ∀ (i : Nat) (x : List Lf) (j : Nat) (y : Lf) (sh : Sh), l[i]? = some x → x[j]? = some y → (shp k)[j]? = some sh → At S w sh (F i j) y
theorem At.form {S : Nat → Prop} {w : World} {k : Kd} {v : Value} {lf : Lf} (h : At S w (.r k) v lf) : ∃ l p cap F, lf = .row k l ∧ v = .slice p l.length cap ∧ RowA S w k p cap F l := by
  cases h with
  | row k l p cap F hl hc hp hw hx => exact ⟨l, p, cap, F, rfl, rfl, hl, hc, hp, hw, hx⟩
theorem At.rowOf {S : Nat → Prop} {w : World} {k : Kd} {v : Value} {l : List (List Lf)} (h : At S w (.r k) v (.row k l)) : ∃ p cap F, v = .slice p l.length cap ∧ RowA S w k p cap F l := by
  obtain ⟨l', p, cap, F, e, rfl, hr⟩ := h.form
  cases e
  exact ⟨p, cap, F, rfl, hr⟩
theorem RowA.at_ {S : Nat → Prop} {w : World} {k : Kd} {p : Option Addr} {cap : Nat} {F : Nat → Nat → Value} {l : List (List Lf)} (h : RowA S w k p cap F l) : At S w (.r k) (.slice p l.length cap) (.row k l) :=
  .row k l p cap F h.hl h.hc h.hp h.hw h.hx
theorem At.sOf {S : Nat → Prop} {w : World} {v : Value} {t : ByteArray} (h : At S w .s v (.s t)) : v = .string t ∧ t.size ≤ 140737488351232 := by
  cases h with
  | s _ h => exact ⟨rfl, h⟩
theorem At.nOf {S : Nat → Prop} {w : World} {v : Value} {i : Int} (h : At S w .n v (.n i)) : v = .int .i64 i := by cases h; rfl
theorem At.bOf {S : Nat → Prop} {w : World} {v : Value} {i : Bool} (h : At S w .b v (.b i)) : v = .bool i := by cases h; rfl
theorem At.nInv {S : Nat → Prop} {w : World} {v : Value} {lf : Lf} (h : At S w .n v lf) : ∃ i, v = .int .i64 i ∧ lf = .n i := by cases h; exact ⟨_, rfl, rfl⟩
theorem At.sInv {S : Nat → Prop} {w : World} {v : Value} {lf : Lf} (h : At S w .s v lf) : ∃ t, v = .string t ∧ lf = .s t ∧ t.size ≤ 140737488351232 := by cases h with | s t h => exact ⟨t, rfl, rfl, h⟩
theorem At.bInv {S : Nat → Prop} {w : World} {v : Value} {lf : Lf} (h : At S w .b v lf) : ∃ i, v = .bool i ∧ lf = .b i := by cases h; exact ⟨_, rfl, rfl⟩
/-- Cells of S read as they did. -/
theorem At.kept {S S' : Nat → Prop} {w w' : World} (hS : ∀ b, S b → S' b) (hk : ∀ b o, S b → ∀ v, w.cell? ⟨b, o, none⟩ = some v → w'.cell? ⟨b, o, none⟩ = some v) {sh : Sh} {v : Value} {lf : Lf} (h : At S w sh v lf) : At S' w' sh v lf := by
  induction h with
  | n i => exact .n i
  | s t h => exact .s t h
  | b v => exact .b v
  | row k l p cap F hl hc hp hw hx ih =>
    refine .row k l p cap F hl hc (fun h0 => ?_) hw ih
    obtain ⟨b, off, e, hb, hcell⟩ := hp h0
    exact ⟨b, off, e, hS b hb, fun i j hi hj => hk _ _ hb _ (hcell i j hi hj)⟩
theorem RowA.kept {S S' : Nat → Prop} {w w' : World} (hS : ∀ b, S b → S' b) (hk : ∀ b o, S b → ∀ v, w.cell? ⟨b, o, none⟩ = some v → w'.cell? ⟨b, o, none⟩ = some v) {k : Kd} {p : Option Addr} {cap : Nat} {F : Nat → Nat → Value} {l : List (List Lf)} (h : RowA S w k p cap F l) : RowA S' w' k p cap F l := by
  refine ⟨h.hl, h.hc, fun h0 => ?_, h.hw, fun i x j y sh a b c => (h.hx i x j y sh a b c).kept hS hk⟩
  obtain ⟨b, off, e, hb, hcell⟩ := h.hp h0
  exact ⟨b, off, e, hS b hb, fun i j hi hj => hk _ _ hb _ (hcell i j hi hj)⟩
/-- Below block N. -/
abbrev Lo (N : Nat) : Nat → Prop := fun b => b < N
/-- From block lo on. -/
abbrev Hi (lo : Nat) (w : World) : Nat → Prop := fun b => lo ≤ b ∧ b < w.heap.size
theorem At.under {N : Nat} {w w' : World} (hb : Below N w w') {sh : Sh} {v : Value} {lf : Lf} (h : At (Lo N) w sh v lf) : At (Lo N) w' sh v lf :=
  h.kept (fun _ h => h) (fun b o hlt _ hv => (hb.cell (p := ⟨b, o, none⟩) hlt).trans hv)
theorem RowA.under {N : Nat} {w w' : World} (hb : Below N w w') {k : Kd} {p : Option Addr} {cap : Nat} {F : Nat → Nat → Value} {l : List (List Lf)} (h : RowA (Lo N) w k p cap F l) : RowA (Lo N) w' k p cap F l :=
  h.kept (fun _ h => h) (fun b o hlt _ hv => (hb.cell (p := ⟨b, o, none⟩) hlt).trans hv)
theorem At.wide {N N' : Nat} {w : World} (hN : N ≤ N') {sh : Sh} {v : Value} {lf : Lf} (h : At (Lo N) w sh v lf) : At (Lo N') w sh v lf := h.kept (fun _ h => Nat.lt_of_lt_of_le h hN) (fun _ _ _ _ hv => hv)
theorem RowA.wide {N N' : Nat} {w : World} (hN : N ≤ N') {k : Kd} {p : Option Addr} {cap : Nat} {F : Nat → Nat → Value} {l : List (List Lf)} (h : RowA (Lo N) w k p cap F l) : RowA (Lo N') w k p cap F l := h.kept (fun _ h => Nat.lt_of_lt_of_le h hN) (fun _ _ _ _ hv => hv)
theorem At.weak {S S' : Nat → Prop} {w : World} {sh : Sh} {v : Value} {lf : Lf} (h : At S w sh v lf) (hS : ∀ b, S b → S' b) : At S' w sh v lf := h.kept hS (fun _ _ _ _ hv => hv)
theorem At.later {lo : Nat} {w w' : World} {sh : Sh} {v : Value} {lf : Lf} (h : At (Hi lo w) w sh v lf) (hb : Below w.heap.size w w') : At (Hi lo w') w' sh v lf :=
  h.kept (fun _ g => ⟨g.1, Nat.lt_of_lt_of_le g.2 hb.size⟩) (fun _ o g _ hv => (hb.cell (p := ⟨_, o, none⟩) g.2).trans hv)
theorem At.low {lo lo' : Nat} {w : World} {sh : Sh} {v : Value} {lf : Lf} (h : At (Hi lo w) w sh v lf) (hl : lo' ≤ lo) : At (Hi lo' w) w sh v lf := h.weak (fun _ g => ⟨Nat.le_trans hl g.1, g.2⟩)
theorem At.toLo {lo : Nat} {w : World} {sh : Sh} {v : Value} {lf : Lf} (h : At (Hi lo w) w sh v lf) : At (Lo w.heap.size) w sh v lf := h.weak (fun _ g => g.2)
theorem At.set {lo g o : Nat} {w : World} {u v : Value} {sh : Sh} {lf : Lf} (h : At (Hi lo w) w sh v lf) (hg : g < lo) : At (Hi lo (w.setCell ⟨g, o, none⟩ u)) (w.setCell ⟨g, o, none⟩ u) sh v lf :=
  h.kept (fun _ q => ⟨q.1, by rw [setCell_size]; exact q.2⟩) (fun b _ q _ hv => by
    rw [World.cell?_setCell_other _ _ _ _ (fun e => by have := congrArg Addr.block e; simp at this; omega)]; exact hv)
theorem At.nilRow {S : Nat → Prop} {w : World} (k : Kd) (p : Option Addr) (cap : Nat) : At S w (.r k) (.slice p 0 cap) (.row k []) :=
  .row k [] p cap (fun _ _ => .bool false) (by simp) (by simp) (fun h => by simp at h) (fun _ _ h => by simp at h) (fun _ _ _ _ _ h => by simp at h)
/-- A class's cells. -/
abbrev cv (nm par : ByteArray) (f b : Value) : Value := .agg #[.string nm, .string par, f, b]
/-- The value is this class. -/
structure CV (S : Nat → Prop) (w : World) (pf : Option Addr) (cf : Nat) (pb : Option Addr) (cb : Nat) (c : Cl) : Prop where
  nm : c.nm.size ≤ 140737488351232
  par : c.par.size ≤ 140737488351232
  fs : At S w (.r .fields) (.slice pf c.fs.length cf) (.row .fields (c.fs.map Fld.lf))
  bs : At S w (.r .blocks) (.slice pb c.bs.length cb) (.row .blocks (c.bs.map Bk.lf))
theorem CV.kept {S S' : Nat → Prop} {w w' : World} (hS : ∀ b, S b → S' b) (hk : ∀ b o, S b → ∀ v, w.cell? ⟨b, o, none⟩ = some v → w'.cell? ⟨b, o, none⟩ = some v) {pf : Option Addr} {cf : Nat} {pb : Option Addr} {cb : Nat} {c : Cl} (h : CV S w pf cf pb cb c) : CV S' w' pf cf pb cb c :=
  ⟨h.nm, h.par, h.fs.kept hS hk, h.bs.kept hS hk⟩
theorem CV.under {N : Nat} {w w' : World} (hb : Below N w w') {pf : Option Addr} {cf : Nat} {pb : Option Addr} {cb : Nat} {c : Cl} (h : CV (Lo N) w pf cf pb cb c) : CV (Lo N) w' pf cf pb cb c := ⟨h.nm, h.par, h.fs.under hb, h.bs.under hb⟩
theorem CV.wide {N N' : Nat} {w : World} (hN : N ≤ N') {pf : Option Addr} {cf : Nat} {pb : Option Addr} {cb : Nat} {c : Cl} (h : CV (Lo N) w pf cf pb cb c) : CV (Lo N') w pf cf pb cb c := ⟨h.nm, h.par, h.fs.wide hN, h.bs.wide hN⟩
theorem CV.zero (S : Nat → Prop) (w : World) : CV S w none 0 none 0 zCl := ⟨by decide, by decide, .nilRow _ _ _, .nilRow _ _ _⟩
theorem cell_across {M : Nat} {w a b : World} (h1 : Below M w a) (h2 : Below M w b) {g o : Nat} (hg : g < M) {v : Value} (hv : a.cell? ⟨g, o, none⟩ = some v) : b.cell? ⟨g, o, none⟩ = some v :=
  (h2.cell (p := ⟨g, o, none⟩) hg).trans ((h1.cell (p := ⟨g, o, none⟩) hg).symm.trans hv)
theorem At.across {N M : Nat} {w a b : World} (h1 : Below M w a) (h2 : Below M w b) (hN : N ≤ M) {sh : Sh} {v : Value} {lf : Lf} (h : At (Lo N) a sh v lf) : At (Lo N) b sh v lf :=
  h.kept (fun _ h => h) (fun _ _ hlt _ hv => cell_across h1 h2 (Nat.lt_of_lt_of_le hlt hN) hv)
theorem CV.across {N M : Nat} {w a b : World} (h1 : Below M w a) (h2 : Below M w b) (hN : N ≤ M) {pf : Option Addr} {cf : Nat} {pb : Option Addr} {cb : Nat} {c : Cl} (h : CV (Lo N) a pf cf pb cb c) : CV (Lo N) b pf cf pb cb c :=
  ⟨h.nm, h.par, h.fs.across h1 h2 hN, h.bs.across h1 h2 hN⟩
/-- The class at a place of a row of classes. -/
theorem RowA.cl {S : Nat → Prop} {w : World} {p : Option Addr} {cap : Nat} {F : Nat → Nat → Value} {cs : List Cl} (h : RowA S w .classes p cap F (cs.map Cl.lf)) {i : Nat} {c : Cl} (hi : cs[i]? = some c) :
    ∃ b off pf cf pb cb, p = some ⟨b, off, none⟩ ∧ S b ∧ w.cell? ⟨b, off + i * 4, none⟩ = some (.string c.nm) ∧ w.cell? ⟨b, off + i * 4 + 1, none⟩ = some (.string c.par) ∧
      w.cell? ⟨b, off + i * 4 + 2, none⟩ = some (.slice pf c.fs.length cf) ∧ w.cell? ⟨b, off + i * 4 + 3, none⟩ = some (.slice pb c.bs.length cb) ∧ CV S w pf cf pb cb c := by
  have hil := (List.getElem?_eq_some_iff.1 hi).1
  have hll : i < (cs.map Cl.lf).length := by rw [List.length_map]; exact hil
  have hg : (cs.map Cl.lf)[i]? = some c.lf := by rw [List.getElem?_map, hi]; rfl
  obtain ⟨b, off, rfl, hb, hcell⟩ := h.hp (by omega)
  obtain ⟨e0, s0⟩ := (h.hx i _ 0 _ .s hg rfl rfl).sOf
  obtain ⟨e1, s1⟩ := (h.hx i _ 1 _ .s hg rfl rfl).sOf
  have a2 := h.hx i _ 2 _ (.r .fields) hg rfl rfl
  have a3 := h.hx i _ 3 _ (.r .blocks) hg rfl rfl
  obtain ⟨pf, cf, _, e2, _⟩ := a2.rowOf
  obtain ⟨pb, cb, _, e3, _⟩ := a3.rowOf
  rw [List.length_map] at e2 e3
  rw [e2] at a2
  rw [e3] at a3
  have c0 := hcell i 0 hll (by decide)
  have c1 := hcell i 1 hll (by decide)
  have c2 := hcell i 2 hll (by decide)
  have c3 := hcell i 3 hll (by decide)
  rw [e0] at c0
  rw [e1] at c1
  rw [e2] at c2
  rw [e3] at c3
  exact ⟨b, off, pf, cf, pb, cb, rfl, hb, c0, c1, c2, c3, s0, s1, a2, a3⟩
/-- The field at a place. -/
theorem RowA.fd {S : Nat → Prop} {w : World} {p : Option Addr} {cap : Nat} {F : Nat → Nat → Value} {fs : List Fld} (h : RowA S w .fields p cap F (fs.map Fld.lf)) {i : Nat} {f : Fld} (hi : fs[i]? = some f) :
    ∃ b off, p = some ⟨b, off, none⟩ ∧ S b ∧ w.cell? ⟨b, off + i * 5, none⟩ = some (.string f.nm) ∧ w.cell? ⟨b, off + i * 5 + 1, none⟩ = some (.int .i64 f.wd) ∧
      w.cell? ⟨b, off + i * 5 + 2, none⟩ = some (.int .i64 f.sz) ∧ w.cell? ⟨b, off + i * 5 + 3, none⟩ = some (.int .i64 f.md) ∧ w.cell? ⟨b, off + i * 5 + 4, none⟩ = some (.int .i64 f.ini) ∧ f.nm.size ≤ 140737488351232 := by
  have hil := (List.getElem?_eq_some_iff.1 hi).1
  have hll : i < (fs.map Fld.lf).length := by rw [List.length_map]; exact hil
  have hg : (fs.map Fld.lf)[i]? = some f.lf := by rw [List.getElem?_map, hi]; rfl
  obtain ⟨b, off, rfl, hb, hcell⟩ := h.hp (by omega)
  obtain ⟨e0, s0⟩ := (h.hx i _ 0 _ .s hg rfl rfl).sOf
  have e1 := (h.hx i _ 1 _ .n hg rfl rfl).nOf
  have e2 := (h.hx i _ 2 _ .n hg rfl rfl).nOf
  have e3 := (h.hx i _ 3 _ .n hg rfl rfl).nOf
  have e4 := (h.hx i _ 4 _ .n hg rfl rfl).nOf
  have c0 := hcell i 0 hll (by decide)
  have c1 := hcell i 1 hll (by decide)
  have c2 := hcell i 2 hll (by decide)
  have c3 := hcell i 3 hll (by decide)
  have c4 := hcell i 4 hll (by decide)
  rw [e0] at c0
  rw [e1] at c1
  rw [e2] at c2
  rw [e3] at c3
  rw [e4] at c4
  exact ⟨b, off, rfl, hb, c0, c1, c2, c3, c4, s0⟩
/-- The block at a place. -/
theorem RowA.bk {S : Nat → Prop} {w : World} {p : Option Addr} {cap : Nat} {F : Nat → Nat → Value} {bs : List Bk} (h : RowA S w .blocks p cap F (bs.map Bk.lf)) {i : Nat} {b : Bk} (hi : bs[i]? = some b) :
    ∃ g off pi ci, p = some ⟨g, off, none⟩ ∧ S g ∧ w.cell? ⟨g, off + i * 2, none⟩ = some (.string b.nm) ∧ w.cell? ⟨g, off + i * 2 + 1, none⟩ = some (.slice pi b.it.length ci) ∧
      b.nm.size ≤ 140737488351232 ∧ At S w (.r .items) (.slice pi b.it.length ci) (.row .items b.it) := by
  have hil := (List.getElem?_eq_some_iff.1 hi).1
  have hll : i < (bs.map Bk.lf).length := by rw [List.length_map]; exact hil
  have hg : (bs.map Bk.lf)[i]? = some b.lf := by rw [List.getElem?_map, hi]; rfl
  obtain ⟨g, off, rfl, hb, hcell⟩ := h.hp (by omega)
  obtain ⟨e0, s0⟩ := (h.hx i _ 0 _ .s hg rfl rfl).sOf
  have a1 := h.hx i _ 1 _ (.r .items) hg rfl rfl
  obtain ⟨pi, ci, _, e1, _⟩ := a1.rowOf
  rw [e1] at a1
  have c0 := hcell i 0 hll (by decide)
  have c1 := hcell i 1 hll (by decide)
  rw [e0] at c0
  rw [e1] at c1
  exact ⟨g, off, pi, ci, rfl, hb, c0, c1, s0, a1⟩
/-- The text at a place. -/
theorem RowA.st {S : Nat → Prop} {w : World} {p : Option Addr} {cap : Nat} {F : Nat → Nat → Value} {l : List (List Lf)} (h : RowA S w .strs p cap F l) {i : Nat} {x : List Lf} (hi : l[i]? = some x) :
    ∃ b off s, x = [.s s] ∧ p = some ⟨b, off, none⟩ ∧ S b ∧ w.cell? ⟨b, off + i, none⟩ = some (.string s) ∧ s.size ≤ 140737488351232 := by
  have hil := (List.getElem?_eq_some_iff.1 hi).1
  obtain ⟨b, off, rfl, hb, hcell⟩ := h.hp (by omega)
  have hw := h.hw i x hi
  match x, hw with
  | [y], _ =>
    obtain ⟨s, e0, rfl, s0⟩ := (h.hx i _ 0 y .s hi rfl rfl).sInv
    have c0 := hcell i 0 hil (by decide)
    rw [e0] at c0
    have e : off + i * (shp Kd.strs).length + 0 = off + i := by simp [shp]
    rw [e] at c0
    exact ⟨b, off, s, rfl, rfl, hb, c0, s0⟩
/-- The weight at a place. -/
theorem RowA.wt {S : Nat → Prop} {w : World} {p : Option Addr} {cap : Nat} {F : Nat → Nat → Value} {l : List (List Lf)} (h : RowA S w .weights p cap F l) {i : Nat} {x : List Lf} (hi : l[i]? = some x) :
    ∃ b off a c d e, x = [.n a, .n c, .n d, .b e] ∧ p = some ⟨b, off, none⟩ ∧ S b ∧ w.cell? ⟨b, off + i * 4, none⟩ = some (.int .i64 a) ∧ w.cell? ⟨b, off + i * 4 + 1, none⟩ = some (.int .i64 c) ∧ w.cell? ⟨b, off + i * 4 + 2, none⟩ = some (.int .i64 d) ∧ w.cell? ⟨b, off + i * 4 + 3, none⟩ = some (.bool e) := by
  have hil := (List.getElem?_eq_some_iff.1 hi).1
  obtain ⟨b, off, rfl, hb, hcell⟩ := h.hp (by omega)
  have hw := h.hw i x hi
  match x, hw with
  | [y0, y1, y2, y3], _ =>
    obtain ⟨a, e0, rfl⟩ := (h.hx i _ 0 y0 .n hi rfl rfl).nInv
    obtain ⟨c, e1, rfl⟩ := (h.hx i _ 1 y1 .n hi rfl rfl).nInv
    obtain ⟨d, e2, rfl⟩ := (h.hx i _ 2 y2 .n hi rfl rfl).nInv
    obtain ⟨e, e3, rfl⟩ := (h.hx i _ 3 y3 .b hi rfl rfl).bInv
    have c0 := hcell i 0 hil (by decide)
    have c1 := hcell i 1 hil (by decide)
    have c2 := hcell i 2 hil (by decide)
    have c3 := hcell i 3 hil (by decide)
    rw [e0] at c0
    rw [e1] at c1
    rw [e2] at c2
    rw [e3] at c3
    exact ⟨b, off, a, c, d, e, rfl, rfl, hb, c0, c1, c2, c3⟩
/-- The expression at a place. -/
theorem RowA.ex {S : Nat → Prop} {w : World} {p : Option Addr} {cap : Nat} {F : Nat → Nat → Value} {l : List (List Lf)} (h : RowA S w .exprs p cap F l) {i : Nat} {x : List Lf} (hi : l[i]? = some x) :
    ∃ b off o n s k pa ca, x = [.n o, .n n, .s s, .row .exprs k] ∧ p = some ⟨b, off, none⟩ ∧ S b ∧ w.cell? ⟨b, off + i * 4, none⟩ = some (.int .i64 o) ∧ w.cell? ⟨b, off + i * 4 + 1, none⟩ = some (.int .i64 n) ∧ w.cell? ⟨b, off + i * 4 + 2, none⟩ = some (.string s) ∧ w.cell? ⟨b, off + i * 4 + 3, none⟩ = some (.slice pa k.length ca) ∧
      s.size ≤ 140737488351232 ∧ At S w (.r .exprs) (.slice pa k.length ca) (.row .exprs k) := by
  have hil := (List.getElem?_eq_some_iff.1 hi).1
  obtain ⟨b, off, rfl, hb, hcell⟩ := h.hp (by omega)
  have hw := h.hw i x hi
  match x, hw with
  | [y0, y1, y2, y3], _ =>
    obtain ⟨o, e0, rfl⟩ := (h.hx i _ 0 y0 .n hi rfl rfl).nInv
    obtain ⟨n, e1, rfl⟩ := (h.hx i _ 1 y1 .n hi rfl rfl).nInv
    obtain ⟨s, e2, rfl, s2⟩ := (h.hx i _ 2 y2 .s hi rfl rfl).sInv
    have a3 := h.hx i _ 3 y3 (.r .exprs) hi rfl rfl
    obtain ⟨k, pa, ca, _, rfl, e3, _⟩ := a3.form
    rw [e3] at a3
    have c0 := hcell i 0 hil (by decide)
    have c1 := hcell i 1 hil (by decide)
    have c2 := hcell i 2 hil (by decide)
    have c3 := hcell i 3 hil (by decide)
    rw [e0] at c0
    rw [e1] at c1
    rw [e2] at c2
    rw [e3] at c3
    exact ⟨b, off, o, n, s, k, pa, ca, rfl, rfl, hb, c0, c1, c2, c3, s2, a3⟩
/-- The letters of a constraint. -/
structure ItL where
  kd : Int
  op : Int
  n : Int
  en : ByteArray
  ea : List (List Lf)
  nm : ByteArray
  ix : ByteArray
  ws : List (List Lf)
  it : List (List Lf)
  el : List (List Lf)
  bf : List (List Lf)
  af : List (List Lf)
def ItL.lf (x : ItL) : List Lf := [.n x.kd, .n x.op, .n x.n, .s x.en, .row .exprs x.ea, .s x.nm, .s x.ix, .row .weights x.ws, .row .items x.it, .row .items x.el, .row .strs x.bf, .row .strs x.af]
/-- The slices of a constraint. -/
structure ItP where
  p4 : Option Addr
  c4 : Nat
  p7 : Option Addr
  c7 : Nat
  p8 : Option Addr
  c8 : Nat
  p9 : Option Addr
  c9 : Nat
  p10 : Option Addr
  c10 : Nat
  p11 : Option Addr
  c11 : Nat
structure IV (S : Nat → Prop) (w : World) (q : ItP) (x : ItL) : Prop where
  en : x.en.size ≤ 140737488351232
  nm : x.nm.size ≤ 140737488351232
  ix : x.ix.size ≤ 140737488351232
  ea : At S w (.r .exprs) (.slice q.p4 x.ea.length q.c4) (.row .exprs x.ea)
  ws : At S w (.r .weights) (.slice q.p7 x.ws.length q.c7) (.row .weights x.ws)
  it : At S w (.r .items) (.slice q.p8 x.it.length q.c8) (.row .items x.it)
  el : At S w (.r .items) (.slice q.p9 x.el.length q.c9) (.row .items x.el)
  bf : At S w (.r .strs) (.slice q.p10 x.bf.length q.c10) (.row .strs x.bf)
  af : At S w (.r .strs) (.slice q.p11 x.af.length q.c11) (.row .strs x.af)
theorem IV.kept {S S' : Nat → Prop} {w w' : World} (hS : ∀ b, S b → S' b) (hk : ∀ b o, S b → ∀ v, w.cell? ⟨b, o, none⟩ = some v → w'.cell? ⟨b, o, none⟩ = some v) {q : ItP} {x : ItL} (h : IV S w q x) : IV S' w' q x :=
  ⟨h.en, h.nm, h.ix, h.ea.kept hS hk, h.ws.kept hS hk, h.it.kept hS hk, h.el.kept hS hk, h.bf.kept hS hk, h.af.kept hS hk⟩
theorem IV.under {N : Nat} {w w' : World} (hb : Below N w w') {q : ItP} {x : ItL} (h : IV (Lo N) w q x) : IV (Lo N) w' q x :=
  h.kept (fun _ h => h) (fun b o hlt _ hv => (hb.cell (p := ⟨b, o, none⟩) hlt).trans hv)
/-- The constraint at a place. -/
theorem RowA.iv {S : Nat → Prop} {w : World} {p : Option Addr} {cap : Nat} {F : Nat → Nat → Value} {l : List (List Lf)} (h : RowA S w .items p cap F l) {i : Nat} {x : List Lf} (hi : l[i]? = some x) :
    ∃ (b off : Nat) (y : ItL) (q : ItP), x = y.lf ∧ p = some ⟨b, off, none⟩ ∧ S b ∧ IV S w q y ∧
      w.cell? ⟨b, off + i * 12, none⟩ = some (.int .i64 y.kd) ∧ w.cell? ⟨b, off + i * 12 + 1, none⟩ = some (.int .i64 y.op) ∧ w.cell? ⟨b, off + i * 12 + 2, none⟩ = some (.int .i64 y.n) ∧ w.cell? ⟨b, off + i * 12 + 3, none⟩ = some (.string y.en) ∧
      w.cell? ⟨b, off + i * 12 + 4, none⟩ = some (.slice q.p4 y.ea.length q.c4) ∧ w.cell? ⟨b, off + i * 12 + 5, none⟩ = some (.string y.nm) ∧ w.cell? ⟨b, off + i * 12 + 6, none⟩ = some (.string y.ix) ∧ w.cell? ⟨b, off + i * 12 + 7, none⟩ = some (.slice q.p7 y.ws.length q.c7) ∧
      w.cell? ⟨b, off + i * 12 + 8, none⟩ = some (.slice q.p8 y.it.length q.c8) ∧ w.cell? ⟨b, off + i * 12 + 9, none⟩ = some (.slice q.p9 y.el.length q.c9) ∧ w.cell? ⟨b, off + i * 12 + 10, none⟩ = some (.slice q.p10 y.bf.length q.c10) ∧ w.cell? ⟨b, off + i * 12 + 11, none⟩ = some (.slice q.p11 y.af.length q.c11) := by
  have hil := (List.getElem?_eq_some_iff.1 hi).1
  obtain ⟨b, off, rfl, hb, hcell⟩ := h.hp (by omega)
  have hw := h.hw i x hi
  match x, hw with
  | [y0, y1, y2, y3, y4, y5, y6, y7, y8, y9, y10, y11], _ =>
    obtain ⟨x0, e0, rfl⟩ := (h.hx i _ 0 y0 .n hi rfl rfl).nInv
    obtain ⟨x1, e1, rfl⟩ := (h.hx i _ 1 y1 .n hi rfl rfl).nInv
    obtain ⟨x2, e2, rfl⟩ := (h.hx i _ 2 y2 .n hi rfl rfl).nInv
    obtain ⟨x3, e3, rfl, s3⟩ := (h.hx i _ 3 y3 .s hi rfl rfl).sInv
    have a4 := h.hx i _ 4 y4 (.r .exprs) hi rfl rfl
    obtain ⟨x4, p4, k4, _, rfl, e4, _⟩ := a4.form
    obtain ⟨x5, e5, rfl, s5⟩ := (h.hx i _ 5 y5 .s hi rfl rfl).sInv
    obtain ⟨x6, e6, rfl, s6⟩ := (h.hx i _ 6 y6 .s hi rfl rfl).sInv
    have a7 := h.hx i _ 7 y7 (.r .weights) hi rfl rfl
    obtain ⟨x7, p7, k7, _, rfl, e7, _⟩ := a7.form
    have a8 := h.hx i _ 8 y8 (.r .items) hi rfl rfl
    obtain ⟨x8, p8, k8, _, rfl, e8, _⟩ := a8.form
    have a9 := h.hx i _ 9 y9 (.r .items) hi rfl rfl
    obtain ⟨x9, p9, k9, _, rfl, e9, _⟩ := a9.form
    have a10 := h.hx i _ 10 y10 (.r .strs) hi rfl rfl
    obtain ⟨x10, p10, k10, _, rfl, e10, _⟩ := a10.form
    have a11 := h.hx i _ 11 y11 (.r .strs) hi rfl rfl
    obtain ⟨x11, p11, k11, _, rfl, e11, _⟩ := a11.form
    rw [e4] at a4
    rw [e7] at a7
    rw [e8] at a8
    rw [e9] at a9
    rw [e10] at a10
    rw [e11] at a11
    exact ⟨b, off, ⟨x0, x1, x2, x3, x4, x5, x6, x7, x8, x9, x10, x11⟩, ⟨p4, k4, p7, k7, p8, k8, p9, k9, p10, k10, p11, k11⟩, rfl, rfl, hb, ⟨s3, s5, s6, a4, a7, a8, a9, a10, a11⟩,
      (hcell i 0 hil (by decide)).trans (by rw [e0]), (hcell i 1 hil (by decide)).trans (by rw [e1]), (hcell i 2 hil (by decide)).trans (by rw [e2]), (hcell i 3 hil (by decide)).trans (by rw [e3]), (hcell i 4 hil (by decide)).trans (by rw [e4]), (hcell i 5 hil (by decide)).trans (by rw [e5]), (hcell i 6 hil (by decide)).trans (by rw [e6]), (hcell i 7 hil (by decide)).trans (by rw [e7]), (hcell i 8 hil (by decide)).trans (by rw [e8]), (hcell i 9 hil (by decide)).trans (by rw [e9]), (hcell i 10 hil (by decide)).trans (by rw [e10]), (hcell i 11 hil (by decide)).trans (by rw [e11])⟩
/-- Strong induction over leaves. -/
theorem lf_ind {Q : Lf → Prop} (hn : ∀ i, Q (.n i)) (hs : ∀ t, Q (.s t)) (hb : ∀ v, Q (.b v)) (hr : ∀ k l, (∀ x ∈ l, ∀ y ∈ x, Q y) → Q (.row k l)) : ∀ lf, Q lf
  | .n i => hn i
  | .s t => hs t
  | .b v => hb v
  | .row k l => hr k l (fun x hx y hy => by
      have h1 := List.sizeOf_lt_of_mem hx
      have h2 := List.sizeOf_lt_of_mem hy
      exact lf_ind hn hs hb hr y)
termination_by lf => SizeOf.sizeOf lf
decreasing_by simp_wf; omega
end Go.Proofs.YtoigjeoncdfdmaaGreatDoor.ClW
