/-
  What the specification's flat returns.
-/
import Derived.Test.YtoigjeoncdfdmaaGreatDoorClRUp
namespace Go.Proofs.YtoigjeoncdfdmaaGreatDoor.ClW
open Go Go.RowKit Go.Shelf Go.Proofs.YtoigjeoncdfdmaaGreatDoor.NumM Go.Proofs.YtoigjeoncdfdmaaGreatDoor.LexW Go.Proofs.YtoigjeoncdfdmaaGreatDoor.LexM Go.Proofs.YtoigjeoncdfdmaaGreatDoor.ClM
open Go.«Sort»
attribute [local go_sem] Oper.semAt_some

/-- append of a slice that may be nil, at a step of a region that draws its order. -/
theorem step_append_from {P : Program} {w : World} {ops : Array Oper} {o : Oper} {a : Act} {K : Act → World → Prop} {Q : Exit → Act → World → Prop} {E : Prop} (hgd : o.guard = none) (s x : Operand) (t : TypeId)
    (ho : o.op = .call { callee := .builtin .append, args := #[s, x], argTypes := #[t, t] })
    (base : Nat) (e : TypeId) (i : TypeInfo) (z : Value) (size bytes : Nat) (ht : P.underlying t = some (.slice e)) (hi : P.info? e = some i) (hz : i.zero = some z)
    (hsize : i.size = size) (hby : i.bytes = bytes) (hzs : z.cells.size = size) (hsz : 0 < size)
    (v : Value) (n : Nat) (xs : List Value) (hs : a.eval s = v) (hown : w.ownsRow base e size v n xs)
    (q : Option Addr) (m c : Nat) (news : List Value) (hx : a.eval x = .slice q m c) (hl : news.length = m * size) (hq : q = none → m = 0) (hnews : ∀ ad, q = some ad → ∀ j u, news[j]? = some u → w.cell? (ad.add j) = some u) (h1 : ∀ u ∈ news, u.oneCell' = true)
    (h63 : n + m ≤ maxLen) (hbytes : (n + m) * bytes ≤ 140737488355328) (hbase : base ≤ w.heap.size)
    (h : ∀ p' c' w', w'.ownsRow base e size (.slice p' (n + m) c') (n + m) (xs ++ news) → w.grownBy w' v.ownBlock → ((Value.slice p' (n + m) c').ownBlock = v.ownBlock ∨ (Value.slice p' (n + m) c').ownBlock = some w.heap.size) → K (a.put o.dst (.slice p' (n + m) c')) w') :
    if Region.wanted o (yielded ops a.tmps) = true then Oper.wp P o a w K Q else E := by
  have hw : Region.wanted o (yielded ops a.tmps) = true := by simp [Region.wanted, hgd]
  rw [if_pos hw]
  cases q with
  | none =>
    have hm := hq rfl
    subst hm
    have hn0 : news = [] := by simpa using hl
    subst hn0
    obtain ⟨p, cap, rfl⟩ := own_len hown
    have hr := run_append_nil (P := P) (w := w) t o.type base e i ht hi (c := c) (by rw [hsize]; exact hown)
    unfold Oper.wp execOp
    simp only [ho, resolve, invoke, builtin, Sem.run_bind, Sem.run_pure, Result.andThen_ok, List.map_toArray, List.map_cons, List.map_nil, hs, hx, hr]
    exact h p cap w (by rw [List.append_nil]; exact hown) (grown_below (Below.refl _ _) _) (.inl rfl)
  | some ad =>
    obtain ⟨v', w', hr, h2, h3, _, h5⟩ := run_append_own_at (P := P) w base t o.type e i z size bytes ht hi hz hsize hby hzs hsz v n xs hown ad m c news hl (hnews ad rfl) h1 h63 hbytes hbase
    obtain ⟨p, cap, rfl⟩ := own_len h2
    unfold Oper.wp execOp
    simp only [ho, resolve, invoke, builtin, Sem.run_bind, Sem.run_pure, Result.andThen_ok, List.map_toArray, List.map_cons, List.map_nil, hs, hx, hr]
    exact h p cap w' h2 h3 h5
/-- The cells of a row of fields. -/
structure FkC (fs : List Fld) (xs : List Value) : Prop where
  at_ : ∀ (i : Nat) (f : Fld), fs[i]? = some f → xs[i * 5]? = some (.string f.nm) ∧ xs[i * 5 + 1]? = some (.int .i64 f.wd) ∧ xs[i * 5 + 2]? = some (.int .i64 f.sz) ∧ xs[i * 5 + 3]? = some (.int .i64 f.md) ∧ xs[i * 5 + 4]? = some (.int .i64 f.ini) ∧ f.nm.size ≤ 140737488351232
/-- A row of fields of the call's own. -/
def FRow (B : Nat) (w : World) (v : Value) (n : Nat) (fs : List Fld) : Prop := ∃ xs, w.ownsRow B 27 5 v n xs ∧ FkC fs xs ∧ fs.length = n
theorem FRow.grown {B : Nat} {w w' : World} {v : Value} {n : Nat} {fs : List Fld} {row : Option Nat} (h : FRow B w v n fs) (hg : w.grownBy w' row) (hr : ∀ b, row = some b → v.ownBlock ≠ some b) : FRow B w' v n fs := by
  obtain ⟨xs, ho, hc, hn⟩ := h
  exact ⟨xs, own_grown ho hg (fun b hb e => hr b e hb), hc, hn⟩
theorem FRow.at_ {B : Nat} {w : World} {p : Option Addr} {n cap : Nat} {fs : List Fld} (h : FRow B w (.slice p n cap) n fs) (hl : fs.length ≤ 100000) : At (Hi B w) w (.r .fields) (.slice p fs.length cap) (.row .fields (fs.map Fld.lf)) := by
  obtain ⟨xs, ho, hc, rfl⟩ := h
  have r := rowA_own (S := Hi B w) (k := .fields) (l := fs.map Fld.lf) ho (List.length_map _) (by simp only [byt]; omega) (fun i x hx => by
    rw [List.getElem?_map] at hx
    obtain ⟨b, _, rfl⟩ := Option.map_eq_some_iff.1 hx
    rfl) (fun i x j y sh hx hy hsh => by
    rw [List.getElem?_map] at hx
    obtain ⟨b, hb, rfl⟩ := Option.map_eq_some_iff.1 hx
    obtain ⟨h0, h1, h2, h3, h4, h5⟩ := hc.at_ i b hb
    match j, hy, hsh with
    | 0, hy, hsh =>
      cases hy
      cases hsh
      have e : xs.getD (i * (shp Kd.fields).length + 0) undef = .string b.nm := by
        rw [List.getD_eq_getElem?_getD, show i * (shp Kd.fields).length + 0 = i * 5 from rfl, h0]; rfl
      rw [e]
      exact .s _ h5
    | 1, hy, hsh =>
      cases hy
      cases hsh
      have e : xs.getD (i * (shp Kd.fields).length + 1) undef = .int .i64 b.wd := by
        rw [List.getD_eq_getElem?_getD, show i * (shp Kd.fields).length + 1 = i * 5 + 1 from rfl, h1]; rfl
      rw [e]
      exact .n _
    | 2, hy, hsh =>
      cases hy
      cases hsh
      have e : xs.getD (i * (shp Kd.fields).length + 2) undef = .int .i64 b.sz := by
        rw [List.getD_eq_getElem?_getD, show i * (shp Kd.fields).length + 2 = i * 5 + 2 from rfl, h2]; rfl
      rw [e]
      exact .n _
    | 3, hy, hsh =>
      cases hy
      cases hsh
      have e : xs.getD (i * (shp Kd.fields).length + 3) undef = .int .i64 b.md := by
        rw [List.getD_eq_getElem?_getD, show i * (shp Kd.fields).length + 3 = i * 5 + 3 from rfl, h3]; rfl
      rw [e]
      exact .n _
    | 4, hy, hsh =>
      cases hy
      cases hsh
      have e : xs.getD (i * (shp Kd.fields).length + 4) undef = .int .i64 b.ini := by
        rw [List.getD_eq_getElem?_getD, show i * (shp Kd.fields).length + 4 = i * 5 + 4 from rfl, h4]; rfl
      rw [e]
      exact .n _
    | j + 5, hy, _ => simp [Fld.lf] at hy) (fun g h1 h2 _ => ⟨h1, h2⟩)
  have := r.at_
  rw [List.length_map] at this
  exact this
/-- What a row of fields in memory reads as. -/
theorem flatF_fk {S : Nat → Prop} {w : World} {p : Option Addr} {cap : Nat} {F : Nat → Nat → Value} {fs : List Fld} (h : RowA S w .fields p cap F (fs.map Fld.lf)) : FkC fs (flatF 5 fs.length F) := by
  refine ⟨fun i f hi => ?_⟩
  have hil := (List.getElem?_eq_some_iff.1 hi).1
  have hg : (fs.map Fld.lf)[i]? = some f.lf := by rw [List.getElem?_map, hi]; rfl
  obtain ⟨e0, s0⟩ := (h.hx i _ 0 _ .s hg rfl rfl).sOf
  have e1 := (h.hx i _ 1 _ .n hg rfl rfl).nOf
  have e2 := (h.hx i _ 2 _ .n hg rfl rfl).nOf
  have e3 := (h.hx i _ 3 _ .n hg rfl rfl).nOf
  have e4 := (h.hx i _ 4 _ .n hg rfl rfl).nOf
  refine ⟨?_, ?_, ?_, ?_, ?_, s0⟩
  · have := flatF_get (F := F) (k := 5) hil (show 0 < 5 by omega); rw [e0] at this; exact this
  · have := flatF_get (F := F) (k := 5) hil (show 1 < 5 by omega); rw [e1] at this; exact this
  · have := flatF_get (F := F) (k := 5) hil (show 2 < 5 by omega); rw [e2] at this; exact this
  · have := flatF_get (F := F) (k := 5) hil (show 3 < 5 by omega); rw [e3] at this; exact this
  · have := flatF_get (F := F) (k := 5) hil (show 4 < 5 by omega); rw [e4] at this; exact this
theorem FkC.app {fs gs : List Fld} {xs ys : List Value} (h : FkC fs xs) (hl : xs.length = fs.length * 5) (k : FkC gs ys) : FkC (fs ++ gs) (xs ++ ys) := by
  refine ⟨fun i f hi => ?_⟩
  rcases Nat.lt_or_ge i fs.length with hlt | hge
  · rw [List.getElem?_append_left hlt] at hi
    obtain ⟨h0, h1, h2, h3, h4, h5⟩ := h.at_ i f hi
    exact ⟨by rw [List.getElem?_append_left (by omega)]; exact h0, by rw [List.getElem?_append_left (by omega)]; exact h1, by rw [List.getElem?_append_left (by omega)]; exact h2, by rw [List.getElem?_append_left (by omega)]; exact h3, by rw [List.getElem?_append_left (by omega)]; exact h4, h5⟩
  · rw [List.getElem?_append_right hge] at hi
    obtain ⟨h0, h1, h2, h3, h4, h5⟩ := k.at_ _ f hi
    refine ⟨?_, ?_, ?_, ?_, ?_, h5⟩
    · rw [List.getElem?_append_right (by omega), show i * 5 - xs.length = (i - fs.length) * 5 by omega]; exact h0
    · rw [List.getElem?_append_right (by omega), show i * 5 + 1 - xs.length = (i - fs.length) * 5 + 1 by omega]; exact h1
    · rw [List.getElem?_append_right (by omega), show i * 5 + 2 - xs.length = (i - fs.length) * 5 + 2 by omega]; exact h2
    · rw [List.getElem?_append_right (by omega), show i * 5 + 3 - xs.length = (i - fs.length) * 5 + 3 by omega]; exact h3
    · rw [List.getElem?_append_right (by omega), show i * 5 + 4 - xs.length = (i - fs.length) * 5 + 4 by omega]; exact h4
theorem At.keepS {S : Nat → Prop} {w w' : World} {row : Option Nat} {sh : Sh} {v : Value} {lf : Lf} (h : At S w sh v lf) (hg : w.grownBy w' row) (hS : ∀ b, S b → b < w.heap.size ∧ row ≠ some b) : At S w' sh v lf :=
  h.kept (fun _ h => h) (fun b o hb _ hv => (World.cell?_of_block (w := w) (a := ⟨b, o, none⟩) (hg.block b (hS b hb).1 (fun e => (hS b hb).2 e.symm))).trans hv)
/-- The cells of a row of blocks, their constraints in S. -/
structure BkS (S : Nat → Prop) (w : World) (bs : List Bk) (xs : List Value) : Prop where
  at_ : ∀ (i : Nat) (b : Bk), bs[i]? = some b → ∃ pi ci, xs[i * 2]? = some (.string b.nm) ∧ xs[i * 2 + 1]? = some (.slice pi b.it.length ci) ∧ b.nm.size ≤ 140737488351232 ∧ At S w (.r .items) (.slice pi b.it.length ci) (.row .items b.it)
theorem BkS.grown {S : Nat → Prop} {w w' : World} {bs : List Bk} {xs : List Value} {row : Option Nat} (hc : BkS S w bs xs) (hg : w.grownBy w' row) (hS : ∀ b, S b → b < w.heap.size ∧ row ≠ some b) : BkS S w' bs xs :=
  ⟨fun i b hi => by
    obtain ⟨pi, ci, h1, h2, h3, h4⟩ := hc.at_ i b hi
    exact ⟨pi, ci, h1, h2, h3, h4.keepS hg hS⟩⟩
def SRow (S : Nat → Prop) (B : Nat) (w : World) (v : Value) (n : Nat) (bs : List Bk) : Prop := ∃ xs, w.ownsRow B 54 2 v n xs ∧ BkS S w bs xs ∧ bs.length = n
theorem SRow.grown {S : Nat → Prop} {B : Nat} {w w' : World} {v : Value} {n : Nat} {bs : List Bk} {row : Option Nat} (h : SRow S B w v n bs) (hg : w.grownBy w' row) (hS : ∀ b, S b → b < w.heap.size ∧ row ≠ some b) (hr : ∀ b, row = some b → v.ownBlock ≠ some b) : SRow S B w' v n bs := by
  obtain ⟨xs, ho, hc, hl⟩ := h
  exact ⟨xs, own_grown ho hg (fun b hb e => hr b e hb), hc.grown hg hS, hl⟩
theorem SRow.rowA {S : Nat → Prop} {B : Nat} {w : World} {p : Option Addr} {n cap : Nat} {bs : List Bk} (h : SRow S B w (.slice p n cap) n bs) (hl : n ≤ 100000) : ∃ G, RowA (fun b => S b ∨ (B ≤ b ∧ b < w.heap.size)) w .blocks p cap G (bs.map Bk.lf) := by
  obtain ⟨xs, ho, hc, hn⟩ := h
  refine ⟨_, rowA_own (k := .blocks) ho (by rw [List.length_map]; exact hn) (by simp only [byt]; omega) (fun i x hx => ?_) (fun i x j y sh hx hy hsh => ?_) (fun g h1 h2 _ => .inr ⟨h1, h2⟩)⟩
  · rw [List.getElem?_map] at hx
    obtain ⟨b, _, rfl⟩ := Option.map_eq_some_iff.1 hx
    rfl
  · rw [List.getElem?_map] at hx
    obtain ⟨b, hb, rfl⟩ := Option.map_eq_some_iff.1 hx
    obtain ⟨pi, ci, h1, h2, h3, h4⟩ := hc.at_ i b hb
    match j, hy, hsh with
    | 0, hy, hsh =>
      cases hy
      cases hsh
      have e : xs.getD (i * (shp Kd.blocks).length + 0) undef = .string b.nm := by
        rw [List.getD_eq_getElem?_getD, show i * (shp Kd.blocks).length + 0 = i * 2 from rfl, h1]; rfl
      rw [e]
      exact .s _ h3
    | 1, hy, hsh =>
      cases hy
      cases hsh
      have e : xs.getD (i * (shp Kd.blocks).length + 1) undef = .slice pi b.it.length ci := by
        rw [List.getD_eq_getElem?_getD, show i * (shp Kd.blocks).length + 1 = i * 2 + 1 from rfl, h2]; rfl
      rw [e]
      exact h4.weak (fun b h => .inl h)
    | j + 2, hy, _ => simp [Bk.lf] at hy
theorem SRow.snoc {S : Nat → Prop} {B : Nat} {w w' : World} {v v' : Value} {n : Nat} {bs : List Bk} {b : Bk} {xs : List Value} {pi : Option Addr} {ci : Nat} (hc : BkS S w bs xs) (hl : xs.length = n * 2) (hn : bs.length = n) (hs : b.nm.size ≤ 140737488351232) (hat : At S w (.r .items) (.slice pi b.it.length ci) (.row .items b.it))
    (ho : w'.ownsRow B 54 2 v' (n + 1) (xs ++ [.string b.nm, .slice pi b.it.length ci])) (hg : w.grownBy w' v.ownBlock) (hS : ∀ b, S b → b < w.heap.size ∧ v.ownBlock ≠ some b) : SRow S B w' v' (n + 1) (bs ++ [b]) := by
  subst hn
  refine ⟨_, ho, ⟨fun i x hi => ?_⟩, by rw [List.length_append]; rfl⟩
  rcases Nat.lt_or_ge i bs.length with h | h
  · rw [List.getElem?_append_left h] at hi
    obtain ⟨p, c, h1, h2, h3, h4⟩ := hc.at_ i x hi
    refine ⟨p, c, ?_, ?_, h3, h4.keepS hg hS⟩
    · rw [List.getElem?_append_left (by omega)]; exact h1
    · rw [List.getElem?_append_left (by omega)]; exact h2
  · have hil := (List.getElem?_eq_some_iff.1 hi).1
    rw [List.length_append] at hil
    have e : i = bs.length := by simp at hil; omega
    subst e
    rw [List.getElem?_append_right (Nat.le_refl _), Nat.sub_self] at hi
    obtain rfl : b = x := by simpa using hi
    refine ⟨pi, ci, ?_, ?_, hs, hat.keepS hg hS⟩
    · rw [List.getElem?_append_right (by omega), show bs.length * 2 - xs.length = 0 by omega]; rfl
    · rw [List.getElem?_append_right (by omega), show bs.length * 2 + 1 - xs.length = 1 by omega]; rfl
theorem SRow.put {S : Nat → Prop} {B : Nat} {w : World} {g n cap i : Nat} {bs : List Bk} {b : Bk} {pi : Option Addr} {ci : Nat} (h : SRow S B w (.slice (some ⟨g, 0, none⟩) n cap) n bs) (hi : i < n) (hs : b.nm.size ≤ 140737488351232) (hat : At S w (.r .items) (.slice pi b.it.length ci) (.row .items b.it)) (hS : ∀ b, S b → b < w.heap.size ∧ b ≠ g) :
    SRow S B ((w.setCell ⟨g, i * 2, none⟩ (.string b.nm)).setCell ⟨g, i * 2 + 1, none⟩ (.slice pi b.it.length ci)) (.slice (some ⟨g, 0, none⟩) n cap) n (bs.set i b) := by
  obtain ⟨xs, ho, hc, hn⟩ := h
  have hxl : xs.length = n * 2 := ho.1
  have hgr : w.grownBy ((w.setCell ⟨g, i * 2, none⟩ (.string b.nm)).setCell ⟨g, i * 2 + 1, none⟩ (.slice pi b.it.length ci)) (some g) := (grown_set w g (i * 2) (.string b.nm)).trans (grown_set _ g (i * 2 + 1) (.slice pi b.it.length ci))
  have hS2 : ∀ b, S b → b < w.heap.size ∧ (some g : Option Nat) ≠ some b := fun b hb => ⟨(hS b hb).1, fun e => (hS b hb).2 (by injection e with e; exact e.symm)⟩
  refine ⟨(xs.set (i * 2) (.string b.nm)).set (i * 2 + 1) (.slice pi b.it.length ci), own_set (own_set ho _) _, ⟨fun j x hx => ?_⟩, by rw [List.length_set]; exact hn⟩
  rw [List.getElem?_set] at hx
  split at hx
  · rename_i e
    subst e
    obtain rfl : b = x := by simpa [hn, hi] using hx
    refine ⟨pi, ci, ?_, ?_, hs, hat.keepS hgr hS2⟩
    · rw [List.getElem?_set, if_neg (by omega), List.getElem?_set, if_pos rfl, if_pos (by omega)]
    · rw [List.getElem?_set, if_pos rfl, List.length_set, if_pos (by omega)]
  · rename_i e
    obtain ⟨p, c, h1, h2, h3, h4⟩ := hc.at_ j x hx
    refine ⟨p, c, ?_, ?_, h3, h4.keepS hgr hS2⟩
    · rw [List.getElem?_set, if_neg (by omega), List.getElem?_set, if_neg (by omega)]; exact h1
    · rw [List.getElem?_set, if_neg (by omega), List.getElem?_set, if_neg (by omega)]; exact h2
/-- What is held in flat. -/
structure FlR (S : Nat → Prop) (w : World) (nm : ByteArray) (fs : List Fld) (bs : List Bk) (nF nB : Nat) (pF : Option Addr) (cF : Nat) (pB : Option Addr) (cB : Nat) (W : World) : Prop where
  out : Blk W (w.heap.size + 1) [.string nm, .string ⟨#[]⟩, .slice pF nF cF, .slice pB nB cB]
  res : Blk W w.heap.size [.string ⟨#[]⟩, .string ⟨#[]⟩, .slice none 0 0, .slice none 0 0]
  frow : FRow (w.heap.size + 2) W (.slice pF nF cF) nF fs
  brow : SRow S (w.heap.size + 2) W (.slice pB nB cB) nB bs
  apart : ∀ g, (Value.slice pF nF cF).ownBlock = some g → (Value.slice pB nB cB).ownBlock ≠ some g
  low : Below w.heap.size w W
  sz : w.heap.size + 2 ≤ W.heap.size
section
variable {S : Nat → Prop} {w W W' : World} {nm : ByteArray} {fs : List Fld} {bs : List Bk} {nF nB : Nat} {pF : Option Addr} {cF : Nat} {pB : Option Addr} {cB : Nat}
theorem FlR.later (h : FlR S w nm fs bs nF nB pF cF pB cB W) (hb : Below W.heap.size W W') (hS : ∀ b, S b → b < w.heap.size) : FlR S w nm fs bs nF nB pF cF pB cB W' :=
  ⟨h.out.stay hb, h.res.stay hb, h.frow.grown (grown_below hb none) (fun b e => by cases e), h.brow.grown (grown_below hb none) (fun b hb => ⟨by have := hS b hb; have := h.sz; omega, fun e => by cases e⟩) (fun b e => by cases e), h.apart, h.low.then_ hb, by have := h.sz; have := hb.size; omega⟩
/-- The fields are appended to, and the new slice is stored. -/
theorem FlR.fields (h : FlR S w nm fs bs nF nB pF cF pB cB W) (hS : ∀ b, S b → b < w.heap.size) {p' : Option Addr} {n' c' : Nat} {gs : List Fld} (hr : FRow (w.heap.size + 2) W' (.slice p' n' c') n' gs) (hg : W.grownBy W' (Value.slice pF nF cF).ownBlock) (hw : (Value.slice p' n' c').ownBlock = (Value.slice pF nF cF).ownBlock ∨ (Value.slice p' n' c').ownBlock = some W.heap.size) :
    FlR S w nm gs bs n' nB p' c' pB cB (W'.setCell ⟨w.heap.size + 1, 2, none⟩ (.slice p' n' c')) := by
  obtain ⟨xs, ho, _, _⟩ := h.frow
  obtain ⟨ys, hob, _⟩ := h.brow
  have hlF := fun g e => (ho.lt g e).1
  have hlB := fun g e => hob.lt g e
  have hr' := hr
  obtain ⟨zs, ho', _, _⟩ := hr'
  have hlF' := fun g e => (ho'.lt g e).1
  have hsz := h.sz
  have hsz' := hg.size
  have hgs := grown_set W' (w.heap.size + 1) 2 (.slice p' n' c')
  refine ⟨(h.out.grown hg (fun e => by have := hlF _ e.symm; omega)).set 2 _ (by simp), (h.res.grown hg (fun e => by have := hlF _ e.symm; omega)).far (by omega), hr.grown hgs (fun b e => by cases e; intro e2; have := hlF' _ e2; omega), (h.brow.grown hg (fun b hb => ⟨by have := hS b hb; omega, fun e => by have := hlF b e; have := hS b hb; omega⟩) (fun b e => h.apart b e)).grown hgs (fun b hb => ⟨by have := hS b hb; omega, fun e => by injection e with e; have := hS b hb; omega⟩) (fun b e => by cases e; exact fun e2 => by have := (hlB _ e2).1; omega), fun g e e2 => ?_, (h.low.grown hg (by omega) (fun b e => by have := hlF b e; omega)).setCell (p := ⟨w.heap.size + 1, 2, none⟩) (by show w.heap.size ≤ w.heap.size + 1; omega) _, by rw [setCell_size]; omega⟩
  rcases hw with q | q
  · exact h.apart g (by rw [← q]; exact e) e2
  · rw [q] at e
    cases e
    have := (hlB _ e2).2
    omega
/-- The blocks are appended to, and the new slice is stored. -/
theorem FlR.blocks (h : FlR S w nm fs bs nF nB pF cF pB cB W) (hS : ∀ b, S b → b < w.heap.size) {p' : Option Addr} {n' c' : Nat} {gs : List Bk} (hr : SRow S (w.heap.size + 2) W' (.slice p' n' c') n' gs) (hg : W.grownBy W' (Value.slice pB nB cB).ownBlock) (hw : (Value.slice p' n' c').ownBlock = (Value.slice pB nB cB).ownBlock ∨ (Value.slice p' n' c').ownBlock = some W.heap.size) :
    FlR S w nm fs gs nF n' pF cF p' c' (W'.setCell ⟨w.heap.size + 1, 3, none⟩ (.slice p' n' c')) := by
  obtain ⟨xs, ho, _, _⟩ := h.frow
  obtain ⟨ys, hob, _⟩ := h.brow
  have hlF := fun g e => ho.lt g e
  have hlB := fun g e => hob.lt g e
  have hr' := hr
  obtain ⟨zs, ho', _⟩ := hr'
  have hlB' := fun g e => (ho'.lt g e).1
  have hsz := h.sz
  have hsz' := hg.size
  have hgs := grown_set W' (w.heap.size + 1) 3 (.slice p' n' c')
  refine ⟨(h.out.grown hg (fun e => by have := (hlB _ e.symm).1; omega)).set 3 _ (by simp), (h.res.grown hg (fun e => by have := (hlB _ e.symm).1; omega)).far (by omega), (h.frow.grown hg (fun b e e2 => h.apart b e2 e)).grown hgs (fun b e => by cases e; intro e2; have := (hlF _ e2).1; omega), hr.grown hgs (fun b hb => ⟨by have := hS b hb; omega, fun e => by injection e with e; have := hS b hb; omega⟩) (fun b e => by cases e; exact fun e2 => by have := hlB' _ e2; omega), fun g e e2 => ?_, (h.low.grown hg (by omega) (fun b e => by have := (hlB b e).1; omega)).setCell (p := ⟨w.heap.size + 1, 3, none⟩) (by show w.heap.size ≤ w.heap.size + 1; omega) _, by rw [setCell_size]; omega⟩
  rcases hw with q | q
  · exact h.apart g e (by rw [← q]; exact e2)
  · rw [q] at e2
    cases e2
    have := (hlF _ e).2
    omega
/-- A block is put in another's place. -/
theorem FlR.put {g i : Nat} {b : Bk} {pi : Option Addr} {ci : Nat} (h : FlR S w nm fs bs nF nB pF cF (some ⟨g, 0, none⟩) cB W) (hS : ∀ b, S b → b < w.heap.size) (hi : i < nB) (hg2 : w.heap.size + 2 ≤ g) (hs : b.nm.size ≤ 140737488351232) (hat : At S W (.r .items) (.slice pi b.it.length ci) (.row .items b.it)) :
    FlR S w nm fs (bs.set i b) nF nB pF cF (some ⟨g, 0, none⟩) cB ((W.setCell ⟨g, i * 2, none⟩ (.string b.nm)).setCell ⟨g, i * 2 + 1, none⟩ (.slice pi b.it.length ci)) := by
  have hgs : W.grownBy ((W.setCell ⟨g, i * 2, none⟩ (.string b.nm)).setCell ⟨g, i * 2 + 1, none⟩ (.slice pi b.it.length ci)) (some g) := (grown_set W g (i * 2) _).trans (grown_set _ g (i * 2 + 1) _)
  have hsz := h.sz
  exact ⟨h.out.grown hgs (fun e => by injection e with e; omega), h.res.grown hgs (fun e => by injection e with e; omega), h.frow.grown hgs (fun b e e2 => by cases e; exact h.apart _ e2 rfl), h.brow.put hi hs hat (fun b hb => by have := hS b hb; omega), h.apart, h.low.grown hgs (by omega) (fun b e => by cases e; omega), by rw [setCell_size, setCell_size]; exact hsz⟩
end
theorem CV.fourNe {S : Nat → Prop} {g : Nat} {w : World} {pf : Option Addr} {cf : Nat} {pb : Option Addr} {cb : Nat} {x : Cl} (h : CV S w pf cf pb cb x) (hS : ∀ b, S b → b ≠ g ∧ b < w.heap.size) (a b c d : Value) : CV S ((((w.setCell ⟨g, 0, none⟩ a).setCell ⟨g, 1, none⟩ b).setCell ⟨g, 2, none⟩ c).setCell ⟨g, 3, none⟩ d) pf cf pb cb x :=
  h.kept (fun _ q => q) (fun k o q v hv => (World.cell?_of_block (w := w) (a := ⟨k, o, none⟩) ((four_grown w g a b c d).block k (hS k q).2 (fun e => by cases e; exact (hS _ q).1 rfl))).trans hv)
/-- The class that flat holds at last. -/
theorem FlR.cv {S : Nat → Prop} {w W : World} {nm : ByteArray} {c : Cl} {nF nB : Nat} {pF : Option Addr} {cF : Nat} {pB : Option Addr} {cB : Nat} (h : FlR S w nm c.fs c.bs nF nB pF cF pB cB W) (hl : c.fs.length ≤ 100000 ∧ c.bs.length ≤ 100000) (hn : c.nm.size ≤ 140737488351232) (hp : c.par.size ≤ 140737488351232) : c.fs.length = nF ∧ c.bs.length = nB ∧ CV (fun b => S b ∨ (w.heap.size + 2 ≤ b ∧ b < W.heap.size)) W pF cF pB cB c := by
  have hf := h.frow
  obtain ⟨xs, ho, hc, hnF⟩ := h.frow
  obtain ⟨ys, ho2, hc2, hnB⟩ := h.brow
  obtain ⟨G, r⟩ := h.brow.rowA (by omega)
  have h2 := r.at_
  rw [List.length_map] at h2
  exact ⟨hnF, hnB, hn, hp, (hf.at_ hl.1).weak (fun b hb => .inr hb), h2⟩
theorem drop_step {L : List Cl} {j : Nat} {y : Cl} (h : L[j]? = some y) : flatL (L.drop j) = stepC (flatL (L.drop (j + 1))) y := by
  obtain ⟨hj, he⟩ := List.getElem?_eq_some_iff.1 h
  rw [List.drop_eq_getElem_cons hj, he]
  rfl
theorem addAll_step {R X : List Bk} {k : Nat} {y : Bk} (h : X[k]? = some y) : addAll R (X.take (k + 1)) = addB (addAll R (X.take k)) y := by
  obtain ⟨hk, he⟩ := List.getElem?_eq_some_iff.1 h
  unfold addAll
  rw [List.take_succ_eq_append_getElem hk, List.foldl_append, he]; rfl
set_option maxRecDepth 100000 in
set_option maxHeartbeats 8000000 in
theorem flatR_any (x : Cl) (r : List Cl) (p : Option Addr) (cap : Nat) (G : Nat → Nat → Value) (S : Nat → Prop) (w : World) (ha : RowA S w .classes p cap G ((x :: r).map Cl.lf)) (hS : ∀ b, S b → b < w.heap.size) (hL : (x :: r).length ≤ 40) (hfb : ∀ c ∈ x :: r, c.fs.length ≤ 16 ∧ c.bs.length ≤ 16) :
    Calls Tryz.prog 52 #[.slice p (x :: r).length cap] w fun e w' => ∃ pf cf pb cb, e = .returned (cv (flatL (x :: r)).nm (flatL (x :: r)).par (.slice pf (flatL (x :: r)).fs.length cf) (.slice pb (flatL (x :: r)).bs.length cb)) ∧ CV (fun b => S b ∨ (w.heap.size + 2 ≤ b ∧ b < w'.heap.size)) w' pf cf pb cb (flatL (x :: r)) ∧ Below w.heap.size w w' := by
  obtain ⟨i0, hi, hz0, hz1, hz2⟩ := info_parts infoFields
  obtain ⟨j0, gi, gz0, gz1, gz2⟩ := info_parts infoBk
  have HA := Lib.hid ha
  obtain ⟨b, off, pf, cf, pb, cb, rfl, hb, x0, x1, x2, x3, hxv⟩ := ha.cl (i := 0) (c := x) rfl
  simp only [Nat.zero_mul, Nat.add_zero] at x0
  have hb' : b < w.heap.size := hS b hb
  have HSX := Lib.hid hxv.nm
  obtain ⟨L, hLL⟩ : ∃ L, x :: r = L := ⟨_, rfl⟩
  have HLL := Lib.hid hLL
  rw [hLL] at hL hfb HA ⊢
  have HFB := Lib.hid hfb
  have FLn : Hid (∀ j, (flatL (L.drop j)).fs.length ≤ 640 ∧ (flatL (L.drop j)).bs.length ≤ 640) := Lib.hid fun j => by
    have := flatL_len (l := L.drop j) (fun c hc => hfb c (List.mem_of_mem_drop hc))
    have h2 : (L.drop j).length ≤ L.length := by rw [List.length_drop]; omega
    omega
  obtain ⟨K, hK⟩ : ∃ K, L.length = K := ⟨_, rfl⟩
  have HK := Lib.hid hK
  rw [hK] at hL ⊢
  have hK1 : 1 ≤ K := by rw [← hK, ← hLL, List.length_cons]; omega
  have Z0 := (Blk.new w [.string ⟨#[]⟩, .string ⟨#[]⟩, .slice none 0 0, .slice none 0 0] 25).alloc (.cells #[.string x.nm, .string ⟨#[]⟩, .slice none 0 0, .slice none 0 0] 25)
  have O0 := Blk.at_ (show (w.alloc (.cells #[.string ⟨#[]⟩, .string ⟨#[]⟩, .slice none 0 0, .slice none 0 0] 25)).heap.size = w.heap.size + 1 by simp) [.string x.nm, .string ⟨#[]⟩, .slice none 0 0, .slice none 0 0] 25
  have HS0 : Hid (FlR S w x.nm (flatL (L.drop K)).fs (flatL (L.drop K)).bs 0 0 none 0 none 0 ((w.alloc (.cells #[.string ⟨#[]⟩, .string ⟨#[]⟩, .slice none 0 0, .slice none 0 0] 25)).alloc (.cells #[.string x.nm, .string ⟨#[]⟩, .slice none 0 0, .slice none 0 0] 25))) := Lib.hid (by
    have e : L.drop K = [] := by rw [← hK, List.drop_length]
    rw [e]
    exact ⟨O0, Z0, ⟨[], World.ownsRow_nil _ _ _ _, ⟨fun i f h => by simp [flatL, zCl] at h⟩, rfl⟩, ⟨[], World.ownsRow_nil _ _ _ _, ⟨fun i b h => by simp [flatL, zCl] at h⟩, rfl⟩, (fun g e => by cases e), (ba w _).then_ (ba _ _), by simp⟩)
  clear ha hLL hfb hK x1 x2 x3 hxv hb Z0 O0
  go_enter Tryz.func52, Tryz.ntmps52
  go_wp2
  go_loopw [4] (fun i wr => ∃ (j nF nB : Nat) (pF : Option Addr) (cF : Nat) (pB : Option Addr) (cB : Nat), j ≤ K ∧ i = .int .i64 ((j : Int) - 1) ∧ Hid (FlR S w x.nm (flatL (L.drop j)).fs (flatL (L.drop j)).bs nF nB pF cF pB cB wr)) (fun i _ => (intOf i + 1).toNat)
  case atStart => exact ⟨K, 0, 0, none, 0, none, 0, Nat.le_refl _, rfl, HS0⟩
  case round =>
    obtain ⟨j, nF, nB, pF, cF, pB, cB, hj, rfl, ST⟩ := hrel
    obtain ⟨wa, rfl⟩ : ∃ x, x = wr := ⟨_, rfl⟩
    clear x0
    by_cases hlt : 0 < j
    · obtain ⟨k, rfl⟩ : ∃ k, j = k + 1 := ⟨j - 1, by omega⟩
      have ei : ((k + 1 : Nat) : Int) - 1 = (k : Int) := by omega
      rw [ei]
      obtain ⟨y, hy⟩ : ∃ y, L[k]? = some y := ⟨_, List.getElem?_eq_getElem (by rw [HK.out]; omega)⟩
      have HY := Lib.hid hy
      have hlow := ST.out.low
      obtain ⟨b', off', qf, kf, qb, kb, e', hb3, y0, y1, y2, y3, hyv⟩ := (HA.out.kept (S' := S) (fun _ h => h) (fun b o hb v hv => (hlow.cell (p := ⟨b, o, none⟩) (hS b hb)).trans hv)).cl hy
      cases e'
      obtain ⟨_, _, Gf, ef, rf⟩ := hyv.fs.rowOf
      rw [List.length_map] at ef
      cases ef
      have HF := Lib.hid rf
      have HYV := Lib.hid hyv
      have DS := Lib.hid (drop_step hy)
      have F1 := (FLn.out (k + 1)).1
      have F2 := (FLn.out k).1
      have ys := (HFB.out y (List.mem_of_getElem? hy)).1
      have yb := (HFB.out y (List.mem_of_getElem? hy)).2
      have g2 := ST.out.out.c 2 _ rfl
      have u2 := ST.out.out.f 2
      have ul := ST.out.out.lt
      obtain ⟨xsF, hoF, hcF, hnF⟩ := ST.out.frow
      have HOF := Lib.hid hoF
      have HCF := Lib.hid hcF
      have HNF := Lib.hid hnF
      have hnF2 : nF ≤ 640 := by rw [← hnF]; exact F1
      have hsz := ST.out.sz
      obtain ⟨M, hM⟩ : ∃ M, y.fs.length = M := ⟨_, rfl⟩
      have HM := Lib.hid hM
      rw [hM] at y2 ys
      clear hy hyv rf hoF hcF hnF hM y0 y1 hb3 hlow F1 F2
      have NS : Hid (∀ W, Below wa.heap.size wa W → ∀ ad, qf = some ad → ∀ j u, (flatF 5 M Gf)[j]? = some u → W.cell? (ad.add j) = some u) := Lib.hid fun W hW ad e j u hu => by
        subst e
        have := HF.out.news j u (by rw [List.length_map, HM.out]; exact hu)
        exact (hW.cell (p := ad.add j) (show (ad.add j).block < wa.heap.size by have := hS _ this.2.1; omega)).trans this.1
      have NZ : Hid (qf = none → M = 0) := Lib.hid fun e => by
        subst e
        rcases Nat.eq_zero_or_pos M with h | h
        · exact h
        · obtain ⟨_, _, e, _⟩ := HF.out.hp (by rw [List.length_map, HM.out]; exact h)
          cases e
      have N1 : Hid (∀ u ∈ flatF 5 M Gf, u.oneCell' = true) := Lib.hid fun u hu => by
        obtain ⟨j, hj, e⟩ := List.mem_iff_getElem.1 hu
        have hj2 : (flatF 5 M Gf)[j]? = some u := by rw [← e]; exact List.getElem?_eq_getElem hj
        cases hq : qf with
        | none =>
          obtain ⟨hlt, _⟩ := flatF_at hj2
          rw [NZ.out hq] at hlt
          omega
        | some ad =>
          have hr := HF.out
          rw [hq] at hr
          exact (hr.news j u (by rw [List.length_map, HM.out]; exact hj2)).2.2
      have FK5 : Hid (FkC y.fs (flatF 5 M Gf)) := Lib.hid (by have := flatF_fk HF.out; rw [HM.out] at this; exact this)
      have hkK : k < K := by omega
      go_wp2
      go_cut [28] (fun s28 wx => s28 = s28 ∧ ∃ nF' pF' cF', Hid (FlR S w x.nm ((flatL (L.drop (k + 1))).fs ++ y.fs) (flatL (L.drop (k + 1))).bs nF' nB pF' cF' pB cB wx))
      case first =>
        go_region_law (refine step_append_from rfl (.tmp 21) (.tmp 26) 22 rfl (w.heap.size + 2) 27 i0 (.agg #[.string ⟨#[]⟩, .int .i64 0, .int .i64 0, .int .i64 0, .int .i64 0]) 5 48 Tryz.underlying22 hi hz0 hz1 hz2 rfl (by decide) (.slice pF nF cF) nF xsF (by simp [Act.eval]) (own_later HOF.out (by first | exact Below.refl _ _ | exact (Below.refl _ _).drew)) qf M kf (flatF 5 M Gf) (by simp [Act.eval]) (flatF_len _ _ _) NZ.out (NS.out _ (by first | exact Below.refl _ _ | exact (Below.refl _ _).drew)) N1.out (by unfold maxLen; omega) (by omega) (by first | omega | (show w.heap.size + 2 ≤ wa.heap.size; omega)) ?_; intro p7 c7 w7 hown hgr hat; have O5 := ((ST.out.out.stay ((Below.refl _ _).drew)).grown hgr (fun e => by have := (HOF.out.lt _ e.symm).1; omega)); have o2 := O5.c 2 _ rfl; have v2 := O5.f 2; have vl := O5.lt; have HO7 := Lib.hid hown; have HG7 := Lib.hid hgr; have HT7 := Lib.hid hat; clear hown hgr hat O5)
        all_goals
          go_wp2_with fail
          go_meet
          exact ⟨by trivial, nF + M, p7, c7, Lib.hid ((ST.out.later ((Below.refl _ _).drew) hS).fields hS ⟨_, HO7.out, HCF.out.app (by rw [HNF.out]; exact HOF.out.1) FK5.out, by rw [List.length_append, HNF.out, HM.out]⟩ HG7.out HT7.out)⟩
      case rest =>
        obtain ⟨_, nF', pF', cF', S5⟩ := hcut
        obtain ⟨_, _, Gb, eb, rb⟩ := HYV.out.bs.rowOf
        rw [List.length_map] at eb
        cases eb
        have RBs := Lib.hid rb
        have HY3 : Hid (∀ W, Below w.heap.size w W → W.cell? ⟨b, off + k * 4 + 3, none⟩ = some (.slice qb y.bs.length kb)) := Lib.hid fun W hW => (cell_across ST.out.low hW hb' y3)
        have HRB : Hid (∀ W, Below w.heap.size w W → RowA S W .blocks qb kb Gb (y.bs.map Bk.lf)) := Lib.hid fun W hW => RBs.out.kept (fun _ h => h) (fun b o hb v hv => cell_across ST.out.low hW (hS b hb) hv)
        obtain ⟨MB, hMB⟩ : ∃ M, y.bs.length = M := ⟨_, rfl⟩
        have HMB := Lib.hid hMB
        rw [hMB] at HY3 yb
        have R1 := (FLn.out (k + 1)).2
        obtain ⟨R, hR⟩ : ∃ R, (flatL (L.drop (k + 1))).bs = R := ⟨_, rfl⟩
        rw [hR] at S5 R1
        have HR := Lib.hid hR
        obtain ⟨fs', hfs⟩ : ∃ R, (flatL (L.drop (k + 1))).fs ++ y.fs = R := ⟨_, rfl⟩
        rw [hfs] at S5
        have HFS := Lib.hid hfs
        have NL : Hid (∀ m, (addAll R (y.bs.take m)).length ≤ 700) := Lib.hid fun m => by
          have := addAll_len (ns := y.bs.take m) (bs := R)
          have h2 : (y.bs.take m).length ≤ y.bs.length := by rw [List.length_take]; omega
          omega
        clear hR hfs hMB rb RBs y2 y3 g2 u2 ul HOF HCF HNF hnF2 hsz HF NS NZ N1 FK5 HM ys ST
        go_wp2
        go_loopw [5] (fun i wr => ∃ (m nB' : Nat) (pB' : Option Addr) (cB' : Nat), m ≤ MB ∧ i = .int .i64 m ∧ Hid (FlR S w x.nm fs' (addAll R (y.bs.take m)) nF' nB' pF' cF' pB' cB' wr)) (fun i _ => MB - (intOf i).toNat)
        case atStart => exact ⟨0, nB, pB, cB, Nat.zero_le _, rfl, S5⟩
        case round =>
          obtain ⟨m, nB', pB', cB', hm, rfl, S6⟩ := hrel
          have hlow := S6.out.low
          have y3 := HY3.out wr hlow
          have hsz := S6.out.sz
          by_cases hlt2 : m < MB
          · obtain ⟨z, hz⟩ : ∃ z, y.bs[m]? = some z := ⟨_, List.getElem?_eq_getElem (by rw [HMB.out]; exact hlt2)⟩
            obtain ⟨b3, off3, pi, ci, rfl, hb3, z0, z1, hzs, hzat⟩ := (HRB.out wr hlow).bk hz
            have AS := Lib.hid (addAll_step (R := R) hz)
            have NLm := NL.out m
            have hnB : (addAll R (y.bs.take m)).length = nB' := S6.out.brow.choose_spec.2.2
            generalize hbl : addAll R (y.bs.take m) = bl at *
            have HBL := Lib.hid hbl
            have hba := ba wr (.cells #[.string z.nm, .slice pi z.it.length ci] 54)
            have FN := Blk.new wr [.string z.nm, .slice pi z.it.length ci] 54
            have d0 := FN.c 0 _ rfl
            have d1 := FN.c 1 _ rfl
            have S7 := Lib.hid (S6.out.later hba hS)
            have o3 := S7.out.out.c 3 _ rfl
            have v3 := S7.out.out.f 3
            have vl := S7.out.out.lt
            obtain ⟨G7, r7⟩ := S7.out.brow.rowA (by omega)
            have VC : Hid (Calls Tryz.prog 46 #[.slice pB' nB' cB', .string z.nm] (wr.alloc (.cells #[.string z.nm, .slice pi z.it.length ci] 54)) fun e w' => e = .returned (.int .i64 (idxI (plc bl z.nm))) ∧ (wr.alloc (.cells #[.string z.nm, .slice pi z.it.length ci] 54)) = w') := Lib.hid (by
              have := block_any bl z.nm pB' cB' G7 (wr.heap.size + 1) (wr.alloc (.cells #[.string z.nm, .slice pi z.it.length ci] 54)) (r7.kept (fun g hg => by rcases hg with hg | hg; exact Nat.lt_of_lt_of_le (hS g hg) (by omega); have := hg.2; simpa using this) (fun _ _ _ _ hv => hv))
              rw [hnB] at this
              exact this)
            have HAT := Lib.hid hzat
            have hsz7 := S7.out.sz
            clear hz hbl hb3 r7 hzat FN hlow
            cases hp : plc bl z.nm with
            | none =>
              have hix : idxI (none : Option Nat) = -1 := rfl
              rw [hp, hix] at VC
              have EA := Lib.hid (addB_none hp)
              clear hp hix
              obtain ⟨xs7, ho7, hc7, _⟩ := S7.out.brow
              have HO7 := Lib.hid (ho7.alloc (.cells #[.string z.nm, .slice pi z.it.length ci] 54))
              have HC7 := Lib.hid hc7
              have HXL := Lib.hid ho7.1
              clear ho7 hc7
              have hnB7 : nB' ≤ 700 := by omega
              go_wp2_with (first
                | (go_at_call 46; ((with_reducible refine VC.out.mono ?_); rintro e w5 ⟨rfl, rfl⟩))
                | (at_builtin; go_loud (refine wpList_append_lies _ rfl _ _ 23 rfl (w.heap.size + 2) 54 j0 (.agg #[.string ⟨#[]⟩, .slice none 0 0]) 2 40 Tryz.underlying23 gi gz0 gz1 gz2 rfl (by decide) _ nB' xs7 rfl HO7.out ⟨wr.heap.size + 1, 0, none⟩ 1 1 [.string z.nm, .slice pi z.it.length ci] rfl rfl (cells_at (by simp) [.string z.nm, .slice pi z.it.length ci] _) (by intro u hu; simp only [List.mem_cons, List.not_mem_nil, or_false] at hu; rcases hu with rfl | rfl <;> rfl) (by omega) (by unfold maxLen; omega) (by omega) (by simp; omega) _ rfl ?_); go_loud (intro g7 k7 w3 hown' hgrow hat7 _; have O3 := ((S7.out.out.alloc (.cells #[.string z.nm, .slice pi z.it.length ci] 54)).grown hgrow (fun e => by have := (HO7.out.lt _ e.symm).1; omega)); have q3 := O3.c 3 _ rfl; have r3 := O3.f 3; have rl := O3.lt; have HO3 := Lib.hid hown'; have HG3 := Lib.hid hgrow; have HT3 := Lib.hid hat7; clear hown' hgrow hat7 O3)))
              go_roundw
              case rel =>
                have hba2 := ba (wr.alloc (.cells #[.string z.nm, .slice pi z.it.length ci] 54)) (.cells #[.string z.nm, .slice pi z.it.length ci] 54)
                have S8 := S7.out.later hba2 hS
                have hs8 : w.heap.size ≤ ((wr.alloc (.cells #[.string z.nm, .slice pi z.it.length ci] 54)).alloc (.cells #[.string z.nm, .slice pi z.it.length ci] 54)).heap.size := by simp; omega
                have hs9 : w.heap.size ≤ wr.heap.size := by omega
                have hgB := fun g e => (HO7.out.lt g e).1
                have hbr9 : SRow S (w.heap.size + 2) w3 (.slice (some ⟨g7, 0, none⟩) (nB' + 1) k7) (nB' + 1) (bl ++ [z]) := SRow.snoc (v := .slice pB' nB' cB') (HC7.out.grown (grown_below hba2 none) (fun b hb => ⟨by have := hS b hb; simp; omega, fun e => by cases e⟩)) HXL.out hnB hzs ((HAT.out.keepS (grown_below (ba wr (.cells #[.string z.nm, .slice pi z.it.length ci] 54)) none) (fun b hb => ⟨by have := hS b hb; omega, fun e => by cases e⟩)).keepS (grown_below hba2 none) (fun b hb => ⟨by have := hS b hb; simp; omega, fun e => by cases e⟩)) HO3.out HG3.out (fun b hb => ⟨by have := hS b hb; omega, fun e => by have := hgB b e; have := hS b hb; omega⟩)
                exact ⟨m + 1, nB' + 1, some ⟨g7, 0, none⟩, k7, by omega, by go_num, Lib.hid (by
                  rw [AS.out, EA.out]
                  exact S8.blocks hS hbr9 HG3.out (by
                    rcases HT3.out with h | h
                    · exact .inl h.symm
                    · right; rw [h]; rfl))⟩
              case measure => simp [intOf]; omega
            | some i =>
              have hix : idxI (some i : Option Nat) = (i : Int) := rfl
              rw [hp, hix] at VC
              have EA := Lib.hid (addB_some hp)
              have hil : i < nB' := by have := plc_lt hp; omega
              clear hp hix
              obtain ⟨xs7, ho7, hc7, _⟩ := S7.out.brow
              obtain ⟨g, rfl, hgB, hgl, hcl⟩ := own_cells ho7 (by omega)
              have k0 := hcl (i * 2) (by omega)
              have k1 := hcl (i * 2 + 1) (by omega)
              rw [Nat.zero_add] at k0 k1
              obtain ⟨hol, ⟨hh, _⟩ | ⟨g', cap', cur, hh, hBB, hgg, hrest⟩⟩ := ho7
              · cases hh
              cases hh
              have f0 : (wr.alloc (.cells #[.string z.nm, .slice pi z.it.length ci] 54)).frozen? ⟨g, i * 2, none⟩ = false := by simp only [World.frozen?, hgg]; simp
              have f1 : (wr.alloc (.cells #[.string z.nm, .slice pi z.it.length ci] 54)).frozen? ⟨g, i * 2 + 1, none⟩ = false := by simp only [World.frozen?, hgg]; simp
              clear hc7 hcl hgg hrest hol
              go_wp2_with (go_at_call 46; ((with_reducible refine VC.out.mono ?_); rintro e w5 ⟨rfl, rfl⟩))
              go_roundw
              case rel => exact ⟨m + 1, nB', some ⟨g, 0, none⟩, _, by omega, by go_num, Lib.hid (by
                  rw [AS.out, EA.out]
                  exact S7.out.put hS hil hgB hzs (HAT.out.keepS (grown_below (ba wr _) none) (fun b hb => ⟨by have := hS b hb; omega, fun e => by cases e⟩)))⟩
              case measure => simp [intOf]; omega
          · have hmM : m = MB := by omega
            have E1 : Hid (addAll R (y.bs.take m) = (flatL (L.drop k)).bs) := Lib.hid (by rw [hmM, ← HMB.out, List.take_length, DS.out, ← HR.out]; rfl)
            have E2 : Hid (fs' = (flatL (L.drop k)).fs) := Lib.hid (by rw [← HFS.out, DS.out]; rfl)
            have S9 : Hid (FlR S w x.nm (flatL (L.drop k)).fs (flatL (L.drop k)).bs nF' nB' pF' cF' pB' cB' wr) := Lib.hid (by rw [← E1.out, ← E2.out]; exact S6.out)
            clear E1 E2 S6
            go_wp2
            go_roundw
            case rel => exact ⟨k, nF', nB', pF', cF', pB', cB', by omega, rfl, S9⟩
            case measure => simp [intOf]
    · have hj0 : j = 0 := by omega
      have S9 : Hid (FlR S w x.nm (flatL L).fs (flatL L).bs nF nB pF cF pB cB wa) := Lib.hid (by have := ST.out; rw [hj0] at this; exact this)
      have F0 := FLn.out 0
      rw [List.drop_zero] at F0
      have EN : Hid ((flatL L).nm = x.nm) := Lib.hid (by rw [← HLL.out]; rfl)
      obtain ⟨hnF, hnB, hcv⟩ := S9.out.cv (by omega) (by rw [EN.out]; exact HSX.out) (by rw [flat_par]; decide)
      have HNF := Lib.hid hnF
      have HNB := Lib.hid hnB
      have HCV := Lib.hid hcv
      have ej : (j : Int) - 1 = -1 := by omega
      rw [ej]
      have o0 := S9.out.out.c 0 _ rfl
      have o1 := S9.out.out.c 1 _ rfl
      have o2 := S9.out.out.c 2 _ rfl
      have o3 := S9.out.out.c 3 _ rfl
      have r0 := S9.out.res.c 0 _ rfl
      have r1 := S9.out.res.c 1 _ rfl
      have r2 := S9.out.res.c 2 _ rfl
      have r3 := S9.out.res.c 3 _ rfl
      have f0 := S9.out.res.f 0
      have f1 := S9.out.res.f 1
      have f2 := S9.out.res.f 2
      have f3 := S9.out.res.f 3
      have rl := S9.out.res.lt
      clear hj0 ej F0 hnF hnB hcv ST
      go_wp2
      have P := four_set S9.out.res rfl (.string x.nm) (.string ⟨#[]⟩) (.slice pF nF cF) (.slice pB nB cB)
      have p0 := P.c 0 _ rfl
      have p1 := P.c 1 _ rfl
      have p2 := P.c 2 _ rfl
      have p3 := P.c 3 _ rfl
      have HCV7 := HCV.out.fourNe (g := w.heap.size) (fun b h => by have := S9.out.sz; rcases h with h | h; have := hS b h; omega; omega) (.string x.nm) (.string ⟨#[]⟩) (.slice pF nF cF) (.slice pB nB cB)
      have HB7 := S9.out.low.grown (four_grown wa w.heap.size (.string x.nm) (.string ⟨#[]⟩) (.slice pF nF cF) (.slice pB nB cB)) S9.out.low.size (fun k e => by cases e; exact Nat.le_refl _)
      refine bodyPost_ret (v := cv x.nm ⟨#[]⟩ (.slice pF nF cF) (.slice pB nB cB)) (by simp [results, Tryz.results52, go_sem, p0, p1, p2, p3]) rfl ?_
      refine ⟨pF, cF, pB, cB, by rw [EN.out, flat_par, HNF.out, HNB.out]; rfl, HCV7.kept (fun b h => by simp only [setCell_size]; exact h) (fun _ _ _ _ hv => hv), HB7⟩
end Go.Proofs.YtoigjeoncdfdmaaGreatDoor.ClW
