/-
  What class of flattened returns.
-/
import Derived.Test.YtoigjeoncdfdmaaGreatDoorClConcat
import Derived.Deep.RegionLaw
import Derived.Deep.RegionWith
import Derived.Deep.RegionHeld3
namespace Go.Proofs.YtoigjeoncdfdmaaGreatDoor.ClW
open Go Go.RowKit Go.Proofs.YtoigjeoncdfdmaaGreatDoor.NumM Go.Proofs.YtoigjeoncdfdmaaGreatDoor.LexW Go.Proofs.YtoigjeoncdfdmaaGreatDoor.LexM Go.Proofs.YtoigjeoncdfdmaaGreatDoor.ClM
open Go.«Sort»

theorem Blk.drew {w : World} {g : Nat} {xs : List Value} (h : Blk w g xs) : Blk w.drew g xs := h.stay (Below.refl _ _).drew
theorem BRow.ofClone {N B : Nat} {w w' : World} {v : Value} {bs : List Bk} {p : Option Addr} {cap : Nat} {F : Nat → Nat → Value} (ha : RowA (Lo N) w .blocks p cap F (bs.map Bk.lf)) (ho : w'.ownsRow B 54 2 v bs.length (flatF 2 bs.length F)) (hb : Below N w w') : BRow N B w' v bs := by
  refine ⟨_, ho, ⟨fun i b hi => ?_⟩⟩
  have hil := (List.getElem?_eq_some_iff.1 hi).1
  have hx : (bs.map Bk.lf)[i]? = some b.lf := by rw [List.getElem?_map, hi]; rfl
  obtain ⟨e0, s0⟩ := (ha.hx i _ 0 _ .s hx rfl rfl).sOf
  have a1 := ha.hx i _ 1 _ (.r .items) hx rfl rfl
  obtain ⟨pi, ci, _, e1, _⟩ := a1.rowOf
  rw [e1] at a1
  refine ⟨pi, ci, ?_, ?_, s0, a1.under hb⟩
  · have := flatF_get (F := F) (k := 2) hil (show 0 < 2 by omega)
    rw [e0] at this
    exact this
  · rw [flatF_get hil (by omega), e1]
/-- The cells of the struct of two classes. -/
abbrev fc (a b : Cl) (p1 p2 p3 p4 : Option Addr) (c1 c2 c3 c4 : Nat) : List Value := [.string a.nm, .string a.par, .slice p1 a.fs.length c1, .slice p2 a.bs.length c2, .string b.nm, .string b.par, .slice p3 b.fs.length c3, .slice p4 b.bs.length c4]
/-- What stands behind the first statement of class. -/
def MetC (N : Nat) (W0 : World) (nm : ByteArray) (n1 : Nat) (fs : List Fld) (bs : List Bk) (s3 : Value) (wx : World) : Prop :=
  ∃ g v2 p q A A', s3 = .pointer (some ⟨g, 0, none⟩) ∧ Blk wx g [.string nm, .string ⟨#[]⟩, .slice p n1 q, v2] ∧ At (fun x => A ≤ x ∧ x < A') wx (.r .fields) (.slice p n1 q) (.row .fields (fs.map Fld.lf)) ∧ BRow N A' wx v2 bs ∧ Below W0.heap.size W0 wx ∧ W0.heap.size ≤ A ∧ A ≤ A' ∧ A' ≤ wx.heap.size ∧ W0.heap.size ≤ g ∧ (g < A ∨ A' ≤ g) ∧ v2.ownBlock ≠ some g
theorem BRow.low {N B B' : Nat} {w : World} {v : Value} {bs : List Bk} (h : BRow N B w v bs) (hb : B' ≤ B) : BRow N B' w v bs := by
  obtain ⟨xs, ho, hc⟩ := h
  exact ⟨xs, own_low ho hb, hc⟩
theorem class_meetN {N : Nat} {W0 w5 w6 : World} {A B2 n1 : Nat} {nm : ByteArray} {fs : List Fld} {bs : List Bk} {p5 : Option Addr} {q5 : Nat} {v2 : Value} {t : TypeId} (hat : At (Hi A w5) w5 (.r .fields) (.slice p5 n1 q5) (.row .fields (fs.map Fld.lf))) (hA : A ≤ w5.heap.size) (hW : W0.heap.size ≤ A) (hr : BRow N B2 w6 v2 bs) (hB : w5.heap.size ≤ B2)
    (C6 : Below w5.heap.size w5 w6) (B6 : Below W0.heap.size W0 w6) (hN : N ≤ W0.heap.size) : MetC N W0 nm n1 fs bs (.pointer (some ⟨w6.heap.size, 0, none⟩)) (w6.alloc (.cells #[.string nm, .string ⟨#[]⟩, .slice p5 n1 q5, v2] t)) := by
  have hb := ba w6 (.cells #[.string nm, .string ⟨#[]⟩, .slice p5 n1 q5, v2] t)
  have h6 := C6.size
  refine ⟨w6.heap.size, v2, p5, q5, A, w5.heap.size, rfl, Blk.new w6 [.string nm, .string ⟨#[]⟩, .slice p5 n1 q5, v2] t, ?_, (hr.low hB).later hb (by have := B6.size; omega), B6.then_ hb, hW, hA, by simp; omega, B6.size, .inr h6, fun e => ?_⟩
  · exact hat.kept (fun _ h => h) (fun b o h v hv => (hb.cell (p := ⟨b, o, none⟩) (Nat.lt_of_lt_of_le h.2 h6)).trans ((C6.cell (p := ⟨b, o, none⟩) h.2).trans hv))
  · obtain ⟨xs, ho, _⟩ := hr
    have := (ho.lt _ e).2
    omega
theorem class_meetS {N : Nat} {W0 w5 w6 : World} {A B2 n1 g : Nat} {nm : ByteArray} {fs : List Fld} {bs : List Bk} {p5 : Option Addr} {q5 : Nat} {v2 : Value} {zs : List Value} (hat : At (Hi A w5) w5 (.r .fields) (.slice p5 n1 q5) (.row .fields (fs.map Fld.lf))) (hA : A ≤ w5.heap.size) (hW : W0.heap.size ≤ A) (hr : BRow N B2 w6 v2 bs) (hB : w5.heap.size ≤ B2)
    (C6 : Below w5.heap.size w5 w6) (B6 : Below W0.heap.size W0 w6) (hN : N ≤ W0.heap.size) (Fc : Blk w6 g zs) (hz : zs.length = 4) (hg : W0.heap.size ≤ g) (hgA : g < A ∨ w5.heap.size ≤ g) (hgB : g < B2) :
    MetC N W0 nm n1 fs bs (.pointer (some ⟨g, 0, none⟩)) ((((w6.setCell ⟨g, 0, none⟩ (.string nm)).setCell ⟨g, 1, none⟩ (.string ⟨#[]⟩)).setCell ⟨g, 2, none⟩ (.slice p5 n1 q5)).setCell ⟨g, 3, none⟩ v2) := by
  have h6 := C6.size
  have hv : v2.ownBlock ≠ some g := fun e => by
    obtain ⟨xs, ho, _⟩ := hr
    have := (ho.lt _ e).1
    omega
  have hn6 : N ≤ w6.heap.size := by have := B6.size; omega
  obtain ⟨a, b, c, d, rfl⟩ : ∃ a b c d, zs = [a, b, c, d] := by
    match zs, hz with
    | [a, b, c, d], _ => exact ⟨a, b, c, d, rfl⟩
  refine ⟨g, v2, p5, q5, A, w5.heap.size, rfl, (((Fc.set 0 _ (by simp)).set 1 _ (by simp)).set 2 _ (by simp)).set 3 _ (by simp), ?_, ?_, (((B6.setCell (p := ⟨g, 0, none⟩) hg _).setCell (p := ⟨g, 1, none⟩) hg _).setCell (p := ⟨g, 2, none⟩) hg _).setCell (p := ⟨g, 3, none⟩) hg _, hW, hA, by simp only [setCell_size]; exact h6, hg, hgA, hv⟩
  · refine hat.kept (fun _ h => h) (fun b o h v hv => ?_)
    have hne : b ≠ g := by rcases hgA with q | q <;> omega
    have e1 := (C6.cell (p := ⟨b, o, none⟩) h.2).trans hv
    have far : ∀ (W : World) (i : Nat) (u : Value), (W.setCell ⟨g, i, none⟩ u).cell? ⟨b, o, none⟩ = W.cell? ⟨b, o, none⟩ := fun W i u => World.cell?_setCell_other _ _ _ _ (fun e => hne (congrArg Addr.block e).symm)
    rw [far, far, far, far]
    exact e1
  · have hNg : N ≤ g := by omega
    have s0 := (hr.low hB).far hn6 (g := g) (i := 0) (.string nm) hNg hv
    have s1 := s0.far (by rw [setCell_size]; exact hn6) (g := g) (i := 1) (.string ⟨#[]⟩) hNg hv
    have s2 := s1.far (by rw [setCell_size, setCell_size]; exact hn6) (g := g) (i := 2) (.slice p5 n1 q5) hNg hv
    exact s2.far (by rw [setCell_size, setCell_size, setCell_size]; exact hn6) (g := g) (i := 3) v2 hNg hv
/-- A class is returned. -/
def tCls (c : Cl) (w : World) (e : Ending) (w' : World) : Prop :=
  ∃ pf cf pb cb, e = .returned (cv c.nm c.par (.slice pf c.fs.length cf) (.slice pb c.bs.length cb)) ∧ CV (Lo w'.heap.size) w' pf cf pb cb c ∧ Below w.heap.size w w'
/-- What is held between two rounds of class. -/
structure Rnd (N : Nat) (W0 : World) (nm : ByteArray) (n1 : Nat) (fs : List Fld) (bs : List Bk) (g : Nat) (p : Option Addr) (q A A' : Nat) (pv : Option Addr) (cvv : Nat) (wr : World) : Prop where
  cls : Blk wr g [.string nm, .string ⟨#[]⟩, .slice p n1 q, .slice pv bs.length cvv]
  fs : At (fun x => A ≤ x ∧ x < A') wr (.r .fields) (.slice p n1 q) (.row .fields (fs.map Fld.lf))
  row : BRow N A' wr (.slice pv bs.length cvv) bs
  low : Below W0.heap.size W0 wr
  a0 : W0.heap.size ≤ A
  a1 : A ≤ A'
  a2 : A' ≤ wr.heap.size
  g0 : W0.heap.size ≤ g
  g1 : g < A ∨ A' ≤ g
  g2 : (Value.slice pv bs.length cvv).ownBlock ≠ some g
theorem MetC.rnd {N : Nat} {W0 : World} {nm : ByteArray} {n1 : Nat} {fs : List Fld} {bs : List Bk} {s3 : Value} {wx : World} (h : MetC N W0 nm n1 fs bs s3 wx) : ∃ g p q A A' pv c, s3 = .pointer (some ⟨g, 0, none⟩) ∧ Rnd N W0 nm n1 fs bs g p q A A' pv c wx := by
  obtain ⟨g, v2, p, q, A, A', rfl, h1, h2, h3, h4, h5, h6, h7, h8, h9, h10⟩ := h
  obtain ⟨pv, c, rfl⟩ := own_len h3.choose_spec.1
  exact ⟨g, p, q, A, A', pv, c, rfl, h1, h2, h3, h4, h5, h6, h7, h8, h9, h10⟩
theorem Rnd.step {N : Nat} {W0 : World} {nm : ByteArray} {n1 : Nat} {fs : List Fld} {bs bs' : List Bk} {g : Nat} {p : Option Addr} {q A A' : Nat} {pv : Option Addr} {c : Nat} {wr w1 w2 : World} {pv' : Option Addr} {c' : Nat} (h : Rnd N W0 nm n1 fs bs g p q A A' pv c wr) (h1 : Below wr.heap.size wr w1) (hN : N ≤ W0.heap.size)
    (hr : BRow N A' w2 (.slice pv' bs'.length c') bs') (hg : w1.grownBy w2 (Value.slice pv bs.length c).ownBlock) (hv : (Value.slice pv' bs'.length c').ownBlock ≠ some g) : Rnd N W0 nm n1 fs bs' g p q A A' pv' c' (w2.setCell ⟨g, 3, none⟩ (.slice pv' bs'.length c')) := by
  have hA' : ∀ k, (Value.slice pv bs.length c).ownBlock = some k → A' ≤ k := fun k e => (h.row.choose_spec.1.lt k e).1
  have hB2 : Below W0.heap.size W0 w2 := (h.low.then_ h1).grown hg (Nat.le_trans h.low.size h1.size) (fun k e => by have := hA' k e; have := h.a0; have := h.a1; omega)
  have hs1 := h1.size
  have hs2 := hg.size
  have a0 := h.a0
  have a1 := h.a1
  have a2 := h.a2
  have g0 := h.g0
  have gl := h.cls.lt
  refine ⟨((h.cls.stay h1).grown hg (fun e => h.g2 e.symm)).set 3 _ (by simp), h.fs.kept (fun _ h => h) (fun b o hb v hv => ?_), hr.far (by omega) _ (by omega) hv, hB2.setCell (p := ⟨g, 3, none⟩) g0 _, a0, a1, by rw [setCell_size]; omega, g0, h.g1, hv⟩
  have hne : b ≠ g := by rcases h.g1 with x | x <;> omega
  rw [World.cell?_setCell_other _ _ _ _ (fun e => hne (congrArg Addr.block e).symm)]
  refine (World.cell?_of_block (w := w1) (a := ⟨b, o, none⟩) (hg.block b (by omega) (fun e => by have := hA' b e.symm; omega))).trans ?_
  exact (h1.cell (p := ⟨b, o, none⟩) (show b < wr.heap.size by omega)).trans hv
theorem BRow.ofClone2 {N M B : Nat} {w w' : World} {v : Value} {bs : List Bk} {p : Option Addr} {cap : Nat} {F : Nat → Nat → Value} (ha : RowA (Lo M) w .blocks p cap F (bs.map Bk.lf)) (hi2 : ∀ i b, bs[i]? = some b → At (Lo N) w (.r .items) (F i 1) (.row .items b.it)) (ho : w'.ownsRow B 54 2 v bs.length (flatF 2 bs.length F)) (hb : Below N w w') : BRow N B w' v bs := by
  refine ⟨_, ho, ⟨fun i b hi => ?_⟩⟩
  have hil := (List.getElem?_eq_some_iff.1 hi).1
  have hx : (bs.map Bk.lf)[i]? = some b.lf := by rw [List.getElem?_map, hi]; rfl
  obtain ⟨e0, s0⟩ := (ha.hx i _ 0 _ .s hx rfl rfl).sOf
  have a1 := hi2 i b hi
  obtain ⟨pi, ci, _, e1, _⟩ := a1.rowOf
  rw [e1] at a1
  refine ⟨pi, ci, ?_, ?_, s0, a1.under hb⟩
  · have := flatF_get (F := F) (k := 2) hil (show 0 < 2 by omega)
    rw [e0] at this
    exact this
  · rw [flatF_get hil (by omega), e1]
/-- A flat class is returned, its lists the call's own. -/
def tFlat (N : Nat) (c : Cl) (w : World) (e : Ending) (w' : World) : Prop :=
  ∃ pf cf pb cb, e = .returned (cv c.nm c.par (.slice pf c.fs.length cf) (.slice pb c.bs.length cb)) ∧ At (Hi w.heap.size w') w' (.r .fields) (.slice pf c.fs.length cf) (.row .fields (c.fs.map Fld.lf)) ∧ BRow N w.heap.size w' (.slice pb c.bs.length cb) c.bs ∧ Below w.heap.size w w'
set_option maxRecDepth 100000 in
set_option maxHeartbeats 16000000 in
theorem class_any (a b : Cl) (p1 p2 p3 p4 : Option Addr) (c1 c2 c3 c4 : Nat) (N : Nat) (G2 : Nat → Nat → Value) (w : World) (hNw : N ≤ w.heap.size) (haf : At (Lo w.heap.size) w (.r .fields) (.slice p1 a.fs.length c1) (.row .fields (a.fs.map Fld.lf))) (r2 : RowA (Lo w.heap.size) w .blocks p2 c2 G2 (a.bs.map Bk.lf)) (hi2 : ∀ i y, a.bs[i]? = some y → At (Lo N) w (.r .items) (G2 i 1) (.row .items y.it)) (hb : CV (Lo N) w p3 c3 p4 c4 b) (hl1 : a.fs.length + b.fs.length ≤ 10000) (hl2 : a.bs.length + b.bs.length ≤ 1000) :
    Calls Tryz.prog 77 #[.agg (fc a b p1 p2 p3 p4 c1 c2 c3 c4).toArray] w (tFlat N (stepC a b) w) := by
  obtain ⟨W0, hW0⟩ : ∃ W0, ((w.alloc (.cells (fc a b p1 p2 p3 p4 c1 c2 c3 c4).toArray 103)).alloc (.cells #[.string ⟨#[]⟩, .string ⟨#[]⟩, .slice none 0 0, .slice none 0 0] 25)) = W0 := ⟨_, rfl⟩
  have hz0 : W0.heap.size = w.heap.size + 2 := by rw [← hW0]; simp
  have HB0 : Below w.heap.size w W0 := by rw [← hW0]; exact ((Below.refl _ _).alloc (Nat.le_refl _) _).alloc (by simp) _
  have F0 : Blk W0 w.heap.size (fc a b p1 p2 p3 p4 c1 c2 c3 c4) := by rw [← hW0]; exact (Blk.new w _ _).alloc _
  have Z0 : Blk W0 (w.heap.size + 1) [.string ⟨#[]⟩, .string ⟨#[]⟩, .slice none 0 0, .slice none 0 0] := by rw [← hW0]; exact Blk.at_ (by simp) _ _
  have CC : Hid (∀ W g, Below W0.heap.size W0 W → Blk W g [.slice p1 a.fs.length c1, .slice p3 b.fs.length c3] → Calls Tryz.prog 90 #[.slice (some ⟨g, 0, none⟩) 2 2] W (tRowM (a.fs.length + b.fs.length) .fields ((a.fs ++ b.fs).map Fld.lf) W)) := Lib.hid fun W g hW hg =>
    concat_any a.fs b.fs p1 c1 p3 c3 g w.heap.size W hg ((haf.under HB0).under (hW.mono (by omega))) (((hb.fs.wide hNw).under HB0).under (hW.mono (by omega))) (by have := hW.size; omega) (by omega)
  have KC : Hid (∀ W, Below W0.heap.size W0 W → Calls Tryz.prog 83 #[.slice p2 a.bs.length c2] W fun e w' => ∃ p' c', e = .returned (.slice p' a.bs.length c') ∧ BRow N W.heap.size w' (.slice p' a.bs.length c') a.bs ∧ Below W.heap.size W w') := Lib.hid fun W hW => by
    have := scloneO (a.bs.map Bk.lf) p2 c2 G2 w.heap.size W ((r2.under HB0).under (hW.mono (by omega))) (by have := hW.size; omega)
    rw [List.length_map] at this
    exact this.mono fun e w' ⟨v, e1, ho, hb'⟩ => by
      obtain ⟨p', c', rfl⟩ := own_len ho
      exact ⟨p', c', e1, BRow.ofClone2 ((r2.under HB0).under (hW.mono (by omega))) (fun i y hy => ((hi2 i y hy).under (HB0.mono hNw)).under (hW.mono (by omega))) ho (hb'.mono (by have := hW.size; omega)), hb'⟩
  have H0 := Lib.hid F0
  have HZ := Lib.hid Z0
  have HB := Lib.hid HB0
  have HM : Hid (w.heap.size ≤ W0.heap.size) := Lib.hid (by omega)
  have HNw := Lib.hid hNw
  have HBv := Lib.hid hb
  have k0 := F0.c 0 _ rfl
  have k1 := F0.c 1 _ rfl
  have k2 := F0.c 2 _ rfl
  have k3 := F0.c 3 _ rfl
  have k4 := F0.c 4 _ rfl
  have k5 := F0.c 5 _ rfl
  have k6 := F0.c 6 _ rfl
  have k7 := F0.c 7 _ rfl
  have hlt := F0.lt
  have HZ0 := Lib.hid hz0
  clear F0 Z0 HB0 haf hi2 hb r2 hz0 hNw
  simp only [fc]
  go_enter Tryz.func77, Tryz.ntmps77
  go_upto_region 1 with (fail)
  try rw [hW0]
  clear hW0
  have HN : Hid (N ≤ W0.heap.size) := Lib.hid (by have := HZ0.out; have := HNw.out; omega)
  go_cut [3] (fun s3 wx => MetC N W0 b.nm (a.fs.length + b.fs.length) (a.fs ++ b.fs) a.bs s3 wx)
  case first =>
    have KK : Hid (∀ W, Below W0.heap.size W0 W → W.cell? ⟨w.heap.size, 4, none⟩ = some (.string b.nm) ∧ W.cell? ⟨w.heap.size, 2, none⟩ = some (.slice p1 a.fs.length c1) ∧ W.cell? ⟨w.heap.size, 6, none⟩ = some (.slice p3 b.fs.length c3) ∧ W.cell? ⟨w.heap.size, 3, none⟩ = some (.slice p2 a.bs.length c2)) := Lib.hid fun W hW => ⟨(H0.out.stay hW).c 4 _ rfl, (H0.out.stay hW).c 2 _ rfl, (H0.out.stay hW).c 6 _ rfl, (H0.out.stay hW).c 3 _ rfl⟩
    go_region_held3 (fun W => W.cell? ⟨w.heap.size, 4, none⟩ = some (.string b.nm) ∧ W.cell? ⟨w.heap.size, 2, none⟩ = some (.slice p1 a.fs.length c1) ∧ W.cell? ⟨w.heap.size, 6, none⟩ = some (.slice p3 b.fs.length c3) ∧ W.cell? ⟨w.heap.size, 3, none⟩ = some (.slice p2 a.bs.length c2)) (first | with_reducible exact KK.out _ (Below.refl _ _) | with_reducible exact KK.out _ ((Below.refl _ _).drew) | with_reducible exact KK.out _ ((Below.refl _ _).alloc (Nat.le_refl _) _) | with_reducible exact KK.out _ (((Below.refl _ _).alloc (Nat.le_refl _) _).drew) | with_reducible exact KK.out _ (((Below.refl _ _).alloc (Nat.le_refl _) _).alloc (by simp) _) | with_reducible exact KK.out _ ((((Below.refl _ _).alloc (Nat.le_refl _) _).alloc (by simp) _).drew) | with_reducible exact KK.out _ (B5) | with_reducible exact KK.out _ (B5.drew) | with_reducible exact KK.out _ (B5.alloc B5.size _) | with_reducible exact KK.out _ ((B5.alloc B5.size _).drew) | with_reducible exact KK.out _ (B6) | with_reducible exact KK.out _ (B6.drew) | with_reducible exact KK.out _ (B6.alloc B6.size _) | with_reducible exact KK.out _ ((B6.alloc B6.size _).drew) | exact KK.out _ ((((B6.setCell (p := ⟨w5.heap.size, 0, none⟩) l5s _).setCell (p := ⟨w5.heap.size, 1, none⟩) l5s _).setCell (p := ⟨w5.heap.size, 2, none⟩) l5s _).setCell (p := ⟨w5.heap.size, 3, none⟩) l5s _) | exact KK.out _ ((((B6.setCell (p := ⟨W0.heap.size + 1, 0, none⟩) (Nat.le_succ _) _).setCell (p := ⟨W0.heap.size + 1, 1, none⟩) (Nat.le_succ _) _).setCell (p := ⟨W0.heap.size + 1, 2, none⟩) (Nat.le_succ _) _).setCell (p := ⟨W0.heap.size + 1, 3, none⟩) (Nat.le_succ _) _) | exact KK.out _ ((((B6.setCell (p := ⟨W0.heap.size, 0, none⟩) (Nat.le_refl _) _).setCell (p := ⟨W0.heap.size, 1, none⟩) (Nat.le_refl _) _).setCell (p := ⟨W0.heap.size, 2, none⟩) (Nat.le_refl _) _).setCell (p := ⟨W0.heap.size, 3, none⟩) (Nat.le_refl _) _) | fail) (first
      | (go_at_call 90; (with_reducible refine (CC.out _ _ ?_ ?_).mono ?_); (first | with_reducible exact (Below.refl _ _) | with_reducible exact ((Below.refl _ _).drew) | with_reducible exact ((Below.refl _ _).alloc (Nat.le_refl _) _) | with_reducible exact (((Below.refl _ _).alloc (Nat.le_refl _) _).drew) | with_reducible exact (((Below.refl _ _).alloc (Nat.le_refl _) _).alloc (by simp) _) | with_reducible exact ((((Below.refl _ _).alloc (Nat.le_refl _) _).alloc (by simp) _).drew)); (first | exact Blk.new _ _ _ | exact (Blk.new _ _ _).drew | exact (Blk.new _ _ _).alloc _ | exact ((Blk.new _ _ _).alloc _).drew | exact Blk.at_ (by simp) _ _ | exact (Blk.at_ (by simp) _ _).drew); rintro e w5 ⟨p5, q5, rfl, hat5, hb5⟩; have B5 : Below W0.heap.size W0 w5 := (by first | with_reducible exact (Below.refl _ _).then_ hb5 | with_reducible exact ((Below.refl _ _).drew).then_ hb5 | with_reducible exact ((Below.refl _ _).alloc (Nat.le_refl _) _).then_ hb5 | with_reducible exact (((Below.refl _ _).alloc (Nat.le_refl _) _).drew).then_ hb5 | with_reducible exact (((Below.refl _ _).alloc (Nat.le_refl _) _).alloc (by simp) _).then_ hb5 | with_reducible exact ((((Below.refl _ _).alloc (Nat.le_refl _) _).alloc (by simp) _).drew).then_ hb5); have l5s := B5.size; (try (have Fc5 : Blk w5 W0.heap.size [.string ⟨#[]⟩, .string ⟨#[]⟩, .slice none 0 0, .slice none 0 0] := (((Blk.new W0 [.string ⟨#[]⟩, .string ⟨#[]⟩, .slice none 0 0, .slice none 0 0] 25).alloc _).drew).stay hb5; have z50 := Fc5.c 0 _ rfl; have y50 := Fc5.f 0; have z51 := Fc5.c 1 _ rfl; have y51 := Fc5.f 1; have z52 := Fc5.c 2 _ rfl; have y52 := Fc5.f 2; have z53 := Fc5.c 3 _ rfl; have y53 := Fc5.f 3; skip)); (try (have Fc5 : Blk w5 (W0.heap.size + 1) [.string ⟨#[]⟩, .string ⟨#[]⟩, .slice none 0 0, .slice none 0 0] := ((Blk.at_ (by simp) [.string ⟨#[]⟩, .string ⟨#[]⟩, .slice none 0 0, .slice none 0 0] 25).drew).stay hb5; have z50 := Fc5.c 0 _ rfl; have y50 := Fc5.f 0; have z51 := Fc5.c 1 _ rfl; have y51 := Fc5.f 1; have z52 := Fc5.c 2 _ rfl; have y52 := Fc5.f 2; have z53 := Fc5.c 3 _ rfl; have y53 := Fc5.f 3; skip)))
      | (go_at_call 83; (with_reducible refine (KC.out _ ?_).mono ?_); (first | with_reducible exact (B5) | with_reducible exact (B5.drew) | with_reducible exact (B5.alloc B5.size _) | with_reducible exact ((B5.alloc B5.size _).drew)); rintro e w6 ⟨v6, k6, rfl, hr6, hb6⟩; have B6 : Below W0.heap.size W0 w6 := (by first | with_reducible exact (B5).then_ hb6 | with_reducible exact (B5.drew).then_ hb6 | with_reducible exact (B5.alloc B5.size _).then_ hb6 | with_reducible exact ((B5.alloc B5.size _).drew).then_ hb6); (try (have Fc6 : Blk w6 _ [.string ⟨#[]⟩, .string ⟨#[]⟩, .slice none 0 0, .slice none 0 0] := Fc5.stay (by first | exact hb6 | exact (Below.refl _ _).drew.then_ hb6); have z60 := Fc6.c 0 _ rfl; have y60 := Fc6.f 0; have z61 := Fc6.c 1 _ rfl; have y61 := Fc6.f 1; have z62 := Fc6.c 2 _ rfl; have y62 := Fc6.f 2; have z63 := Fc6.c 3 _ rfl; have y63 := Fc6.f 3; skip)); (try (have Fc6 : Blk w6 w5.heap.size [.string ⟨#[]⟩, .string ⟨#[]⟩, .slice none 0 0, .slice none 0 0] := (by first | exact (Blk.new w5 [.string ⟨#[]⟩, .string ⟨#[]⟩, .slice none 0 0, .slice none 0 0] 25).stay hb6 | exact ((Blk.new w5 [.string ⟨#[]⟩, .string ⟨#[]⟩, .slice none 0 0, .slice none 0 0] 25).drew).stay hb6); have z60 := Fc6.c 0 _ rfl; have y60 := Fc6.f 0; have z61 := Fc6.c 1 _ rfl; have y61 := Fc6.f 1; have z62 := Fc6.c 2 _ rfl; have y62 := Fc6.f 2; have z63 := Fc6.c 3 _ rfl; have y63 := Fc6.f 3; skip))))
    all_goals
      go_wp2_with fail
      go_meet
      first
        | exact class_meetN hat5 hb5.size (by first | omega | (simp; done) | (simp; omega) | (have := hb5.size; simp at this; omega) | (have := hb5.size; simp at this ⊢; omega)) hr6 (by first | omega | (simp; done) | (simp; omega) | (have := hb5.size; simp at this; omega) | (have := hb5.size; simp at this ⊢; omega)) (by first | exact hb6 | exact ((Below.refl _ _).alloc (Nat.le_refl _) _).then_ hb6) B6 HN.out
        | exact class_meetS hat5 hb5.size (by first | omega | (simp; done) | (simp; omega) | (have := hb5.size; simp at this; omega) | (have := hb5.size; simp at this ⊢; omega)) hr6 (by first | omega | (simp; done) | (simp; omega) | (have := hb5.size; simp at this; omega) | (have := hb5.size; simp at this ⊢; omega)) (by first | exact hb6 | exact ((Below.refl _ _).alloc (Nat.le_refl _) _).then_ hb6) B6 HN.out Fc6 rfl (by first | omega | (simp; done) | (simp; omega) | (have := hb5.size; simp at this; omega) | (have := hb5.size; simp at this ⊢; omega)) (by first | omega | (simp; done) | (simp; omega) | (have := hb5.size; simp at this; omega) | (have := hb5.size; simp at this ⊢; omega)) (by first | omega | (simp; done) | (simp; omega) | (have := hb5.size; simp at this; omega) | (have := hb5.size; simp at this ⊢; omega))
  case rest =>
    obtain ⟨g, p, q, A, A', pv, c, rfl, hr⟩ := hcut.rnd
    have HR := Lib.hid hr
    obtain ⟨_, _, G4, e4, r4⟩ := HBv.out.bs.rowOf
    rw [List.length_map] at e4
    cases e4
    have R4 := Lib.hid r4
    have X0 := H0.out.stay hr.low
    have x7 := X0.c 7 _ rfl
    have hl4 : b.bs.length ≤ 1000 := by omega
    have NL : Hid (∀ j, (addAll a.bs (b.bs.take j)).length ≤ 1000) := Lib.hid fun j => by
      have := addAll_len (ns := b.bs.take j) (bs := a.bs)
      have h2 : (b.bs.take j).length ≤ b.bs.length := by rw [List.length_take]; omega
      omega
    have NT : Hid (∀ j y, b.bs[j]? = some y → addAll a.bs (b.bs.take (j + 1)) = addB (addAll a.bs (b.bs.take j)) y) := Lib.hid fun j y hy => by
      obtain ⟨hk, he⟩ := List.getElem?_eq_some_iff.1 hy
      unfold addAll
      rw [List.take_succ_eq_append_getElem hk, List.foldl_append, he]; rfl
    obtain ⟨K, hK⟩ : ∃ K, b.bs.length = K := ⟨_, rfl⟩
    have HK := Lib.hid hK
    rw [hK] at x7 hl4
    have HL2 := Lib.hid hl2
    clear hcut hr r4 X0 k0 k1 k2 k3 k4 k5 k6 k7 CC KC hK hl2
    go_wp2
    go_loopw [26] (fun i wr => ∃ (j : Nat) (pj : Option Addr) (cj : Nat), j ≤ K ∧ i = .int .i64 j ∧ Hid (Rnd N W0 b.nm (a.fs.length + b.fs.length) (a.fs ++ b.fs) (addAll a.bs (b.bs.take j)) g p q A A' pj cj wr)) (fun i _ => K - (intOf i).toNat)
    case atStart => exact ⟨0, pv, c, Nat.zero_le _, rfl, HR⟩
    case round =>
      obtain ⟨j, pj, cj, hj, rfl, RR⟩ := hrel
      clear x7
      have rl := RR.out.cls.lt
      have c3 := RR.out.cls.c 3 _ rfl
      have f3 := RR.out.cls.f 3
      have nl := NL.out j
      by_cases hlt2 : j < K
      · obtain ⟨y, hy⟩ : ∃ y, b.bs[j]? = some y := ⟨_, List.getElem?_eq_getElem (by rw [HK.out]; exact hlt2)⟩
        have hbw : Below w.heap.size w wr := HB.out.trans (RR.out.low.mono HM.out)
        obtain ⟨bb, off, pi, ci, rfl, hbb, y0, y1, hys, hat⟩ := (R4.out.under (hbw.mono HNw.out)).bk hy
        have NTy := Lib.hid (NT.out j y hy)
        have NLy := NL.out (j + 1)
        have FN := Blk.new wr [.string y.nm, .slice pi y.it.length ci] 54
        have d0 := FN.c 0 _ rfl
        have d1 := FN.c 1 _ rfl
        have HBA := Lib.hid (ba wr (.cells #[.string y.nm, .slice pi y.it.length ci] 54))
        have RC := Lib.hid (replaced_any (addAll a.bs (b.bs.take j)) y (.slice pj (addAll a.bs (b.bs.take j)).length cj) pi ci N A' (wr.alloc (.cells #[.string y.nm, .slice pi y.it.length ci] 54)) (RR.out.row.later HBA.out (by have := HN.out; have := RR.out.low.size; omega)) (by have := HN.out; have := RR.out.a0; have := RR.out.a1; omega) (by have := RR.out.a2; simp; omega) (by omega) hys (hat.under (HBA.out.mono (by have := HN.out; have := RR.out.low.size; omega))))
        rw [← NTy.out] at RC
        generalize hbl : addAll a.bs (b.bs.take j) = bl at *
        generalize hbl2 : addAll a.bs (b.bs.take (j + 1)) = bl2 at *
        have HBL2 := Lib.hid hbl2
        clear hy hbw hat FN NTy hbl hbl2
        go_wp2_with (go_at_call 91; ((with_reducible refine RC.out.mono ?_); rintro e w5 ⟨v5, rfl, hr5, hg5, hk5⟩; obtain ⟨p5, c5, rfl⟩ := own_len hr5.choose_spec.1; have HV5 : Hid ((Value.slice p5 bl2.length c5).ownBlock ≠ some g) := Lib.hid (fun e => by rcases hk5 g e with h | h; exact RR.out.g2 h; simp at h; omega); have HR5 := Lib.hid hr5; have HG5 := Lib.hid hg5; have F5 := ((RR.out.cls.stay HBA.out).grown hg5 (fun e => RR.out.g2 e.symm)); have e3 := F5.c 3 _ rfl; have ef := F5.f 3; have el := F5.lt; clear hr5 hg5 hk5 F5))
        go_roundw
        case rel => exact ⟨j + 1, p5, c5, by omega, by go_num, Lib.hid (by rw [HBL2.out]; exact RR.out.step HBA.out HN.out HR5.out HG5.out HV5.out)⟩
        case measure => simp [intOf]; omega
      · have hjK : j = K := by omega
        have RF : Hid (Rnd N W0 b.nm (a.fs.length + b.fs.length) (a.fs ++ b.fs) (addAll a.bs b.bs) g p q A A' pj cj wr) := Lib.hid (by
          have := RR.out
          rw [hjK, ← HK.out, List.take_length] at this
          exact this)
        clear RR
        have RZ := (HZ.out.stay RF.out.low)
        have z0 := RZ.c 0 _ rfl
        have z1 := RZ.c 1 _ rfl
        have z2 := RZ.c 2 _ rfl
        have z3 := RZ.c 3 _ rfl
        have zf0 := RZ.f 0
        have zf1 := RZ.f 1
        have zf2 := RZ.f 2
        have zf3 := RZ.f 3
        have zl := RZ.lt
        have c0 := RF.out.cls.c 0 _ rfl
        have c1' := RF.out.cls.c 1 _ rfl
        have c2' := RF.out.cls.c 2 _ rfl
        have c3' := RF.out.cls.c 3 _ rfl
        clear c3
        have B0 : Hid (Below w.heap.size w wr) := Lib.hid (HB.out.trans (RF.out.low.mono HM.out))
        have HL9 : Hid ((stepC a b).fs.length = a.fs.length + b.fs.length) := Lib.hid List.length_append
        have HZ1 := Lib.hid RZ
        have HR1 := RF
        clear RZ
        go_wp2
        have PZ := (((HZ1.out.set 0 (.string b.nm) (by simp)).set 1 (.string ⟨#[]⟩) (by simp)).set 2 (.slice p (a.fs.length + b.fs.length) q) (by simp)).set 3 (.slice pj (addAll a.bs b.bs).length cj) (by simp)
        have pz0 := PZ.c 0 _ rfl
        have pz1 := PZ.c 1 _ rfl
        have pz2 := PZ.c 2 _ rfl
        have pz3 := PZ.c 3 _ rfl
        refine bodyPost_ret (v := cv b.nm ⟨#[]⟩ (.slice p (a.fs.length + b.fs.length) q) (.slice pj (addAll a.bs b.bs).length cj)) (by simp [results, Tryz.results77, go_sem, pz0, pz1, pz2, pz3]) rfl ?_
        have hz := HZ0.out
        have BW : ∀ (i : Nat) (u : Value) (W : World), Below w.heap.size w W → Below w.heap.size w (W.setCell ⟨w.heap.size + 1, i, none⟩ u) := fun i u W h => h.setCell (p := ⟨w.heap.size + 1, i, none⟩) (by show w.heap.size ≤ w.heap.size + 1; omega) u
        have far : ∀ (W : World) (i k o : Nat) (u : Value), W0.heap.size ≤ k → (W.setCell ⟨w.heap.size + 1, i, none⟩ u).cell? ⟨k, o, none⟩ = W.cell? ⟨k, o, none⟩ := fun W i k o u hk => World.cell?_setCell_other _ _ _ _ (fun e => by have := congrArg Addr.block e; simp at this; omega)
        have BF := BW 3 (.slice pj (addAll a.bs b.bs).length cj) _ (BW 2 (.slice p (a.fs.length + b.fs.length) q) _ (BW 1 (.string ⟨#[]⟩) _ (BW 0 (.string b.nm) _ B0.out)))
        have r := RF.out
        have hn := HN.out
        have hsz := r.low.size
        have hng : N ≤ w.heap.size + 1 := by have := HNw.out; omega
        have hv : (Value.slice pj (addAll a.bs b.bs).length cj).ownBlock ≠ some (w.heap.size + 1) := fun e => by
          have := (r.row.choose_spec.1.lt _ e).1
          have := r.a0
          have := r.a1
          omega
        have r0 := r.row.far (by omega) (g := w.heap.size + 1) (i := 0) (.string b.nm) hng hv
        have r1 := r0.far (by rw [setCell_size]; omega) (g := w.heap.size + 1) (i := 1) (.string ⟨#[]⟩) hng hv
        have r2 := r1.far (by rw [setCell_size, setCell_size]; omega) (g := w.heap.size + 1) (i := 2) (.slice p (a.fs.length + b.fs.length) q) hng hv
        have r3 := r2.far (by rw [setCell_size, setCell_size, setCell_size]; omega) (g := w.heap.size + 1) (i := 3) (.slice pj (addAll a.bs b.bs).length cj) hng hv
        refine ⟨p, q, pj, cj, ?_, ?_, r3.low (by have := r.a0; have := r.a1; omega), BF⟩
        · rw [HL9.out]
          rfl
        · rw [HL9.out]
          have a0 := r.a0
          have a2 := r.a2
          exact r.fs.kept (fun x hx => ⟨by omega, by simp only [setCell_size]; omega⟩) (fun k o h1 v hv => by rw [far _ _ _ _ _ (by omega), far _ _ _ _ _ (by omega), far _ _ _ _ _ (by omega), far _ _ _ _ _ (by omega)]; exact hv)
end Go.Proofs.YtoigjeoncdfdmaaGreatDoor.ClW
