/-
  What cloneBlock and cloneClass return.
-/
import Derived.Test.YtoigjeoncdfdmaaGreatDoorClCloneI
namespace Go.Proofs.YtoigjeoncdfdmaaGreatDoor.ClW
open Go Go.RowKit Go.Proofs.YtoigjeoncdfdmaaGreatDoor.NumM Go.Proofs.YtoigjeoncdfdmaaGreatDoor.LexW Go.Proofs.YtoigjeoncdfdmaaGreatDoor.LexM Go.Proofs.YtoigjeoncdfdmaaGreatDoor.ClM
open Go.«Sort»

set_option maxRecDepth 100000 in
set_option maxHeartbeats 16000000 in
theorem cloneBlock_any (s : ByteArray) (k : List (List Lf)) (pa : Option Addr) (ca N : Nat) (w : World) (hat : At (Lo N) w (.r .items) (.slice pa k.length ca) (.row .items k)) (hN : N ≤ w.heap.size) :
    Calls Tryz.prog 68 #[bv s (.slice pa k.length ca)] w (tBk s k w) := by
  have HB0 : Hid (Below w.heap.size w ((w.alloc (.cells #[.string s, .slice pa k.length ca] 54)).alloc (.cells #[.string ⟨#[]⟩, .slice none 0 0] 54))) := Lib.hid (((Below.refl _ _).alloc (Nat.le_refl _) _).alloc (by simp) _)
  have H0 := Lib.hid ((Blk.new w [.string s, .slice pa k.length ca] 54).alloc (.cells #[.string ⟨#[]⟩, .slice none 0 0] 54))
  have fz := Blk.new (w.alloc (.cells #[.string s, .slice pa k.length ca] 54)) [.string ⟨#[]⟩, .slice none 0 0] 54
  rw [World.size_alloc] at fz
  have Z0 := Lib.hid fz
  obtain ⟨W0, hW0⟩ : ∃ W0, ((w.alloc (.cells #[.string s, .slice pa k.length ca] 54)).alloc (.cells #[.string ⟨#[]⟩, .slice none 0 0] 54)) = W0 := ⟨_, rfl⟩
  rw [hW0] at HB0 H0 Z0
  have hs0 : W0.heap.size = w.heap.size + 2 := by rw [← hW0]; simp
  have HS0 := Lib.hid hs0
  have HC : Hid (∀ W, Below w.heap.size w W → Calls Tryz.prog 84 #[.slice pa k.length ca, .func (.func 85) #[] #[]] W (tRow .items k W)) := Lib.hid fun W hW => cloneI_row _ k rfl N W pa ca (hat.under (hW.mono hN)) (by have := hW.size; omega)
  clear hat
  have H0' := H0.out
  have c0 := H0'.c 0 _ rfl
  have fr0 := H0'.f 0
  have c1 := H0'.c 1 _ rfl
  have fr1 := H0'.f 1
  clear fz H0' hs0
  go_enter Tryz.func68, Tryz.ntmps68
  go_upto_region 1 with (fail)
  try rw [hW0]
  clear hW0
  have hlt0 := H0.out.lt
  have hlt1 := Z0.out.lt
  go_wp2_with (first
    | (go_at_call 84; ((with_reducible refine (HC.out _ HB0.out).mono ?_); rintro e W1 ⟨p1, k1, rfl, at1, hb1⟩; have H1 : Hid (Blk W1 w.heap.size [.string s, .slice pa k.length ca]) := Lib.hid (H0.out.stay hb1); have Z1 : Hid (Blk W1 (w.heap.size + 1) [.string ⟨#[]⟩, .slice none 0 0]) := Lib.hid (Z0.out.stay hb1); have HB1 : Hid (Below w.heap.size w W1) := Lib.hid (HB0.out.trans (hb1.mono (HB0.out).size)); have U1 : Hid (Up (w.heap.size + 2) W0 W1) := Lib.hid ((Up.refl (w.heap.size + 2) W0).below hb1); have AT1 := Lib.hid at1; (try clear c0 fr0); (try clear c1 fr1); have hb_1 := hb1.size; have hlt2 := H1.out.lt; have hlz1 := Z1.out.lt; have c0 := H1.out.c 0 _ rfl; have fr0 := H1.out.f 0; have c1 := H1.out.c 1 _ rfl; have fr1 := H1.out.f 1; have z0 := Z1.out.c 0 _ rfl; have zf0 := Z1.out.f 0; have z1 := Z1.out.c 1 _ rfl; have zf1 := Z1.out.f 1; clear hb1 at1)))
  have PZ := (((Z1.out.far (b := w.heap.size) (o := 1) (v := .slice p1 k.length k1) (by omega)).set 0 (.string s) (by simp)).set 1 (.slice p1 k.length k1) (by simp))
  have pp0 := PZ.c 0 _ rfl
  have pp1 := PZ.c 1 _ rfl
  have UF1 := ((((Up.refl (w.heap.size + 2) W1).set (g := w.heap.size) (o := 1) (by omega) (.slice p1 k.length k1)).set (g := w.heap.size + 1) (o := 0) (by omega) (.string s)).set (g := w.heap.size + 1) (o := 1) (by omega) (.slice p1 k.length k1))
  have BF := (((HB1.out.setCell (p := ⟨w.heap.size, 1, none⟩) (Nat.le_refl _) (.slice p1 k.length k1)).setCell (p := ⟨w.heap.size + 1, 0, none⟩) (by simp) (.string s)).setCell (p := ⟨w.heap.size + 1, 1, none⟩) (by simp) (.slice p1 k.length k1))
  refine bodyPost_ret (v := .agg #[.string s, .slice p1 k.length k1]) (by simp [results, Tryz.results68, go_sem, pp0, pp1]) rfl ?_
  have s1 := HB1.out.size
  have hz := HS0.out
  have su1 := U1.out.size
  have T1 := AT1.out.up (lo := w.heap.size + 2) (by first | omega | (simp only [setCell_size]; omega)) UF1
  exact ⟨p1, k1, rfl, T1.low (by omega), BF⟩

def tRowM (n : Nat) (kd : Kd) (l : List (List Lf)) (w : World) (e : Ending) (w' : World) : Prop :=
  ∃ p' cap', e = .returned (.slice p' n cap') ∧ At (Hi w.heap.size w') w' (.r kd) (.slice p' n cap') (.row kd l) ∧ Below w.heap.size w w'
theorem tRow_M {n : Nat} {kd : Kd} {l : List (List Lf)} {w w' : World} {e : Ending} (h : tRow kd l w e w') (hn : l.length = n) : tRowM n kd l w e w' := by subst hn; exact h
theorem cloneBs_any (l : List Bk) (p : Option Addr) (cap N : Nat) (w : World) (ha : At (Lo N) w (.r .blocks) (.slice p l.length cap) (.row .blocks (l.map Bk.lf))) (hN : N ≤ w.heap.size) :
    Calls Tryz.prog 67 #[.slice p l.length cap, .func (.func 68) #[] #[]] w (tRowM l.length .blocks (l.map Bk.lf) w) := by
  obtain ⟨_, _, G, e1, ra⟩ := ha.rowOf
  rw [List.length_map] at e1
  cases e1
  have := eachBlocks (l.map Bk.lf) p cap G N w ra hN (fun x hx s k pa ca W ex hW hat => cloneBlock_any s k pa ca N W hat (by have := hW.size; omega))
  rw [List.length_map] at this
  exact this.mono fun _ _ h => tRow_M h (List.length_map _)
theorem cloneFs_any (l : List Fld) (p : Option Addr) (cap N : Nat) (w : World) (ha : At (Lo N) w (.r .fields) (.slice p l.length cap) (.row .fields (l.map Fld.lf))) (hN : N ≤ w.heap.size) :
    Calls Tryz.prog 66 #[.slice p l.length cap] w (tRowM l.length .fields (l.map Fld.lf) w) := by
  have := cloneFields_any (l.map Fld.lf) p cap N w (by rw [List.length_map]; exact ha) hN
  rw [List.length_map] at this
  exact this.mono fun _ _ h => tRow_M h (List.length_map _)

set_option maxRecDepth 100000 in
set_option maxHeartbeats 16000000 in
theorem cloneClass_any (c : Cl) (pf : Option Addr) (cf : Nat) (pb : Option Addr) (cb N : Nat) (w : World) (hv : CV (Lo N) w pf cf pb cb c) (hN : N ≤ w.heap.size) :
    Calls Tryz.prog 48 #[cv c.nm c.par (.slice pf c.fs.length cf) (.slice pb c.bs.length cb)] w (tCl c w) := by
  have HB0 : Hid (Below w.heap.size w ((w.alloc (.cells #[.string c.nm, .string c.par, .slice pf c.fs.length cf, .slice pb c.bs.length cb] 25)).alloc (.cells #[.string ⟨#[]⟩, .string ⟨#[]⟩, .slice none 0 0, .slice none 0 0] 25))) := Lib.hid (((Below.refl _ _).alloc (Nat.le_refl _) _).alloc (by simp) _)
  have H0 := Lib.hid ((Blk.new w [.string c.nm, .string c.par, .slice pf c.fs.length cf, .slice pb c.bs.length cb] 25).alloc (.cells #[.string ⟨#[]⟩, .string ⟨#[]⟩, .slice none 0 0, .slice none 0 0] 25))
  have fz := Blk.new (w.alloc (.cells #[.string c.nm, .string c.par, .slice pf c.fs.length cf, .slice pb c.bs.length cb] 25)) [.string ⟨#[]⟩, .string ⟨#[]⟩, .slice none 0 0, .slice none 0 0] 25
  rw [World.size_alloc] at fz
  have Z0 := Lib.hid fz
  obtain ⟨W0, hW0⟩ : ∃ W0, ((w.alloc (.cells #[.string c.nm, .string c.par, .slice pf c.fs.length cf, .slice pb c.bs.length cb] 25)).alloc (.cells #[.string ⟨#[]⟩, .string ⟨#[]⟩, .slice none 0 0, .slice none 0 0] 25)) = W0 := ⟨_, rfl⟩
  rw [hW0] at HB0 H0 Z0
  have hs0 : W0.heap.size = w.heap.size + 2 := by rw [← hW0]; simp
  have HS0 := Lib.hid hs0
  have CF : Hid (∀ W, Below w.heap.size w W → Calls Tryz.prog 66 #[.slice pf c.fs.length cf] W (tRowM c.fs.length .fields (c.fs.map Fld.lf) W)) := Lib.hid fun W hW => cloneFs_any c.fs pf cf N W (hv.fs.under (hW.mono hN)) (by have := hW.size; omega)
  have CB : Hid (∀ W, Below w.heap.size w W → Calls Tryz.prog 67 #[.slice pb c.bs.length cb, .func (.func 68) #[] #[]] W (tRowM c.bs.length .blocks (c.bs.map Bk.lf) W)) := Lib.hid fun W hW => cloneBs_any c.bs pb cb N W (hv.bs.under (hW.mono hN)) (by have := hW.size; omega)
  have HV := Lib.hid hv
  clear hv
  have H0' := H0.out
  have c0 := H0'.c 0 _ rfl
  have fr0 := H0'.f 0
  have c1 := H0'.c 1 _ rfl
  have fr1 := H0'.f 1
  have c2 := H0'.c 2 _ rfl
  have fr2 := H0'.f 2
  have c3 := H0'.c 3 _ rfl
  have fr3 := H0'.f 3
  clear fz H0' hs0
  go_enter Tryz.func48, Tryz.ntmps48
  go_upto_region 1 with (fail)
  try rw [hW0]
  clear hW0
  have hlt0 := H0.out.lt
  have hlt1 := Z0.out.lt
  go_wp2_with (first
    | (go_at_call 66; ((with_reducible refine (CF.out _ HB0.out).mono ?_); rintro e W1 ⟨p2, k2, rfl, at1, hb1⟩; have H1 : Hid (Blk W1 w.heap.size [.string c.nm, .string c.par, .slice pf c.fs.length cf, .slice pb c.bs.length cb]) := Lib.hid (H0.out.stay hb1); have Z1 : Hid (Blk W1 (w.heap.size + 1) [.string ⟨#[]⟩, .string ⟨#[]⟩, .slice none 0 0, .slice none 0 0]) := Lib.hid (Z0.out.stay hb1); have HB1 : Hid (Below w.heap.size w W1) := Lib.hid (HB0.out.trans (hb1.mono (HB0.out).size)); have U1 : Hid (Up (w.heap.size + 2) W0 W1) := Lib.hid ((Up.refl (w.heap.size + 2) W0).below hb1); have AT1 := Lib.hid at1; (try clear c0 fr0); (try clear c1 fr1); (try clear c2 fr2); (try clear c3 fr3); have hb_1 := hb1.size; have hlt2 := H1.out.lt; have hlz1 := Z1.out.lt; have c2 := H1.out.c 2 _ rfl; have fr2 := H1.out.f 2; have c3 := H1.out.c 3 _ rfl; have fr3 := H1.out.f 3; clear hb1 at1))
    | (go_at_call 67; ((with_reducible refine (CB.out _ (HB1.out.setCell (p := ⟨w.heap.size, 2, none⟩) (Nat.le_refl _) (.slice p2 c.fs.length k2))).mono ?_); rintro e W2 ⟨p3, k3, rfl, at2, hb2⟩; have H2 : Hid (Blk W2 w.heap.size [.string c.nm, .string c.par, .slice p2 c.fs.length k2, .slice pb c.bs.length cb]) := Lib.hid ((H1.out.set 2 (.slice p2 c.fs.length k2) (by simp)).stay hb2); have Z2 : Hid (Blk W2 (w.heap.size + 1) [.string ⟨#[]⟩, .string ⟨#[]⟩, .slice none 0 0, .slice none 0 0]) := Lib.hid ((Z1.out.far (b := w.heap.size) (o := 2) (v := .slice p2 c.fs.length k2) (by omega)).stay hb2); have HB2 : Hid (Below w.heap.size w W2) := Lib.hid ((HB1.out.setCell (p := ⟨w.heap.size, 2, none⟩) (Nat.le_refl _) (.slice p2 c.fs.length k2)).trans (hb2.mono ((HB1.out.setCell (p := ⟨w.heap.size, 2, none⟩) (Nat.le_refl _) (.slice p2 c.fs.length k2))).size)); have U2 : Hid (Up (w.heap.size + 2) W1 W2) := Lib.hid (((Up.refl (w.heap.size + 2) W1).set (g := w.heap.size) (o := 2) (by omega) (.slice p2 c.fs.length k2)).below hb2); have AT2 := Lib.hid at2; (try clear c0 fr0); (try clear c1 fr1); (try clear c2 fr2); (try clear c3 fr3); have hb_2 := hb2.size; have hlt3 := H2.out.lt; have hlz2 := Z2.out.lt; have c0 := H2.out.c 0 _ rfl; have fr0 := H2.out.f 0; have c1 := H2.out.c 1 _ rfl; have fr1 := H2.out.f 1; have c2 := H2.out.c 2 _ rfl; have fr2 := H2.out.f 2; have c3 := H2.out.c 3 _ rfl; have fr3 := H2.out.f 3; have z0 := Z2.out.c 0 _ rfl; have zf0 := Z2.out.f 0; have z1 := Z2.out.c 1 _ rfl; have zf1 := Z2.out.f 1; have z2 := Z2.out.c 2 _ rfl; have zf2 := Z2.out.f 2; have z3 := Z2.out.c 3 _ rfl; have zf3 := Z2.out.f 3; clear hb2 at2)))
  have PZ := (((((Z2.out.far (b := w.heap.size) (o := 3) (v := .slice p3 c.bs.length k3) (by omega)).set 0 (.string c.nm) (by simp)).set 1 (.string c.par) (by simp)).set 2 (.slice p2 c.fs.length k2) (by simp)).set 3 (.slice p3 c.bs.length k3) (by simp))
  have pp0 := PZ.c 0 _ rfl
  have pp1 := PZ.c 1 _ rfl
  have pp2 := PZ.c 2 _ rfl
  have pp3 := PZ.c 3 _ rfl
  have UF2 := ((((((Up.refl (w.heap.size + 2) W2).set (g := w.heap.size) (o := 3) (by omega) (.slice p3 c.bs.length k3)).set (g := w.heap.size + 1) (o := 0) (by omega) (.string c.nm)).set (g := w.heap.size + 1) (o := 1) (by omega) (.string c.par)).set (g := w.heap.size + 1) (o := 2) (by omega) (.slice p2 c.fs.length k2)).set (g := w.heap.size + 1) (o := 3) (by omega) (.slice p3 c.bs.length k3))
  have UF1 := U2.out.trans UF2
  have BF := (((((HB2.out.setCell (p := ⟨w.heap.size, 3, none⟩) (Nat.le_refl _) (.slice p3 c.bs.length k3)).setCell (p := ⟨w.heap.size + 1, 0, none⟩) (by simp) (.string c.nm)).setCell (p := ⟨w.heap.size + 1, 1, none⟩) (by simp) (.string c.par)).setCell (p := ⟨w.heap.size + 1, 2, none⟩) (by simp) (.slice p2 c.fs.length k2)).setCell (p := ⟨w.heap.size + 1, 3, none⟩) (by simp) (.slice p3 c.bs.length k3))
  refine bodyPost_ret (v := .agg #[.string c.nm, .string c.par, .slice p2 c.fs.length k2, .slice p3 c.bs.length k3]) (by simp [results, Tryz.results48, go_sem, pp0, pp1, pp2, pp3]) rfl ?_
  have s1 := HB1.out.size
  have s2 := HB2.out.size
  have hz := HS0.out
  have su1 := U1.out.size
  have su2 := U2.out.size
  have T1 := AT1.out.up (lo := w.heap.size + 2) (by first | omega | (simp only [setCell_size]; omega)) UF1
  have T2 := AT2.out.up (lo := w.heap.size + 2) (by first | omega | (simp only [setCell_size]; omega)) UF2
  exact ⟨p2, k2, p3, k3, rfl, ⟨HV.out.nm, HV.out.par, T1.low (by omega), T2.low (by omega)⟩, BF⟩
end Go.Proofs.YtoigjeoncdfdmaaGreatDoor.ClW
