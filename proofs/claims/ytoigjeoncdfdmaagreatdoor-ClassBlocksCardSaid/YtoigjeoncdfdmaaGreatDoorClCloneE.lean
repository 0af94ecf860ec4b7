/-
  What cloneExpr, cloneItem, cloneBlock, cloneClass and Find return.
-/
import Derived.Test.YtoigjeoncdfdmaaGreatDoorClEach
import Derived.Test.YtoigjeoncdfdmaaGreatDoorClFirst
import Derived.Deep.DeepCutAuto
namespace Go.Proofs.YtoigjeoncdfdmaaGreatDoor.ClW
open Go Go.RowKit Go.Proofs.YtoigjeoncdfdmaaGreatDoor.NumM Go.Proofs.YtoigjeoncdfdmaaGreatDoor.LexW Go.Proofs.YtoigjeoncdfdmaaGreatDoor.LexM Go.Proofs.YtoigjeoncdfdmaaGreatDoor.ClM
open Go.«Sort»

/-- What was laid from lo on has stayed. -/
structure Up (lo : Nat) (a b : World) : Prop where
  size : a.heap.size ≤ b.heap.size
  blk : ∀ g, lo ≤ g → g < a.heap.size → b.heap[g]? = a.heap[g]?
theorem Up.refl (lo : Nat) (a : World) : Up lo a a := ⟨Nat.le_refl _, fun _ _ _ => rfl⟩
theorem Up.trans {lo : Nat} {a b c : World} (h : Up lo a b) (k : Up lo b c) : Up lo a c := ⟨Nat.le_trans h.size k.size, fun g h1 h2 => (k.blk g h1 (Nat.lt_of_lt_of_le h2 h.size)).trans (h.blk g h1 h2)⟩
theorem Up.below {lo : Nat} {a b c : World} (h : Up lo a b) (k : Below b.heap.size b c) : Up lo a c := h.trans ⟨k.size, fun g _ h2 => k.block g h2⟩
theorem Up.set {lo : Nat} {a b : World} (h : Up lo a b) {g o : Nat} (hg : g < lo) (v : Value) : Up lo a (b.setCell ⟨g, o, none⟩ v) :=
  h.trans ⟨by rw [setCell_size]; exact Nat.le_refl _, fun g' h1 h2 => Go.Deep.blk_setCell_other _ _ _ _ (by have e : (⟨g, o, none⟩ : Addr).block = g := rfl; omega)⟩
theorem At.up {lo lo' : Nat} {a b : World} {sh : Sh} {v : Value} {lf : Lf} (h : At (Hi lo' a) a sh v lf) (hl : lo ≤ lo') (hu : Up lo a b) : At (Hi lo b) b sh v lf :=
  h.kept (fun _ g => ⟨Nat.le_trans hl g.1, Nat.lt_of_lt_of_le g.2 hu.size⟩) (fun g o hg _ hv => (World.cell?_of_block (w := a) (a := ⟨g, o, none⟩) (hu.blk g (Nat.le_trans hl hg.1) hg.2)).trans hv)
def tCl (c : Cl) (w : World) (e : Ending) (w' : World) : Prop :=
  ∃ pf cf pb cb, e = .returned (cv c.nm c.par (.slice pf c.fs.length cf) (.slice pb c.bs.length cb)) ∧ CV (Hi w.heap.size w') w' pf cf pb cb c ∧ Below w.heap.size w w'

set_option maxRecDepth 100000 in
set_option maxHeartbeats 16000000 in
theorem cloneExpr_of (o n : Int) (s : ByteArray) (k : List (List Lf)) (pa : Option Addr) (ca : Nat) (w : World)
    (hc : ∀ W, Below w.heap.size w W → Calls Tryz.prog 114 #[.slice pa k.length ca, .func (.func 101) #[] #[]] W (tRow .exprs k W)) :
    Calls Tryz.prog 101 #[ev o n s (.slice pa k.length ca)] w (tEx o n s k w) := by
  have HB0 : Hid (Below w.heap.size w ((w.alloc (.cells #[.int .i64 o, .int .i64 n, .string s, .slice pa k.length ca] 82)).alloc (.cells #[.int .i64 0, .int .i64 0, .string ⟨#[]⟩, .slice none 0 0] 82))) := Lib.hid (((Below.refl _ _).alloc (Nat.le_refl _) _).alloc (by simp) _)
  have H0 := Lib.hid ((Blk.new w [.int .i64 o, .int .i64 n, .string s, .slice pa k.length ca] 82).alloc (.cells #[.int .i64 0, .int .i64 0, .string ⟨#[]⟩, .slice none 0 0] 82))
  have fz := Blk.new (w.alloc (.cells #[.int .i64 o, .int .i64 n, .string s, .slice pa k.length ca] 82)) [.int .i64 0, .int .i64 0, .string ⟨#[]⟩, .slice none 0 0] 82
  rw [World.size_alloc] at fz
  have Z0 := Lib.hid fz
  obtain ⟨W0, hW0⟩ : ∃ W0, ((w.alloc (.cells #[.int .i64 o, .int .i64 n, .string s, .slice pa k.length ca] 82)).alloc (.cells #[.int .i64 0, .int .i64 0, .string ⟨#[]⟩, .slice none 0 0] 82)) = W0 := ⟨_, rfl⟩
  rw [hW0] at HB0 H0 Z0
  have hs0 : W0.heap.size = w.heap.size + 2 := by rw [← hW0]; simp
  have HS0 := Lib.hid hs0
  have HC := Lib.hid hc
  clear hc
  have H0' := H0.out
  have c0 := H0'.c 0 _ rfl
  have fr0 := H0'.f 0
  have c1 := H0'.c 1 _ rfl
  have fr1 := H0'.f 1
  have c2 := H0'.c 2 _ rfl
  have fr2 := H0'.f 2
  have c3 := H0'.c 3 _ rfl
  have fr3 := H0'.f 3
  clear fz H0' hs0
  go_enter Tryz.func101, Tryz.ntmps101
  go_upto_region 1 with (fail)
  try rw [hW0]
  clear hW0
  have hlt0 := H0.out.lt
  have hlt1 := Z0.out.lt
  go_wp2_with (first
    | (go_at_call 114; ((with_reducible refine (HC.out _ HB0.out).mono ?_); rintro e W1 ⟨p3, k3, rfl, at1, hb1⟩; have H1 : Hid (Blk W1 w.heap.size [.int .i64 o, .int .i64 n, .string s, .slice pa k.length ca]) := Lib.hid (H0.out.stay hb1); have Z1 : Hid (Blk W1 (w.heap.size + 1) [.int .i64 0, .int .i64 0, .string ⟨#[]⟩, .slice none 0 0]) := Lib.hid (Z0.out.stay hb1); have HB1 : Hid (Below w.heap.size w W1) := Lib.hid (HB0.out.trans (hb1.mono (HB0.out).size)); have U1 : Hid (Up (w.heap.size + 2) W0 W1) := Lib.hid ((Up.refl (w.heap.size + 2) W0).below hb1); have AT1 := Lib.hid at1; (try clear c0 fr0); (try clear c1 fr1); (try clear c2 fr2); (try clear c3 fr3); have hb_1 := hb1.size; have hlt2 := H1.out.lt; have hlz1 := Z1.out.lt; have c0 := H1.out.c 0 _ rfl; have fr0 := H1.out.f 0; have c1 := H1.out.c 1 _ rfl; have fr1 := H1.out.f 1; have c2 := H1.out.c 2 _ rfl; have fr2 := H1.out.f 2; have c3 := H1.out.c 3 _ rfl; have fr3 := H1.out.f 3; have z0 := Z1.out.c 0 _ rfl; have zf0 := Z1.out.f 0; have z1 := Z1.out.c 1 _ rfl; have zf1 := Z1.out.f 1; have z2 := Z1.out.c 2 _ rfl; have zf2 := Z1.out.f 2; have z3 := Z1.out.c 3 _ rfl; have zf3 := Z1.out.f 3; clear hb1 at1)))
  have PZ := (((((Z1.out.far (b := w.heap.size) (o := 3) (v := .slice p3 k.length k3) (by omega)).set 0 (.int .i64 o) (by simp)).set 1 (.int .i64 n) (by simp)).set 2 (.string s) (by simp)).set 3 (.slice p3 k.length k3) (by simp))
  have pp0 := PZ.c 0 _ rfl
  have pp1 := PZ.c 1 _ rfl
  have pp2 := PZ.c 2 _ rfl
  have pp3 := PZ.c 3 _ rfl
  have UF1 := ((((((Up.refl (w.heap.size + 2) W1).set (g := w.heap.size) (o := 3) (by omega) (.slice p3 k.length k3)).set (g := w.heap.size + 1) (o := 0) (by omega) (.int .i64 o)).set (g := w.heap.size + 1) (o := 1) (by omega) (.int .i64 n)).set (g := w.heap.size + 1) (o := 2) (by omega) (.string s)).set (g := w.heap.size + 1) (o := 3) (by omega) (.slice p3 k.length k3))
  have BF := (((((HB1.out.setCell (p := ⟨w.heap.size, 3, none⟩) (Nat.le_refl _) (.slice p3 k.length k3)).setCell (p := ⟨w.heap.size + 1, 0, none⟩) (by simp) (.int .i64 o)).setCell (p := ⟨w.heap.size + 1, 1, none⟩) (by simp) (.int .i64 n)).setCell (p := ⟨w.heap.size + 1, 2, none⟩) (by simp) (.string s)).setCell (p := ⟨w.heap.size + 1, 3, none⟩) (by simp) (.slice p3 k.length k3))
  refine bodyPost_ret (v := .agg #[.int .i64 o, .int .i64 n, .string s, .slice p3 k.length k3]) (by simp [results, Tryz.results101, go_sem, pp0, pp1, pp2, pp3]) rfl ?_
  have s1 := HB1.out.size
  have hz := HS0.out
  have su1 := U1.out.size
  have T1 := AT1.out.up (lo := w.heap.size + 2) (by first | omega | (simp only [setCell_size]; omega)) UF1
  exact ⟨p3, k3, rfl, T1.low (by omega), BF⟩

set_option maxHeartbeats 4000000 in
theorem cloneE_row (lf : Lf) : ∀ (l : List (List Lf)), lf = .row .exprs l → ∀ (N : Nat) (w : World) (p : Option Addr) (cap : Nat), At (Lo N) w (.r .exprs) (.slice p l.length cap) (.row .exprs l) → N ≤ w.heap.size →
    Calls Tryz.prog 114 #[.slice p l.length cap, .func (.func 101) #[] #[]] w (tRow .exprs l w) := by
  induction lf using lf_ind with
  | hn i => intro l h; cases h
  | hs t => intro l h; cases h
  | hb v => intro l h; cases h
  | hr k l0 ih =>
    intro l h
    injection h with hk0 hl0
    subst hk0
    obtain rfl : l = l0 := hl0.symm
    intro N w p cap ha hN
    obtain ⟨_, _, G, e1, ra⟩ := ha.rowOf
    cases e1
    exact eachExprs l _ _ G N w ra hN (fun x hx o n s k pa ca W ex hW hat => cloneExpr_of o n s k pa ca W (fun W' hW' =>
      ih x hx (.row .exprs k) (by rw [ex]; simp) k rfl N W' pa ca (hat.under (hW'.mono (by have := hW.size; omega))) (by have := hW.size; have := hW'.size; omega)))
theorem cloneExpr_any (o n : Int) (s : ByteArray) (k : List (List Lf)) (pa : Option Addr) (ca N : Nat) (w : World) (hat : At (Lo N) w (.r .exprs) (.slice pa k.length ca) (.row .exprs k)) (hN : N ≤ w.heap.size) :
    Calls Tryz.prog 101 #[ev o n s (.slice pa k.length ca)] w (tEx o n s k w) :=
  cloneExpr_of o n s k pa ca w (fun W hW => cloneE_row _ k rfl N W pa ca (hat.under (hW.mono hN)) (by have := hW.size; omega))
end Go.Proofs.YtoigjeoncdfdmaaGreatDoor.ClW
