/-
  Laws that the card uses; no conditions beside those that each states (ExLexFour).
-/
import Derived.Test.YtpejflgdehioaaaGreatDoorNumShelf
import Derived.Lib.SmallJoins
import Derived.WalkSmall
import Derived.Test.YtpejflgdehioaaaGreatDoorT01
namespace Go.Proofs.YtpejflgdehioaaaGreatDoor.LexW
open Go Go.RowKit Go.Proofs.YtpejflgdehioaaaGreatDoor.NumM Go.Proofs.YtpejflgdehioaaaGreatDoor.LexM
structure Tab (w : World) : Prop where
  range : ∃ tp p, w.var? Tryz.prog "strconv.ErrRange" = some #[.iface tp p]
theorem gRange : Tryz.prog.globalNamed "strconv.ErrRange" = some 2 := by kernel_rfl
theorem var_later {n : String} {g : Nat} {cs : Array Value} {w w' : World} (hg : Tryz.prog.globalNamed n = some g) (h : w.var? Tryz.prog n = some cs) (hb : Below w.heap.size w w') : w'.var? Tryz.prog n = some cs := by
  by_cases hlt : g < w.heap.size
  · exact var?_below hb hg hlt h
  · unfold World.var? at h; simp only [hg, Option.bind_some] at h; rw [Array.getElem?_eq_none (by omega)] at h; cases h
theorem Tab.later {w w' : World} (h : Tab w) (hb : Below w.heap.size w w') : Tab w' :=
  ⟨by obtain ⟨tp, p, hr⟩ := h.range; exact ⟨tp, p, var_later gRange hr hb⟩⟩
theorem _root_.Go.RowKit.Below.then_ {a b c : World} (h1 : Below a.heap.size a b) (h2 : Below b.heap.size b c) : Below a.heap.size a c := h1.trans (h2.mono h1.size)
abbrev bs (l : List UInt8) : ByteArray := ⟨l.toArray⟩
theorem bs_data (s : ByteArray) : bs s.data.toList = s := rfl
theorem bs_inj {a b : ByteArray} (h : a.data.toList = b.data.toList) : a = b := by rw [← bs_data a, ← bs_data b, h]
theorem ext_data (s : ByteArray) (a e : Nat) : (s.extract a e).data.toList = (s.data.toList.drop a).take (e - a) := by
  simp [ByteArray.data_extract, Array.toList_extract]
abbrev tv (k n : Int) (x : ByteArray) (ln : Int) : Value := .agg #[.int .i64 k, .int .i64 n, .string x, .int .i64 ln]
def tvT (t : Tk) : Value := tv t.kind t.n (bs t.text) t.line
theorem alloc_cells (w : World) (xs : Array Value) (t : TypeId) (i : Nat) (v : Value) (h : xs[i]? = some v) : (w.alloc (.cells xs t)).cell? ⟨w.heap.size, i, none⟩ = some v ∧ (w.alloc (.cells xs t)).frozen? ⟨w.heap.size, i, none⟩ = false := by
  have hb : (w.alloc (.cells xs t)).heap[w.heap.size]? = some (.cells xs t) := heap_alloc_new _ _; constructor
  · simp only [World.cell?, hb]; simpa using h
  · simp only [World.frozen?, hb]; simp
theorem cell_set {w : World} {g o : Nat} {x y : Value} (h : w.cell? ⟨g, o, none⟩ = some y) : (w.setCell ⟨g, o, none⟩ x).cell? ⟨g, o, none⟩ = some x := by
  simp [World.cell?_setCell_same, h]
theorem setCell_size (w : World) (a : Addr) (v : Value) : (w.setCell a v).heap.size = w.heap.size := by simp [World.setCell]
structure Four (w : World) (g : Nat) (x0 x1 x2 x3 : Value) : Prop where
  lt : g < w.heap.size
  c0 : w.cell? ⟨g, 0, none⟩ = some x0
  c1 : w.cell? ⟨g, 1, none⟩ = some x1
  c2 : w.cell? ⟨g, 2, none⟩ = some x2
  c3 : w.cell? ⟨g, 3, none⟩ = some x3
  f0 : w.frozen? ⟨g, 0, none⟩ = false
  f1 : w.frozen? ⟨g, 1, none⟩ = false
  f2 : w.frozen? ⟨g, 2, none⟩ = false
  f3 : w.frozen? ⟨g, 3, none⟩ = false
section
variable {w W0 : World} {g : Nat} {x0 x1 x2 x3 : Value}
theorem Four.new (w : World) (x0 x1 x2 x3 : Value) (t : TypeId) : Four (w.alloc (.cells #[x0, x1, x2, x3] t)) w.heap.size x0 x1 x2 x3 :=
  ⟨by simp, (alloc_cells w #[x0, x1, x2, x3] t 0 x0 rfl).1, (alloc_cells w #[x0, x1, x2, x3] t 1 x1 rfl).1, (alloc_cells w #[x0, x1, x2, x3] t 2 x2 rfl).1, (alloc_cells w #[x0, x1, x2, x3] t 3 x3 rfl).1, (alloc_cells w #[x0, x1, x2, x3] t 0 x0 rfl).2, (alloc_cells w #[x0, x1, x2, x3] t 1 x1 rfl).2, (alloc_cells w #[x0, x1, x2, x3] t 2 x2 rfl).2, (alloc_cells w #[x0, x1, x2, x3] t 3 x3 rfl).2⟩
theorem Four.at_ (hg : w.heap.size = g) (x0 x1 x2 x3 : Value) (t : TypeId) : Four (w.alloc (.cells #[x0, x1, x2, x3] t)) g x0 x1 x2 x3 := by subst hg; exact Four.new w x0 x1 x2 x3 t
theorem Four.stay (h : Four W0 g x0 x1 x2 x3) (hb : Below W0.heap.size W0 w) : Four w g x0 x1 x2 x3 :=
  ⟨Nat.lt_of_lt_of_le h.lt hb.size, (hb.cell (p := ⟨g, 0, none⟩) h.lt).trans h.c0, (hb.cell (p := ⟨g, 1, none⟩) h.lt).trans h.c1, (hb.cell (p := ⟨g, 2, none⟩) h.lt).trans h.c2, (hb.cell (p := ⟨g, 3, none⟩) h.lt).trans h.c3,
   (hb.frozen (p := ⟨g, 0, none⟩) h.lt).trans h.f0, (hb.frozen (p := ⟨g, 1, none⟩) h.lt).trans h.f1, (hb.frozen (p := ⟨g, 2, none⟩) h.lt).trans h.f2, (hb.frozen (p := ⟨g, 3, none⟩) h.lt).trans h.f3⟩
theorem Four.alloc (h : Four w g x0 x1 x2 x3) (o : Obj) : Four (w.alloc o) g x0 x1 x2 x3 := h.stay ((Below.refl _ _).alloc (Nat.le_refl _) _)
theorem Four.drew (h : Four w g x0 x1 x2 x3) : Four w.drew g x0 x1 x2 x3 := h.stay (Below.refl _ _).drew
theorem Four.far {b o : Nat} {v : Value} (h : Four w g x0 x1 x2 x3) (hn : g ≠ b) : Four (w.setCell ⟨b, o, none⟩ v) g x0 x1 x2 x3 := by
  have c : ∀ i, (w.setCell ⟨b, o, none⟩ v).cell? ⟨g, i, none⟩ = w.cell? ⟨g, i, none⟩ := (fun i => World.cell?_setCell_other _ _ _ _ (fun e => hn (congrArg Addr.block e).symm)); exact ⟨by rw [setCell_size]; exact h.lt, by rw [c]; exact h.c0, by rw [c]; exact h.c1, by rw [c]; exact h.c2, by rw [c]; exact h.c3, by rw [World.frozen?_setCell]; exact h.f0, by rw [World.frozen?_setCell]; exact h.f1, by rw [World.frozen?_setCell]; exact h.f2, by rw [World.frozen?_setCell]; exact h.f3⟩
theorem other (w : World) {g i j : Nat} (v : Value) (hij : i ≠ j) : (w.setCell ⟨g, i, none⟩ v).cell? ⟨g, j, none⟩ = w.cell? ⟨g, j, none⟩ := World.cell?_setCell_other _ _ _ _ (fun e => hij (congrArg Addr.off e))
theorem Four.set3 (h : Four w g x0 x1 x2 x3) (v : Value) : Four (w.setCell ⟨g, 3, none⟩ v) g x0 x1 x2 v :=
  ⟨by rw [setCell_size]; exact h.lt, by rw [other _ _ (by decide)]; exact h.c0, by rw [other _ _ (by decide)]; exact h.c1, by rw [other _ _ (by decide)]; exact h.c2, cell_set h.c3, by rw [World.frozen?_setCell]; exact h.f0, by rw [World.frozen?_setCell]; exact h.f1, by rw [World.frozen?_setCell]; exact h.f2, by rw [World.frozen?_setCell]; exact h.f3⟩
theorem Four.put (h : Four w g x0 x1 x2 x3) (y0 y1 y2 y3 : Value) : Four ((((w.setCell ⟨g, 0, none⟩ y0).setCell ⟨g, 1, none⟩ y1).setCell ⟨g, 2, none⟩ y2).setCell ⟨g, 3, none⟩ y3) g y0 y1 y2 y3 := by
  have s0 : Four (w.setCell ⟨g, 0, none⟩ y0) g y0 x1 x2 x3 := ⟨by rw [setCell_size]; exact h.lt, cell_set h.c0, by rw [other _ _ (by decide)]; exact h.c1, by rw [other _ _ (by decide)]; exact h.c2, by rw [other _ _ (by decide)]; exact h.c3, by rw [World.frozen?_setCell]; exact h.f0, by rw [World.frozen?_setCell]; exact h.f1, by rw [World.frozen?_setCell]; exact h.f2, by rw [World.frozen?_setCell]; exact h.f3⟩; have s1 : Four ((w.setCell ⟨g, 0, none⟩ y0).setCell ⟨g, 1, none⟩ y1) g y0 y1 x2 x3 := ⟨by rw [setCell_size]; exact s0.lt, by rw [other _ _ (by decide)]; exact s0.c0, cell_set s0.c1, by rw [other _ _ (by decide)]; exact s0.c2, by rw [other _ _ (by decide)]; exact s0.c3, by rw [World.frozen?_setCell]; exact s0.f0, by rw [World.frozen?_setCell]; exact s0.f1, by rw [World.frozen?_setCell]; exact s0.f2, by rw [World.frozen?_setCell]; exact s0.f3⟩; have s2 : Four (((w.setCell ⟨g, 0, none⟩ y0).setCell ⟨g, 1, none⟩ y1).setCell ⟨g, 2, none⟩ y2) g y0 y1 y2 x3 := ⟨by rw [setCell_size]; exact s1.lt, by rw [other _ _ (by decide)]; exact s1.c0, by rw [other _ _ (by decide)]; exact s1.c1, cell_set s1.c2, by rw [other _ _ (by decide)]; exact s1.c3, by rw [World.frozen?_setCell]; exact s1.f0, by rw [World.frozen?_setCell]; exact s1.f1, by rw [World.frozen?_setCell]; exact s1.f2, by rw [World.frozen?_setCell]; exact s1.f3⟩; exact s2.set3 y3
theorem below_put (h : Below W0.heap.size W0 w) (hg : W0.heap.size ≤ g) (y0 y1 y2 y3 : Value) : Below W0.heap.size W0 ((((w.setCell ⟨g, 0, none⟩ y0).setCell ⟨g, 1, none⟩ y1).setCell ⟨g, 2, none⟩ y2).setCell ⟨g, 3, none⟩ y3) :=
  (((h.setCell hg _).setCell hg _).setCell hg _).setCell hg _
end
def tTok (w : World) (r : Tk × Int) (e : Ending) (w' : World) : Prop := e = .returned (.tuple #[tv r.1.kind r.1.n (bs r.1.text) 0, .int .i64 r.2]) ∧ Below w.heap.size w w'
theorem tTok_mk {w w' : World} {k n er : Int} {x : ByteArray} {r : Tk × Int} (h : r = (⟨k, n, x.data.toList, 0⟩, er)) (hb : Below w.heap.size w w') : tTok w r (.returned (.tuple #[tv k n x 0, .int .i64 er])) w' := by
  subst h; exact ⟨rfl, hb⟩
set_option maxRecDepth 100000 in
theorem word_any (s : ByteArray) (w : World) (hs : s.size ≤ 140737488351232) : Calls Tryz.prog 194 #[.string s] w (tTok w (nameT s.data.toList)) := by
  have hl := len_data s; by_cases h : 16 < s.size
  · have E : Hid (nameT s.data.toList = (⟨0, 0, (⟨#[]⟩ : ByteArray).data.toList, 0⟩, 2)) := Lib.hid (by rw [nameT, if_pos (by omega)]; rfl); clear hl
    go_enter Tryz.func194, Tryz.ntmps194
    go_wp2; refine bodyPost_ret (v := .tuple #[tv 0 0 ⟨#[]⟩ 0, .int .i64 2]) (by simp [results, Tryz.results194, go_sem]) rfl ?_; exact tTok_mk E.out ((Below.refl _ _).alloc (Nat.le_refl _) _)
  · have KW : ∀ W, Calls Tryz.prog 205 #[.string s] W fun e w' => e = .returned (.bool (isKw s.data.toList)) ∧ W = w' := fun W => isKeyword_any s W
    cases hk : isKw s.data.toList
    · have E : Hid (nameT s.data.toList = (⟨1, 0, s.data.toList, 0⟩, 0)) := Lib.hid (by rw [nameT, if_neg (by omega), hk]; rfl); rw [hk] at KW; have KW := Lib.hid KW; clear hl hk
      go_enter Tryz.func194, Tryz.ntmps194
      go_wp2_with (go_at_call 205; ((with_reducible refine (KW.out _).mono ?_); rintro e w' ⟨rfl, rfl⟩))
      refine bodyPost_ret (v := .tuple #[tv 1 0 s 0, .int .i64 0]) (by simp [results, Tryz.results194, go_sem]) rfl ?_; exact tTok_mk E.out ((Below.refl _ _).alloc (Nat.le_refl _) _)
    · have E : Hid (nameT s.data.toList = (⟨2, 0, s.data.toList, 0⟩, 0)) := Lib.hid (by rw [nameT, if_neg (by omega), hk]; rfl); rw [hk] at KW; have KW := Lib.hid KW; clear hl hk
      go_enter Tryz.func194, Tryz.ntmps194
      go_wp2_with (go_at_call 205; ((with_reducible refine (KW.out _).mono ?_); rintro e w' ⟨rfl, rfl⟩))
      refine bodyPost_ret (v := .tuple #[tv 2 0 s 0, .int .i64 0]) (by simp [results, Tryz.results194, go_sem]) rfl ?_; exact tTok_mk E.out ((Below.refl _ _).alloc (Nat.le_refl _) _)
end Go.Proofs.YtpejflgdehioaaaGreatDoor.LexW
