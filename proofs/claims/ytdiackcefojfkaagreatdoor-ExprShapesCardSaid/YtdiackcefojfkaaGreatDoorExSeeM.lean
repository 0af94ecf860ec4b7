/-
  What the reference's walk holds in memory: a struct of five cells, two lists of names in rows of their own, a box.
-/
import Derived.Test.YtdiackcefojfkaaGreatDoorExRefC
import Derived.Test.YtdiackcefojfkaaGreatDoorExNames
import Derived.Test.YtdiackcefojfkaaGreatDoorExStrs
import Derived.Deep.AppendLies
namespace Go.Proofs.YtdiackcefojfkaaGreatDoor.ExW
open Go Go.RowKit Go.Proofs.YtdiackcefojfkaaGreatDoor.NumM Go.Proofs.YtdiackcefojfkaaGreatDoor.LexW Go.Proofs.YtdiackcefojfkaaGreatDoor.LexM Go.Proofs.YtdiackcefojfkaaGreatDoor.ExM

/-- A struct of five cells. -/
def Five (W : World) (g : Nat) (x0 x1 x2 x3 x4 : Value) : Prop := W.heap[g]? = some (.cells #[x0, x1, x2, x3, x4] 58)
theorem grownBy_set (W : World) (b o : Nat) (v : Value) : W.grownBy (W.setCell ⟨b, o, none⟩ v) (some b) :=
  ⟨rfl, rfl, rfl, by rw [setCell_size]; exact Nat.le_refl _, fun k _ hb => heap_setCell_other _ _ _ _ (fun e => hb (by rw [e]))⟩
section
variable {W : World} {g : Nat} {x0 x1 x2 x3 x4 : Value}
theorem Five.lt (h : Five W g x0 x1 x2 x3 x4) : g < W.heap.size := (Array.getElem?_eq_some_iff.1 h).1
theorem Five.cell (h : Five W g x0 x1 x2 x3 x4) (j : Nat) : W.cell? ⟨g, j, none⟩ = (#[x0, x1, x2, x3, x4] : Array Value)[j]? := cell_of_row W g j _ _ (0, 0) h
theorem Five.c0 (h : Five W g x0 x1 x2 x3 x4) : W.cell? ⟨g, 0, none⟩ = some x0 := h.cell 0
theorem Five.c1 (h : Five W g x0 x1 x2 x3 x4) : W.cell? ⟨g, 1, none⟩ = some x1 := h.cell 1
theorem Five.c2 (h : Five W g x0 x1 x2 x3 x4) : W.cell? ⟨g, 2, none⟩ = some x2 := h.cell 2
theorem Five.c3 (h : Five W g x0 x1 x2 x3 x4) : W.cell? ⟨g, 3, none⟩ = some x3 := h.cell 3
theorem Five.c4 (h : Five W g x0 x1 x2 x3 x4) : W.cell? ⟨g, 4, none⟩ = some x4 := h.cell 4
theorem Five.frz (h : Five W g x0 x1 x2 x3 x4) (j : Nat) : W.frozen? ⟨g, j, none⟩ = false := by simp [World.frozen?, show W.heap[g]? = _ from h]
theorem Five.new (W : World) (x0 x1 x2 x3 x4 : Value) : Five (W.alloc (.cells #[x0, x1, x2, x3, x4] 58)) W.heap.size x0 x1 x2 x3 x4 := heap_alloc_new _ _
theorem Five.stay {W' : World} (h : Five W g x0 x1 x2 x3 x4) (hb : Below W.heap.size W W') : Five W' g x0 x1 x2 x3 x4 := (hb.block g h.lt).trans h
theorem Five.grown {W' : World} {row : Option Nat} (h : Five W g x0 x1 x2 x3 x4) (hg : W.grownBy W' row) (hr : some g ≠ row) : Five W' g x0 x1 x2 x3 x4 := (hg.block g h.lt hr).trans h
theorem Five.set0 (h : Five W g x0 x1 x2 x3 x4) (u : Value) : Five (W.setCell ⟨g, 0, none⟩ u) g u x1 x2 x3 x4 := by unfold Five; rw [heap_setCell_same W g 0 _ _ u h]; rfl
theorem Five.set1 (h : Five W g x0 x1 x2 x3 x4) (u : Value) : Five (W.setCell ⟨g, 1, none⟩ u) g x0 u x2 x3 x4 := by unfold Five; rw [heap_setCell_same W g 1 _ _ u h]; rfl
theorem Five.set2 (h : Five W g x0 x1 x2 x3 x4) (u : Value) : Five (W.setCell ⟨g, 2, none⟩ u) g x0 x1 u x3 x4 := by unfold Five; rw [heap_setCell_same W g 2 _ _ u h]; rfl
theorem Five.set3 (h : Five W g x0 x1 x2 x3 x4) (u : Value) : Five (W.setCell ⟨g, 3, none⟩ u) g x0 x1 x2 u x4 := by unfold Five; rw [heap_setCell_same W g 3 _ _ u h]; rfl
theorem Five.set4 (h : Five W g x0 x1 x2 x3 x4) (u : Value) : Five (W.setCell ⟨g, 4, none⟩ u) g x0 x1 x2 x3 u := by unfold Five; rw [heap_setCell_same W g 4 _ _ u h]; rfl
end
/-- The names in a row of their own, in block lo or above. -/
abbrev Nms (lo : Nat) (W : World) (v : Value) (l : List ByteArray) : Prop := W.ownsRow lo 9 1 v l.length (l.map Value.string)
theorem Nms.blk {lo : Nat} {W : World} {v : Value} {l : List ByteArray} (h : Nms lo W v l) {b : Nat} (hb : v.ownBlock = some b) : lo ≤ b ∧ b < W.heap.size ∧ ∃ cs, W.heap[b]? = some (.cells cs 9) := by
  rcases h.2 with ⟨rfl, _⟩ | ⟨g', cap', cur, rfl, hlo, hgb, _⟩
  · simp [Value.ownBlock] at hb
  · obtain rfl : g' = b := by simpa [Value.ownBlock] using hb
    exact ⟨hlo, (Array.getElem?_eq_some_iff.1 hgb).1, cur, hgb⟩
theorem Nms.grown {lo : Nat} {W W' : World} {v : Value} {l : List ByteArray} {row : Option Nat} (h : Nms lo W v l) (hg : W.grownBy W' row) (hr : ∀ b, v.ownBlock = some b → row ≠ some b) : Nms lo W' v l :=
  World.ownsRow.kept h hg (by
    cases hv : v.ownBlock with
    | none => exact .inl rfl
    | some b => exact .inr (fun e => hr b hv e.symm))
theorem Nms.later {lo : Nat} {W W' : World} {v : Value} {l : List ByteArray} (h : Nms lo W v l) (hb : Below W.heap.size W W') : Nms lo W' v l := h.grown (grown_of_below hb) (fun _ _ e => by cases e)
/-- What has been seen. -/
def Seen (g : Nat) (k m f : Int) (l1 l2 : List ByteArray) (W : World) : Prop :=
  ∃ v1 v2, Five W g (.int .i64 k) (.int .i64 m) (.int .i64 f) v1 v2 ∧ Nms (g + 1) W v1 l1 ∧ Nms (g + 1) W v2 l2 ∧ ∀ b, v1.ownBlock = some b → v2.ownBlock ≠ some b
theorem Seen.later {g : Nat} {k m f : Int} {l1 l2 : List ByteArray} {W W' : World} (h : Seen g k m f l1 l2 W) (hb : Below W.heap.size W W') : Seen g k m f l1 l2 W' := by
  obtain ⟨v1, v2, h1, h2, h3, h4⟩ := h
  have hg := grown_of_below hb
  exact ⟨v1, v2, h1.stay hb, h2.grown hg (fun _ _ e => by cases e), h3.grown hg (fun _ _ e => by cases e), h4⟩
theorem nms_not {g : Nat} {W : World} {v : Value} {l : List ByteArray} (h : Nms (g + 1) W v l) : ∀ b, v.ownBlock = some b → some g ≠ some b := fun b hb e => by
  have := (h.blk hb).1
  cases e; omega
theorem Seen.set0 {g : Nat} {k m f : Int} {l1 l2 : List ByteArray} {W : World} (h : Seen g k m f l1 l2 W) (u : Int) : Seen g u m f l1 l2 (W.setCell ⟨g, 0, none⟩ (.int .i64 u)) := by
  obtain ⟨v1, v2, h1, h2, h3, h4⟩ := h
  exact ⟨v1, v2, h1.set0 _, h2.grown (grownBy_set _ _ _ _) (nms_not h2), h3.grown (grownBy_set _ _ _ _) (nms_not h3), h4⟩
theorem Seen.set1 {g : Nat} {k m f : Int} {l1 l2 : List ByteArray} {W : World} (h : Seen g k m f l1 l2 W) (u : Int) : Seen g k u f l1 l2 (W.setCell ⟨g, 1, none⟩ (.int .i64 u)) := by
  obtain ⟨v1, v2, h1, h2, h3, h4⟩ := h
  exact ⟨v1, v2, h1.set1 _, h2.grown (grownBy_set _ _ _ _) (nms_not h2), h3.grown (grownBy_set _ _ _ _) (nms_not h3), h4⟩
theorem Seen.set2 {g : Nat} {k m f : Int} {l1 l2 : List ByteArray} {W : World} (h : Seen g k m f l1 l2 W) (u : Int) : Seen g k m u l1 l2 (W.setCell ⟨g, 2, none⟩ (.int .i64 u)) := by
  obtain ⟨v1, v2, h1, h2, h3, h4⟩ := h
  exact ⟨v1, v2, h1.set2 _, h2.grown (grownBy_set _ _ _ _) (nms_not h2), h3.grown (grownBy_set _ _ _ _) (nms_not h3), h4⟩
/-- An expression's box, which its type tells from a row. -/
def Box4 (W : World) (b : Nat) (o n : Int) (s : ByteArray) (x : Value) : Prop := W.heap[b]? = some (.cells #[.int .i64 o, .int .i64 n, .string s, x] 24)
theorem Box4.lt {W : World} {b : Nat} {o n : Int} {s : ByteArray} {x : Value} (h : Box4 W b o n s x) : b < W.heap.size := (Array.getElem?_eq_some_iff.1 h).1
theorem Box4.cell {W : World} {b : Nat} {o n : Int} {s : ByteArray} {x : Value} (h : Box4 W b o n s x) (j : Nat) : W.cell? ⟨b, j, none⟩ = (#[.int .i64 o, .int .i64 n, .string s, x] : Array Value)[j]? := cell_of_row W b j _ _ (0, 0) h
theorem Box4.c0 {W : World} {b : Nat} {o n : Int} {s : ByteArray} {x : Value} (h : Box4 W b o n s x) : W.cell? ⟨b, 0, none⟩ = some (.int .i64 o) := h.cell 0
theorem Box4.c1 {W : World} {b : Nat} {o n : Int} {s : ByteArray} {x : Value} (h : Box4 W b o n s x) : W.cell? ⟨b, 1, none⟩ = some (.int .i64 n) := h.cell 1
theorem Box4.c2 {W : World} {b : Nat} {o n : Int} {s : ByteArray} {x : Value} (h : Box4 W b o n s x) : W.cell? ⟨b, 2, none⟩ = some (.string s) := h.cell 2
theorem Box4.c3 {W : World} {b : Nat} {o n : Int} {s : ByteArray} {x : Value} (h : Box4 W b o n s x) : W.cell? ⟨b, 3, none⟩ = some (x) := h.cell 3
theorem Box4.stay {W W' : World} {b : Nat} {o n : Int} {s : ByteArray} {x : Value} (h : Box4 W b o n s x) (hb : Below W.heap.size W W') : Box4 W' b o n s x := (hb.block b h.lt).trans h
theorem Box4.set {W : World} {b g i : Nat} {o n : Int} {s : ByteArray} {x : Value} (h : Box4 W b o n s x) (hn : b ≠ g) (u : Value) : Box4 (W.setCell ⟨g, i, none⟩ u) b o n s x := (heap_setCell_other W ⟨g, i, none⟩ b u hn).trans h
theorem Box4.keep {W W' : World} {b g : Nat} {o n : Int} {s : ByteArray} {x : Value} (h : Box4 W b o n s x) (hk : Keep g (g + 1) W W') (hb : g < b) : Box4 W' b o n s x := hk.blk b _ _ _ h (.inr ⟨hb, .inl rfl⟩)
/-- What may have changed: the struct, the rows of names, what is new. -/
structure Turn (g : Nat) (W W' : World) : Prop where
  low : Below g W W'
  keep : Keep g (g + 1) W W'
theorem Turn.refl (g : Nat) (W : World) : Turn g W W := ⟨Below.refl _ _, Keep.refl _ _ _⟩
theorem Turn.trans {g : Nat} {A B C : World} (h : Turn g A B) (k : Turn g B C) : Turn g A C := ⟨h.low.trans k.low, h.keep.trans k.keep⟩
theorem Turn.later {g : Nat} {A B C : World} (h : Turn g A B) (hg : g ≤ A.heap.size) (hb : Below B.heap.size B C) : Turn g A C :=
  h.trans ⟨hb.mono (by have := h.low.size; omega), Keep.of_below hb⟩
theorem Turn.set {g i : Nat} {A B : World} (h : Turn g A B) (u : Value) : Turn g A (B.setCell ⟨g, i, none⟩ u) :=
  ⟨h.low.setCell (p := ⟨g, i, none⟩) (Nat.le_refl _) _, h.keep.trans (Keep.grown (grownBy_set _ _ _ _) fun b e _ _ _ _ => by cases e; exact ⟨Nat.le_refl _, .inl (by omega)⟩)⟩
/-- A name is appended to the first list. -/
theorem Seen.app1 {g : Nat} {k m f : Int} {l1 l2 : List ByteArray} {W W' : World} {v1 v2 : Value} {s : ByteArray} {g' cap : Nat} (h1 : Five W g (.int .i64 k) (.int .i64 m) (.int .i64 f) v1 v2) (h2 : Nms (g + 1) W v1 l1) (h3 : Nms (g + 1) W v2 l2) (h4 : ∀ b, v1.ownBlock = some b → v2.ownBlock ≠ some b)
    (hown : W'.ownsRow (g + 1) 9 1 (.slice (some ⟨g', 0, none⟩) (l1.length + 1) cap) (l1.length + 1) (l1.map Value.string ++ [.string s])) (hgr : W.grownBy W' v1.ownBlock) (hat : v1.ownBlock = some g' ∨ g' = W.heap.size) :
    Five W' g (.int .i64 k) (.int .i64 m) (.int .i64 f) v1 v2 ∧ Seen g k m f (l1 ++ [s]) l2 (W'.setCell ⟨g, 3, none⟩ (.slice (some ⟨g', 0, none⟩) (l1.length + 1) cap)) ∧ Turn g W W' ∧ (∀ b o n s x, g < b → Box4 W b o n s x → Box4 W' b o n s x) := by
  have hne : some g ≠ v1.ownBlock := fun e => nms_not h2 _ e.symm rfl
  have f1 := h1.grown hgr hne
  have n2 : Nms (g + 1) W' v2 l2 := h3.grown hgr (fun b hb e => h4 b e hb)
  have n1 : Nms (g + 1) W' (.slice (some ⟨g', 0, none⟩) (l1.length + 1) cap) (l1 ++ [s]) := by
    show W'.ownsRow _ _ _ _ _ _
    rw [List.length_append, List.map_append]; exact hown
  have hk : Keep g (g + 1) W W' := Keep.grown hgr fun b e cs t fr hv => by
    obtain ⟨q1, _, cs', q2⟩ := h2.blk e
    rw [q2] at hv
    cases hv
    exact ⟨by omega, .inr ⟨by decide, by decide⟩⟩
  refine ⟨f1, ⟨_, v2, f1.set3 _, n1.grown (grownBy_set _ _ _ _) (nms_not n1), n2.grown (grownBy_set _ _ _ _) (nms_not n2), fun b hb => ?_⟩, ⟨(Below.refl _ _).grown hgr (by have := h1.lt; omega) (fun b e => by have := (h2.blk e).1; omega), hk⟩, fun b o n s x hb hx => hx.keep hk hb⟩
  obtain rfl : g' = b := by simpa [Value.ownBlock] using hb
  rcases hat with e | e
  · exact h4 _ e
  · intro e2
    have := (h3.blk e2).2.1
    omega
/-- A name is appended to the second list. -/
theorem Seen.app2 {g : Nat} {k m f : Int} {l1 l2 : List ByteArray} {W W' : World} {v1 v2 : Value} {s : ByteArray} {g' cap : Nat} (h1 : Five W g (.int .i64 k) (.int .i64 m) (.int .i64 f) v1 v2) (h2 : Nms (g + 1) W v1 l1) (h3 : Nms (g + 1) W v2 l2) (h4 : ∀ b, v1.ownBlock = some b → v2.ownBlock ≠ some b)
    (hown : W'.ownsRow (g + 1) 9 1 (.slice (some ⟨g', 0, none⟩) (l2.length + 1) cap) (l2.length + 1) (l2.map Value.string ++ [.string s])) (hgr : W.grownBy W' v2.ownBlock) (hat : v2.ownBlock = some g' ∨ g' = W.heap.size) :
    Five W' g (.int .i64 k) (.int .i64 m) (.int .i64 f) v1 v2 ∧ Seen g k m f l1 (l2 ++ [s]) (W'.setCell ⟨g, 4, none⟩ (.slice (some ⟨g', 0, none⟩) (l2.length + 1) cap)) ∧ Turn g W W' ∧ (∀ b o n s x, g < b → Box4 W b o n s x → Box4 W' b o n s x) := by
  have hne : some g ≠ v2.ownBlock := fun e => nms_not h3 _ e.symm rfl
  have f1 := h1.grown hgr hne
  have n1 : Nms (g + 1) W' v1 l1 := h2.grown hgr (fun b hb e => h4 b hb e)
  have n2 : Nms (g + 1) W' (.slice (some ⟨g', 0, none⟩) (l2.length + 1) cap) (l2 ++ [s]) := by
    show W'.ownsRow _ _ _ _ _ _
    rw [List.length_append, List.map_append]; exact hown
  have hk : Keep g (g + 1) W W' := Keep.grown hgr fun b e cs t fr hv => by
    obtain ⟨q1, _, cs', q2⟩ := h3.blk e
    rw [q2] at hv
    cases hv
    exact ⟨by omega, .inr ⟨by decide, by decide⟩⟩
  refine ⟨f1, ⟨v1, _, f1.set4 _, n1.grown (grownBy_set _ _ _ _) (nms_not n1), n2.grown (grownBy_set _ _ _ _) (nms_not n2), fun b hb e2 => ?_⟩, ⟨(Below.refl _ _).grown hgr (by have := h1.lt; omega) (fun b e => by have := (h3.blk e).1; omega), hk⟩, fun b o n s x hb hx => hx.keep hk hb⟩
  obtain rfl : g' = b := by simpa [Value.ownBlock] using e2
  rcases hat with e | e
  · exact h4 _ hb e
  · have := (h2.blk hb).2.1
    omega
theorem StrsA.later {w w' : World} {v : Value} {l : List ByteArray} (h : StrsA w v l) (hb : Below w.heap.size w w') : StrsA w' v l := by
  obtain ⟨p, cap, e, hc, hx⟩ := h
  refine ⟨p, cap, e, hc, fun h0 => ?_⟩
  obtain ⟨b, off, e2, hcell⟩ := hx h0
  exact ⟨b, off, e2, fun i s hi => (hb.cell (p := ⟨b, off + i, none⟩) (cell_lt (hcell i s hi))).trans (hcell i s hi)⟩
def fE (f : Int) (L : List In) : Int := L.foldl (fun f x => if f = 0 then fltS x else f) f
noncomputable def sN (p : Int → Bool) (l : List ByteArray) (L : List In) : List ByteArray := L.foldl (stepN p) l
theorem sN_len (p : Int → Bool) (L : List In) : ∀ l, (sN p l L).length ≤ l.length + L.length := by
  induction L with
  | nil => intro l; simp [sN]
  | cons y r ih =>
    intro l
    have h1 := ih (stepN p l y)
    have h2 : (stepN p l y).length ≤ l.length + 1 := by
      unfold stepN addN; split
      · split <;> simp
      · omega
    show (sN p (stepN p l y) r).length ≤ _
    simp only [List.length_cons]; omega
/-- What is seen when a list of nodes has been seen too. -/
noncomputable def SeenF (g k m : Nat) (f : Int) (l1 l2 : List ByteArray) (L : List In) (W : World) : Prop := Seen g ((k + L.length : Nat) : Int) ((max m (mxL L) : Nat) : Int) (fE f L) (sN isVr l1 L) (sN isAr l2 L) W
theorem SeenF.app {g k m : Nat} {f : Int} {l1 l2 : List ByteArray} {A B : List In} {W : World} (h : SeenF g (k + A.length) (max m (mxL A)) (fE f A) (sN isVr l1 A) (sN isAr l2 A) B W) : SeenF g k m f l1 l2 (A ++ B) W := by
  unfold SeenF at *
  have e1 : k + (A ++ B).length = k + A.length + B.length := by rw [List.length_append]; omega
  have e2 : max m (mxL (A ++ B)) = max (max m (mxL A)) (mxL B) := by rw [mx_append]; omega
  have e3 : fE f (A ++ B) = fE (fE f A) B := by unfold fE; rw [List.foldl_append]
  have e4 : ∀ p l, sN p l (A ++ B) = sN p (sN p l A) B := fun p l => by unfold sN; rw [List.foldl_append]
  rw [e1, e2, e3, e4, e4]; exact h
theorem SeenF.one {g k m : Nat} {f : Int} {l1 l2 L1 L2 : List ByteArray} {F2 o n : Int} {s : ByteArray} {d K : Nat} {W : World} (hF : (if f = 0 then fltS ⟨0, o, n, s, K⟩ else f) = F2) (h1 : (if (isVr o && !inL s l1) = true then l1 ++ [s] else l1) = L1) (h2 : (if (isAr o && !inL s l2) = true then l2 ++ [s] else l2) = L2)
    (h : Seen g ((k : Int) + 1) ((max m d : Nat) : Int) F2 L1 L2 W) : SeenF g k m f l1 l2 [⟨d, o, n, s, K⟩] W := by
  have st : ∀ (p : Int → Bool) (l : List ByteArray), sN p l [⟨d, o, n, s, K⟩] = if (p o && !inL s l) = true then l ++ [s] else l := fun p l => by
    show stepN p l ⟨d, o, n, s, K⟩ = _
    unfold stepN addN inL
    by_cases hp : p o = true
    · by_cases hm : s ∈ l
      · rw [if_pos hp, if_pos hm, if_neg]; simp [hp, hm]
      · rw [if_pos hp, if_neg hm, if_pos]; simp [hp, hm]
    · rw [if_neg hp, if_neg]; simp [hp]
  unfold SeenF
  rw [st, st, h1, h2, mx_one]
  have : fE f [⟨d, o, n, s, K⟩] = F2 := hF
  rw [this]
  exact h
end Go.Proofs.YtdiackcefojfkaaGreatDoor.ExW
