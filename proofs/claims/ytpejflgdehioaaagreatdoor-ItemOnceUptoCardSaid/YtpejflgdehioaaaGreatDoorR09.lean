/-
  Laws that the card uses; no conditions beside those that each states (ExRefA ExNames ExOver ItRWr).
-/
import Derived.Deep.AppendLies
import Derived.Deep.DeepCutAuto
import Derived.Deep.RegionLaw
import Derived.Test.YtpejflgdehioaaaGreatDoorR05
namespace Go.Proofs.YtpejflgdehioaaaGreatDoor.ExW
open Go Go.RowKit Go.Proofs.YtpejflgdehioaaaGreatDoor.NumM Go.Proofs.YtpejflgdehioaaaGreatDoor.LexW Go.Proofs.YtpejflgdehioaaaGreatDoor.LexM Go.Proofs.YtpejflgdehioaaaGreatDoor.ExM
def StrsA (w : World) (v : Value) (l : List ByteArray) : Prop :=
  ∃ p cap, v = .slice p l.length cap ∧ l.length ≤ cap ∧ (0 < l.length → ∃ b off, p = some ⟨b, off, none⟩ ∧ ∀ i s, l[i]? = some s → w.cell? ⟨b, off + i, none⟩ = some (.string s))
open Classical in
noncomputable def inL (s : ByteArray) (l : List ByteArray) : Bool := decide (s ∈ l)
open Classical in
theorem inL_yes {s : ByteArray} {l : List ByteArray} {i : Nat} {t : ByteArray} (h : l[i]? = some t) (e : t.data.toList = s.data.toList) : inL s l = true := by
  unfold inL; obtain rfl := bs_inj e; exact decide_eq_true (List.mem_of_getElem? h)
open Classical in
theorem inL_no {s : ByteArray} {l : List ByteArray} (h : ∀ (i : Nat) t, i < l.length → l[i]? = some t → t.data.toList ≠ s.data.toList) : inL s l = false := by
  unfold inL; refine (decide_eq_false fun hm => ?_); obtain ⟨i, hi, e⟩ := List.mem_iff_getElem.1 hm; exact h i s hi (by rw [List.getElem?_eq_getElem hi, e]) rfl
set_option maxRecDepth 100000 in
set_option maxHeartbeats 2000000 in
theorem has_any (l : List ByteArray) (v : Value) (s : ByteArray) (w : World) (h : StrsA w v l) (hl : l.length ≤ 100000) :
    Calls Tryz.prog 156 #[v, .string s] w fun e w' => e = .returned (.bool (inL s l)) ∧ w = w' := by
  obtain ⟨p, cap, rfl, hcap, hx⟩ := h; have HX := Lib.hid hx; clear hx hcap; obtain ⟨n, hnn⟩ : ∃ n, l.length = n := ⟨_, rfl⟩; have HN := Lib.hid hnn; rw [hnn] at hl ⊢; clear hnn
  go_enter Tryz.func156, Tryz.ntmps156
  go_wp2; go_loop [5] (fun i => ∃ k : Nat, k ≤ n ∧ i = .int .i64 k ∧ Hid (∀ (j : Nat) t, j < k → l[j]? = some t → t.data.toList ≠ s.data.toList)) (fun i => n - (intOf i).toNat)
  case atStart => exact ⟨0, Nat.zero_le _, rfl, Lib.hid fun j _ h => by omega⟩
  case round =>
    obtain ⟨k, hk, rfl, NO⟩ := hrel; by_cases hlt : k < n
    · obtain ⟨b, off, rfl, hcell⟩ := HX.out (by rw [HN.out]; omega); obtain ⟨y, hyk⟩ : ∃ y, l[k]? = some y := ⟨_, List.getElem?_eq_getElem (by rw [HN.out]; exact hlt)⟩; have ca0 := hcell k y hyk; have HY := Lib.hid hyk; clear hcell hyk; by_cases e : y.data.toList = s.data.toList
      · have e1 : (y.toList == s.toList) = true := (by rw [Lib.toList_data, Lib.toList_data, e]; simp); have EE := Lib.hid (inL_yes HY.out e); clear e; go_wp2; go_ret; exact ⟨retb EE.out.symm, rfl⟩
      · have e1 : (y.toList == s.toList) = false := (by rw [Lib.toList_data, Lib.toList_data]; simpa using e); have NO2 : Hid (∀ (j : Nat) t, j < k + 1 → l[j]? = some t → t.data.toList ≠ s.data.toList) := Lib.hid fun j t hj ht => by
          rcases Nat.lt_or_ge j k with h | h
          · exact NO.out j t h ht
          · obtain rfl : j = k := (by omega); rw [HY.out] at ht; cases ht; exact e
        clear e; go_wp2; go_round
        case rel => exact ⟨k + 1, by omega, by go_num, NO2⟩
        case measure => simp [intOf]; omega
    · have EE := Lib.hid (inL_no (s := s) (l := l) (fun i t hi ht => NO.out i t (by rw [HN.out] at hi; omega) ht)); go_wp2; go_ret; exact ⟨retb EE.out.symm, rfl⟩
end Go.Proofs.YtpejflgdehioaaaGreatDoor.ExW
namespace Go.Proofs.YtpejflgdehioaaaGreatDoor.ExW
open Go Go.RowKit Go.Shelf Go.Proofs.YtpejflgdehioaaaGreatDoor.NumM Go.Proofs.YtpejflgdehioaaaGreatDoor.LexW Go.Proofs.YtpejflgdehioaaaGreatDoor.LexM Go.Proofs.YtpejflgdehioaaaGreatDoor.ExM
attribute [local go_sem] Oper.semAt_some
def nmD (l : List ByteArray) : DataW Unit := l.foldl (fun D s => D.put (.string s.data.toList) (.lit (.bool true))) (.map [])
theorem infoS : (Tryz.prog.info? 9).map (fun i => (i.zero, i.size, i.bytes)) = some (some (.string ⟨#[]⟩), 1, 16) := by kernel_rfl
structure NmI (w : World) (fv : Value) (l : List ByteArray) (n : Nat) (W0 W : World) : Prop where
  list : ∃ v, Boxed W (w.heap.size + 2) 27 v ∧ W.ownsRow w.heap.size 9 1 v l.length (l.map Value.string)
  fn : Boxed W (w.heap.size + 1) 88 fv
  mp : Boxed W (w.heap.size + 4) 67 (.map (some (w.heap.size + 3)))
  map : W.ownsMap Tryz.prog 9 (plainElem (H := Unit) Tryz.prog 4) (w.heap.size + 3) n (nmD l)
  low : Below w.heap.size W0 W
theorem boxed_kept {W W' : World} {B : Nat} {t : TypeId} {v : Value} {row : Option Nat} (h : Boxed W B t v) (hg : W.grownBy W' row) (hr : ∀ r, row = some r → ∃ o : Obj, W.heap[r]? = some o ∧ o.isCells = false) : Boxed W' B t v :=
  h.kept hg (fun e' => by obtain ⟨o, ho, hc⟩ := hr B e'.symm; rw [show W.heap[B]? = _ from h] at ho; cases ho; cases hc)
theorem NmI.kept {w W0 W W' : World} {fv : Value} {l : List ByteArray} {n : Nat} {row : Option Nat} (h : NmI w fv l n W0 W) (hz : w.heap.size + 5 < W0.heap.size) (hg : W.grownBy W' row) (hr : ∀ r, row = some r → W0.heap.size ≤ r ∧ ∃ o : Obj, W.heap[r]? = some o ∧ o.isCells = false) : NmI w fv l n W0 W' := by
  obtain ⟨⟨v, h1, h2⟩, h3, h4, h5, h6⟩ := h; have hr2 := (fun r e => (hr r e).2); obtain ⟨v', q1, q2, _⟩ := holdsRow_own w.heap.size (w.heap.size + 2) 27 9 1 (fun l : List ByteArray => l.length) (fun l => l.map Value.string) (fun _ _ => True) l W W' row ⟨v, h1, h2, trivial⟩ hg hr2; refine ⟨⟨v', q1, q2⟩, boxed_kept h3 hg hr2, boxed_kept h4 hg hr2, h5.kept hg (fun e => by have := (hr _ e.symm).1; omega), h6.grown hg (by have := h6.size; omega) (fun k e => by have := (hr k e).1; omega)⟩
end Go.Proofs.YtpejflgdehioaaaGreatDoor.ExW
namespace Go.Proofs.YtpejflgdehioaaaGreatDoor.ExW
open Go Go.RowKit Go.Proofs.YtpejflgdehioaaaGreatDoor.NumM Go.Proofs.YtpejflgdehioaaaGreatDoor.LexW Go.Proofs.YtpejflgdehioaaaGreatDoor.LexM Go.Proofs.YtpejflgdehioaaaGreatDoor.ExM
def Five (W : World) (g : Nat) (x0 x1 x2 x3 x4 : Value) : Prop := W.heap[g]? = some (.cells #[x0, x1, x2, x3, x4] 98)
theorem grownBy_set (W : World) (b o : Nat) (v : Value) : W.grownBy (W.setCell ⟨b, o, none⟩ v) (some b) :=
  ⟨rfl, rfl, rfl, by rw [setCell_size]; exact Nat.le_refl _, fun k _ hb => heap_setCell_other _ _ _ _ (fun e => hb (by rw [e]))⟩
section
variable {W : World} {g : Nat} {x0 x1 x2 x3 x4 : Value}
theorem Five.lt (h : Five W g x0 x1 x2 x3 x4) : g < W.heap.size := (Array.getElem?_eq_some_iff.1 h).1
theorem Five.cell (h : Five W g x0 x1 x2 x3 x4) (j : Nat) : W.cell? ⟨g, j, none⟩ = (#[x0, x1, x2, x3, x4] : Array Value)[j]? := cell_of_row W g j _ _ (0, 0) h
theorem Five.c0 (h : Five W g x0 x1 x2 x3 x4) : W.cell? ⟨g, 0, none⟩ = some x0 := h.cell 0
theorem Five.c1 (h : Five W g x0 x1 x2 x3 x4) : W.cell? ⟨g, 1, none⟩ = some x1 := h.cell 1
theorem Five.c2 (h : Five W g x0 x1 x2 x3 x4) : W.cell? ⟨g, 2, none⟩ = some x2 := h.cell 2
theorem Five.c3 (h : Five W g x0 x1 x2 x3 x4) : W.cell? ⟨g, 3, none⟩ = some x3 := h.cell 3
theorem Five.new (W : World) (x0 x1 x2 x3 x4 : Value) : Five (W.alloc (.cells #[x0, x1, x2, x3, x4] 98)) W.heap.size x0 x1 x2 x3 x4 := heap_alloc_new _ _
theorem Five.stay {W' : World} (h : Five W g x0 x1 x2 x3 x4) (hb : Below W.heap.size W W') : Five W' g x0 x1 x2 x3 x4 := (hb.block g h.lt).trans h
theorem Five.grown {W' : World} {row : Option Nat} (h : Five W g x0 x1 x2 x3 x4) (hg : W.grownBy W' row) (hr : some g ≠ row) : Five W' g x0 x1 x2 x3 x4 := (hg.block g h.lt hr).trans h
end
abbrev Nms (lo : Nat) (W : World) (v : Value) (l : List ByteArray) : Prop := W.ownsRow lo 9 1 v l.length (l.map Value.string)
theorem Nms.blk {lo : Nat} {W : World} {v : Value} {l : List ByteArray} (h : Nms lo W v l) {b : Nat} (hb : v.ownBlock = some b) : lo ≤ b ∧ b < W.heap.size ∧ ∃ cs, W.heap[b]? = some (.cells cs 9) := by
  rcases h.2 with ⟨rfl, _⟩ | ⟨g', cap', cur, rfl, hlo, hgb, _⟩
  · simp [Value.ownBlock] at hb
  · obtain rfl : g' = b := (by simpa [Value.ownBlock] using hb); exact ⟨hlo, (Array.getElem?_eq_some_iff.1 hgb).1, cur, hgb⟩
theorem Nms.grown {lo : Nat} {W W' : World} {v : Value} {l : List ByteArray} {row : Option Nat} (h : Nms lo W v l) (hg : W.grownBy W' row) (hr : ∀ b, v.ownBlock = some b → row ≠ some b) : Nms lo W' v l :=
  World.ownsRow.kept h hg (by
    cases hv : v.ownBlock with
    | none => exact .inl rfl
    | some b => exact .inr (fun e => hr b hv e.symm))
theorem Nms.later {lo : Nat} {W W' : World} {v : Value} {l : List ByteArray} (h : Nms lo W v l) (hb : Below W.heap.size W W') : Nms lo W' v l := h.grown (grown_of_below hb) (fun _ _ e => by cases e)
def Seen (g : Nat) (k m f : Int) (l1 l2 : List ByteArray) (W : World) : Prop :=
  ∃ v1 v2, Five W g (.int .i64 k) (.int .i64 m) (.int .i64 f) v1 v2 ∧ Nms (g + 1) W v1 l1 ∧ Nms (g + 1) W v2 l2 ∧ ∀ b, v1.ownBlock = some b → v2.ownBlock ≠ some b
theorem Seen.later {g : Nat} {k m f : Int} {l1 l2 : List ByteArray} {W W' : World} (h : Seen g k m f l1 l2 W) (hb : Below W.heap.size W W') : Seen g k m f l1 l2 W' := by
  obtain ⟨v1, v2, h1, h2, h3, h4⟩ := h; have hg := grown_of_below hb; exact ⟨v1, v2, h1.stay hb, h2.grown hg (fun _ _ e => by cases e), h3.grown hg (fun _ _ e => by cases e), h4⟩
def Box4 (W : World) (b : Nat) (o n : Int) (s : ByteArray) (x : Value) : Prop := W.heap[b]? = some (.cells #[.int .i64 o, .int .i64 n, .string s, x] 43)
theorem Box4.lt {W : World} {b : Nat} {o n : Int} {s : ByteArray} {x : Value} (h : Box4 W b o n s x) : b < W.heap.size := (Array.getElem?_eq_some_iff.1 h).1
theorem Box4.cell {W : World} {b : Nat} {o n : Int} {s : ByteArray} {x : Value} (h : Box4 W b o n s x) (j : Nat) : W.cell? ⟨b, j, none⟩ = (#[.int .i64 o, .int .i64 n, .string s, x] : Array Value)[j]? := cell_of_row W b j _ _ (0, 0) h
theorem Box4.c0 {W : World} {b : Nat} {o n : Int} {s : ByteArray} {x : Value} (h : Box4 W b o n s x) : W.cell? ⟨b, 0, none⟩ = some (.int .i64 o) := h.cell 0
theorem Box4.c1 {W : World} {b : Nat} {o n : Int} {s : ByteArray} {x : Value} (h : Box4 W b o n s x) : W.cell? ⟨b, 1, none⟩ = some (.int .i64 n) := h.cell 1
theorem Box4.c2 {W : World} {b : Nat} {o n : Int} {s : ByteArray} {x : Value} (h : Box4 W b o n s x) : W.cell? ⟨b, 2, none⟩ = some (.string s) := h.cell 2
theorem Box4.c3 {W : World} {b : Nat} {o n : Int} {s : ByteArray} {x : Value} (h : Box4 W b o n s x) : W.cell? ⟨b, 3, none⟩ = some (x) := h.cell 3
theorem Box4.stay {W W' : World} {b : Nat} {o n : Int} {s : ByteArray} {x : Value} (h : Box4 W b o n s x) (hb : Below W.heap.size W W') : Box4 W' b o n s x := (hb.block b h.lt).trans h
theorem Box4.set {W : World} {b g i : Nat} {o n : Int} {s : ByteArray} {x : Value} (h : Box4 W b o n s x) (hn : b ≠ g) (u : Value) : Box4 (W.setCell ⟨g, i, none⟩ u) b o n s x := (heap_setCell_other W ⟨g, i, none⟩ b u hn).trans h
theorem Box4.keep {W W' : World} {b g : Nat} {o n : Int} {s : ByteArray} {x : Value} (h : Box4 W b o n s x) (hk : Keep g (g + 1) W W') (hb : g < b) : Box4 W' b o n s x := hk.blk b _ _ _ h (.inr ⟨hb, .inl rfl⟩)
structure Turn (g : Nat) (W W' : World) : Prop where
  low : Below g W W'
  keep : Keep g (g + 1) W W'
theorem Turn.refl (g : Nat) (W : World) : Turn g W W := ⟨Below.refl _ _, Keep.refl _ _ _⟩
theorem Turn.trans {g : Nat} {A B C : World} (h : Turn g A B) (k : Turn g B C) : Turn g A C := ⟨h.low.trans k.low, h.keep.trans k.keep⟩
theorem Turn.later {g : Nat} {A B C : World} (h : Turn g A B) (hg : g ≤ A.heap.size) (hb : Below B.heap.size B C) : Turn g A C :=
  h.trans ⟨hb.mono (by have := h.low.size; omega), Keep.of_below hb⟩
theorem Turn.set {g i : Nat} {A B : World} (h : Turn g A B) (u : Value) : Turn g A (B.setCell ⟨g, i, none⟩ u) :=
  ⟨h.low.setCell (p := ⟨g, i, none⟩) (Nat.le_refl _) _, h.keep.trans (Keep.grown (grownBy_set _ _ _ _) fun b e _ _ _ _ => by cases e; exact ⟨Nat.le_refl _, .inl (by omega)⟩)⟩
theorem StrsA.later {w w' : World} {v : Value} {l : List ByteArray} (h : StrsA w v l) (hb : Below w.heap.size w w') : StrsA w' v l := by
  obtain ⟨p, cap, e, hc, hx⟩ := h; refine ⟨p, cap, e, hc, fun h0 => ?_⟩; obtain ⟨b, off, e2, hcell⟩ := hx h0; exact ⟨b, off, e2, fun i s hi => (hb.cell (p := ⟨b, off + i, none⟩) (cell_lt (hcell i s hi))).trans (hcell i s hi)⟩
def fE (f : Int) (L : List In) : Int := L.foldl (fun f x => if f = 0 then fltS x else f) f
noncomputable def sN (p : Int → Bool) (l : List ByteArray) (L : List In) : List ByteArray := L.foldl (stepN p) l
noncomputable def SeenF (g k m : Nat) (f : Int) (l1 l2 : List ByteArray) (L : List In) (W : World) : Prop := Seen g ((k + L.length : Nat) : Int) ((max m (mxL L) : Nat) : Int) (fE f L) (sN isVr l1 L) (sN isAr l2 L) W
theorem SeenF.one {g k m : Nat} {f : Int} {l1 l2 L1 L2 : List ByteArray} {F2 o n : Int} {s : ByteArray} {d K : Nat} {W : World} (hF : (if f = 0 then fltS ⟨0, o, n, s, K⟩ else f) = F2) (h1 : (if (isVr o && !inL s l1) = true then l1 ++ [s] else l1) = L1) (h2 : (if (isAr o && !inL s l2) = true then l2 ++ [s] else l2) = L2)
    (h : Seen g ((k : Int) + 1) ((max m d : Nat) : Int) F2 L1 L2 W) : SeenF g k m f l1 l2 [⟨d, o, n, s, K⟩] W := by
  have st : ∀ (p : Int → Bool) (l : List ByteArray), sN p l [⟨d, o, n, s, K⟩] = if (p o && !inL s l) = true then l ++ [s] else l := fun p l => by
    show stepN p l ⟨d, o, n, s, K⟩ = _; unfold stepN addN inL; by_cases hp : p o = true
    · by_cases hm : s ∈ l
      · rw [if_pos hp, if_pos hm, if_neg]; simp [hp, hm]
      · rw [if_pos hp, if_neg hm, if_pos]; simp [hp, hm]
    · rw [if_neg hp, if_neg]; simp [hp]
  unfold SeenF; rw [st, st, h1, h2, mx_one]; have : fE f [⟨d, o, n, s, K⟩] = F2 := hF; rw [this]; exact h
end Go.Proofs.YtpejflgdehioaaaGreatDoor.ExW
namespace Go.Proofs.YtpejflgdehioaaaGreatDoor.ExW
open Go Go.RowKit Go.Proofs.YtpejflgdehioaaaGreatDoor.NumM Go.Proofs.YtpejflgdehioaaaGreatDoor.LexW Go.Proofs.YtpejflgdehioaaaGreatDoor.LexM Go.Proofs.YtpejflgdehioaaaGreatDoor.ExM
structure Mid (g : Nat) (k m f : Int) (l1 l2 : List ByteArray) (b4 : Nat) (o n : Int) (s : ByteArray) (x : Value) (W wx : World) : Prop where
  seen : Seen g k m f l1 l2 wx
  box : Box4 wx b4 o n s x
  far : g < b4
  turn : Turn g W wx
theorem Mid.later {g : Nat} {k m f : Int} {l1 l2 : List ByteArray} {b4 : Nat} {o n : Int} {s : ByteArray} {x : Value} {W wx wy : World} (h : Mid g k m f l1 l2 b4 o n s x W wx) (hg : g ≤ W.heap.size) (hb : Below wx.heap.size wx wy) : Mid g k m f l1 l2 b4 o n s x W wy :=
  ⟨h.seen.later hb, h.box.stay hb, h.far, h.turn.later hg hb⟩
end Go.Proofs.YtpejflgdehioaaaGreatDoor.ExW
namespace Go.Proofs.YtpejflgdehioaaaGreatDoor.ExW
open Go Go.RowKit Go.Proofs.YtpejflgdehioaaaGreatDoor.NumM Go.Proofs.YtpejflgdehioaaaGreatDoor.LexW Go.Proofs.YtpejflgdehioaaaGreatDoor.LexM Go.Proofs.YtpejflgdehioaaaGreatDoor.ExM
def SeenE (g : Nat) (e : Ex) (W : World) : Prop := Seen g (sz e) (dep e) (fstE (pre 1 e)) (namesL isVr (pre 1 e)) (namesL isAr (pre 1 e)) W
theorem SeenE.of {g : Nat} {e : Ex} {W : World} (h : SeenF g 0 0 0 [] [] (pre 1 e) W) : SeenE g e W := by
  unfold SeenF at h; have h1 := pre_mx e 1; have h2 := pre_len e 1; rw [show 0 + (pre 1 e).length = sz e by omega, show max 0 (mxL (pre 1 e)) = dep e by omega] at h; exact h
end Go.Proofs.YtpejflgdehioaaaGreatDoor.ExW
namespace Go.Proofs.YtpejflgdehioaaaGreatDoor.ItW
open Go Go.RowKit Go.Proofs.YtpejflgdehioaaaGreatDoor.NumM Go.Proofs.YtpejflgdehioaaaGreatDoor.LexW Go.Proofs.YtpejflgdehioaaaGreatDoor.LexM Go.Proofs.YtpejflgdehioaaaGreatDoor.ExM Go.Proofs.YtpejflgdehioaaaGreatDoor.ExW Go.Proofs.YtpejflgdehioaaaGreatDoor.ItM
theorem tInt_mk {n m : Int} {w w' : World} (h : n = m) (hb : Below w.heap.size w w') : tInt n w (.returned (.int .i64 m)) w' := by subst h; exact ⟨rfl, hb⟩
end Go.Proofs.YtpejflgdehioaaaGreatDoor.ItW
