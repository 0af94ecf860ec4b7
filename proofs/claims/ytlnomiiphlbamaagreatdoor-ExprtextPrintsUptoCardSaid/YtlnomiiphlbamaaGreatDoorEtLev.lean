/-
  What the tables say; levels of operators.
-/
import Derived.Test.YtlnomiiphlbamaaGreatDoorEtTab
import Derived.Test.YtlnomiiphlbamaaGreatDoorEtParse
namespace Go.Proofs.YtlnomiiphlbamaaGreatDoor.EtW
open Go Go.RowKit Go.Proofs.YtlnomiiphlbamaaGreatDoor.NumM Go.Proofs.YtlnomiiphlbamaaGreatDoor.LexW Go.Proofs.YtlnomiiphlbamaaGreatDoor.LexM Go.Proofs.YtlnomiiphlbamaaGreatDoor.ExM Go.Proofs.YtlnomiiphlbamaaGreatDoor.ExW Go.Proofs.YtlnomiiphlbamaaGreatDoor.EtM

theorem fstR_mark (x : List UInt8) : fstR (fun r => decide (r.1 = x)) = if (bT x).1 ≠ 0 then ((x, (bT x).1, (bT x).2.1, (bT x).2.2), true) else (zRow, false) := by
  by_cases h : x = [61, 62] ∨ x = [124, 124] ∨ x = [38, 38] ∨ x = [124] ∨ x = [94] ∨ x = [38] ∨ x = [61, 61] ∨ x = [33, 61] ∨ x = [60] ∨ x = [60, 61] ∨ x = [62] ∨ x = [62, 61] ∨ x = [60, 60] ∨ x = [62, 62] ∨ x = [43] ∨ x = [45] ∨ x = [42]
  · rcases h with rfl | rfl | rfl | rfl | rfl | rfl | rfl | rfl | rfl | rfl | rfl | rfl | rfl | rfl | rfl | rfl | rfl <;> rfl
  · simp only [not_or] at h
    obtain ⟨h1, h2, h3, h4, h5, h6, h7, h8, h9, h10, h11, h12, h13, h14, h15, h16, h17⟩ := h
    have e : bT x = (0, 0, false) := by
      unfold bT
      rw [if_neg h1, if_neg h2, if_neg h3, if_neg h4, if_neg h5, if_neg h6, if_neg h7, if_neg h8, if_neg h9, if_neg h10, if_neg h11, if_neg h12, if_neg h13, if_neg h14, if_neg h15, if_neg h16, if_neg h17]
    rw [e, if_neg (by decide)]
    have n : binRow.find? (fun r => decide (r.1 = x)) = none := by
      rw [List.find?_eq_none]
      intro y hy
      simp only [binRow, List.mem_cons, List.not_mem_nil, or_false] at hy
      rw [decide_eq_true_eq]
      rcases hy with rfl | rfl | rfl | rfl | rfl | rfl | rfl | rfl | rfl | rfl | rfl | rfl | rfl | rfl | rfl | rfl | rfl <;> (intro g; simp_all)
    unfold fstR
    rw [n]
theorem fstP_mark (x : List UInt8) : fstP (fun r => decide (r.1 = x)) = if pT x ≠ 0 then ((x, pT x), true) else (([], 0), false) := by
  by_cases h : x = [33] ∨ x = [126] ∨ x = [45]
  · rcases h with rfl | rfl | rfl <;> rfl
  · simp only [not_or] at h
    obtain ⟨h1, h2, h3⟩ := h
    have e : pT x = 0 := by
      unfold pT
      rw [if_neg h1, if_neg h2, if_neg h3]
    rw [e, if_neg (by decide)]
    have n : preRow.find? (fun r => decide (r.1 = x)) = none := by
      rw [List.find?_eq_none]
      intro y hy
      simp only [preRow, List.mem_cons, List.not_mem_nil, or_false] at hy
      rw [decide_eq_true_eq]
      rcases hy with rfl | rfl | rfl <;> (intro g; simp_all)
    unfold fstP
    rw [n]
theorem fstR_op (o : Int) : fstR (fun r => decide (r.2.2.1 = o) && !r.2.2.2) = if bLev o ≠ 0 then ((bMark o, bLev o, o, false), true) else (zRow, false) := by
  by_cases h : 7 ≤ o ∧ o ≤ 21
  · have : o = 7 ∨ o = 8 ∨ o = 9 ∨ o = 10 ∨ o = 11 ∨ o = 12 ∨ o = 13 ∨ o = 14 ∨ o = 15 ∨ o = 16 ∨ o = 17 ∨ o = 18 ∨ o = 19 ∨ o = 20 ∨ o = 21 := by omega
    rcases this with rfl | rfl | rfl | rfl | rfl | rfl | rfl | rfl | rfl | rfl | rfl | rfl | rfl | rfl | rfl <;> rfl
  · have e : bLev o = 0 := by
      unfold bLev
      rw [if_neg (by omega), if_neg (by omega), if_neg (by omega), if_neg (by omega), if_neg (by omega), if_neg (by omega), if_neg (by omega), if_neg (by omega), if_neg (by omega), if_neg (by omega), if_neg (by omega), if_neg (by omega), if_neg (by omega), if_neg (by omega), if_neg (by omega)]
    rw [e, if_neg (by decide)]
    have n : binRow.find? (fun r => decide (r.2.2.1 = o) && !r.2.2.2) = none := by
      rw [List.find?_eq_none]
      intro y hy
      simp only [binRow, List.mem_cons, List.not_mem_nil, or_false] at hy
      rw [Bool.and_eq_true, decide_eq_true_eq]
      rcases hy with rfl | rfl | rfl | rfl | rfl | rfl | rfl | rfl | rfl | rfl | rfl | rfl | rfl | rfl | rfl | rfl | rfl <;> (rintro ⟨g, _⟩; simp only at g; omega)
    unfold fstR
    rw [n]
theorem fstP_op (o : Int) : fstP (fun r => decide (r.2 = o)) = if o = 4 ∨ o = 5 ∨ o = 6 then ((pMark o, o), true) else (([], 0), false) := by
  by_cases h : o = 4 ∨ o = 5 ∨ o = 6
  · rcases h with rfl | rfl | rfl <;> rfl
  · rw [if_neg h]
    have n : preRow.find? (fun r => decide (r.2 = o)) = none := by
      rw [List.find?_eq_none]
      intro y hy
      simp only [preRow, List.mem_cons, List.not_mem_nil, or_false] at hy
      rw [decide_eq_true_eq]
      rcases hy with rfl | rfl | rfl <;> (intro g; simp only at g; omega)
    unfold fstP
    rw [n]
theorem gPow10 : Tryz.prog.globalNamed "internal/strconv.uint64pow10" = some 3 := by kernel_rfl
theorem TabE.later {w w' : World} (h : TabE w) (hb : Below w.heap.size w w') : TabE w' :=
  ⟨h.base.later hb, var_later gPow10 h.pow hb, h.bin.later hb, h.pre.later hb⟩
/-- No operator was found. -/
def tBin0 (w : World) (e : Ending) (w' : World) : Prop := e = .returned (.tuple #[.agg #[.string ⟨#[]⟩, .int .i64 0, .int .i64 0, .bool false], .bool false]) ∧ Below w.heap.size w w'
def tPre0 (w : World) (e : Ending) (w' : World) : Prop := e = .returned (.tuple #[.agg #[.string ⟨#[]⟩, .int .i64 0], .bool false]) ∧ Below w.heap.size w w'
theorem binFor_no (o : Int) (w : World) (ht : TabE w) (h : bLev o = 0) : Calls Tryz.prog 69 #[.int .i64 o] w (tBin0 w) := by
  have := binFor_any o w ht.bin
  rw [fstR_op, if_neg (by simpa using h)] at this
  exact this
theorem binFor_yes (o : Int) (w : World) (ht : TabE w) (h : bLev o ≠ 0) : Calls Tryz.prog 69 #[.int .i64 o] w (tBin (bMark o, bLev o, o, false) true w) := by
  have := binFor_any o w ht.bin
  rw [fstR_op, if_pos h] at this
  exact this
theorem preFor_no (o : Int) (w : World) (ht : TabE w) (h : ¬ (o = 4 ∨ o = 5 ∨ o = 6)) : Calls Tryz.prog 70 #[.int .i64 o] w (tPre0 w) := by
  have := preFor_any o w ht.pre
  rw [fstP_op, if_neg h] at this
  exact this
theorem preFor_yes (o : Int) (w : World) (ht : TabE w) (h : o = 4 ∨ o = 5 ∨ o = 6) : Calls Tryz.prog 70 #[.int .i64 o] w (tPre (pMark o, o) true w) := by
  have := preFor_any o w ht.pre
  rw [fstP_op, if_pos h] at this
  exact this
theorem binMarked_no (x : ByteArray) (w : World) (ht : TabE w) (h : (bT x.data.toList).1 = 0) : Calls Tryz.prog 88 #[.string x] w (tBin0 w) := by
  have := binMarked_any x w ht.bin
  rw [fstR_mark, if_neg (by simpa using h)] at this
  exact this
theorem binMarked_yes (x : ByteArray) (w : World) (ht : TabE w) (h : (bT x.data.toList).1 ≠ 0) : Calls Tryz.prog 88 #[.string x] w (tBin (x.data.toList, bT x.data.toList) true w) := by
  have := binMarked_any x w ht.bin
  rw [fstR_mark, if_pos h] at this
  exact this
theorem preMarked_no (x : ByteArray) (w : World) (ht : TabE w) (h : pT x.data.toList = 0) : Calls Tryz.prog 114 #[.string x] w (tPre0 w) := by
  have := preMarked_any x w ht.pre
  rw [fstP_mark, if_neg (by simpa using h)] at this
  exact this
theorem preMarked_yes (x : ByteArray) (w : World) (ht : TabE w) (h : pT x.data.toList ≠ 0) : Calls Tryz.prog 114 #[.string x] w (tPre (x.data.toList, pT x.data.toList) true w) := by
  have := preMarked_any x w ht.pre
  rw [fstP_mark, if_pos h] at this
  exact this
theorem levels_any (k : Int) (w : World) (h0 : 0 ≤ k) (h1 : k ≤ 100) : Calls Tryz.prog 74 #[.int .i64 k] w fun e w' => e = .returned (.tuple #[.int .i64 (if k = 2 then 3 else k), .int .i64 (if k = 2 then 2 else k + 1)]) ∧ w = w' := by
  by_cases h : k = 2
  · subst h
    go_enter Tryz.func74, Tryz.ntmps74
    go_wp2
    go_ret2
    exact ⟨rfl, rfl⟩
  · have e1 : (k == 2) = false := by rw [beq_eq_false_iff_ne]; exact h
    have E : Hid ((if k = 2 then (3 : Int) else k) = k ∧ (if k = 2 then (2 : Int) else k + 1) = k + 1) := Lib.hid ⟨if_neg h, if_neg h⟩
    rw [E.out.1, E.out.2]
    clear h E
    go_enter Tryz.func74, Tryz.ntmps74
    go_wp2
    go_ret2
    exact ⟨rfl, rfl⟩
set_option maxRecDepth 100000 in
set_option maxHeartbeats 4000000 in
theorem levelOf_any (o : Int) (w : World) (ht : TabE w) : Calls Tryz.prog 34 #[.int .i64 o] w fun e w' => e = .returned (.int .i64 (lvS o)) ∧ Below w.heap.size w w' := by
  by_cases h22 : o = 22
  · subst h22
    go_enter Tryz.func34, Tryz.ntmps34
    go_wp2
    go_ret
    exact ⟨rfl, Below.refl _ _⟩
  by_cases h23 : o = 23
  · subst h23
    go_enter Tryz.func34, Tryz.ntmps34
    go_wp2
    go_ret
    exact ⟨rfl, Below.refl _ _⟩
  have e22 : (o == 22) = false := by rw [beq_eq_false_iff_ne]; exact h22
  have e23 : (o == 23) = false := by rw [beq_eq_false_iff_ne]; exact h23
  by_cases hb : bLev o = 0
  · have BC := Lib.hid (binFor_no o w ht hb)
    have HB1 : Hid (∀ w1, Below w.heap.size w w1 → Below w.heap.size w (w1.alloc (.cells #[.string ⟨#[]⟩, .int .i64 0, .int .i64 0, .bool false] 90))) := Lib.hid fun w1 h => h.alloc h.size _
    by_cases hp : o = 4 ∨ o = 5 ∨ o = 6
    · have EE : Hid (lvS o = 13) := Lib.hid (by unfold lvS; rw [if_neg h22, if_neg h23, if_neg (by simpa using hb), if_pos hp])
      have PC : Hid (∀ W, Below w.heap.size w W → Calls Tryz.prog 70 #[.int .i64 o] W (tPre (pMark o, o) true W)) := Lib.hid fun W hW => preFor_yes o W (ht.later hW) hp
      clear hp h22 h23 hb ht
      generalize lvS o = l at *
      generalize bs (pMark o) = m at *
      go_enter Tryz.func34, Tryz.ntmps34
      go_wp2_with (first
        | (go_at_call 69; ((with_reducible refine BC.out.mono ?_); rintro e w1 ⟨rfl, hb⟩; have HW1 := Lib.hid (HB1.out _ hb); clear hb))
        | (go_at_call 70; ((with_reducible refine (PC.out _ HW1.out).mono ?_); rintro e w2 ⟨rfl, hb⟩; have HW2 := Lib.hid (HW1.out.then_ hb); clear hb)))
      go_ret
      rw [EE.out]
      exact ⟨rfl, HW2.out.alloc HW2.out.size _⟩
    · have EE : Hid (lvS o = 14) := Lib.hid (by unfold lvS; rw [if_neg h22, if_neg h23, if_neg (by simpa using hb), if_neg hp])
      have PC : Hid (∀ W, Below w.heap.size w W → Calls Tryz.prog 70 #[.int .i64 o] W (tPre0 W)) := Lib.hid fun W hW => preFor_no o W (ht.later hW) hp
      clear hp h22 h23 hb ht
      generalize lvS o = l at *
      go_enter Tryz.func34, Tryz.ntmps34
      go_wp2_with (first
        | (go_at_call 69; ((with_reducible refine BC.out.mono ?_); rintro e w1 ⟨rfl, hb⟩; have HW1 := Lib.hid (HB1.out _ hb); clear hb))
        | (go_at_call 70; ((with_reducible refine (PC.out _ HW1.out).mono ?_); rintro e w2 ⟨rfl, hb⟩; have HW2 := Lib.hid (HW1.out.then_ hb); clear hb)))
      go_ret
      rw [EE.out]
      exact ⟨rfl, HW2.out.alloc HW2.out.size _⟩
  · have BC := Lib.hid (binFor_yes o w ht hb)
    have EE : Hid (lvS o = bLev o) := Lib.hid (by unfold lvS; rw [if_neg h22, if_neg h23, if_pos hb])
    clear hb h22 h23 ht
    rw [EE.out]
    clear EE
    generalize bLev o = l at *
    generalize bs (bMark o) = m at *
    go_enter Tryz.func34, Tryz.ntmps34
    go_wp2_with (go_at_call 69; ((with_reducible refine BC.out.mono ?_); rintro e w1 ⟨rfl, hb⟩; have HW1 := Lib.hid hb; clear hb))
    go_ret
    exact ⟨rfl, HW1.out.alloc HW1.out.size _⟩
end Go.Proofs.YtlnomiiphlbamaaGreatDoor.EtW
