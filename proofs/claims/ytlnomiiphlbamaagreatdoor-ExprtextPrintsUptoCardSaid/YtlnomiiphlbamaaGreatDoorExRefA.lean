/-
  The reference's small functions: named, asks, digit, Element, has, find, element.
-/
import Derived.Test.YtlnomiiphlbamaaGreatDoorExFault
namespace Go.Proofs.YtlnomiiphlbamaaGreatDoor.ExW
open Go Go.RowKit Go.Proofs.YtlnomiiphlbamaaGreatDoor.NumM Go.Proofs.YtlnomiiphlbamaaGreatDoor.LexW Go.Proofs.YtlnomiiphlbamaaGreatDoor.LexM Go.Proofs.YtlnomiiphlbamaaGreatDoor.ExM

theorem named_any (o : Int) (w : World) : Calls Tryz.prog 107 #[.int .i64 o] w fun e w' => e = .returned (.bool (isVr o || isAr o)) ∧ w = w' := by
  by_cases h2 : o = 2
  · subst h2
    go_enter Tryz.func107, Tryz.ntmps107
    go_wp2
    go_ret
    exact ⟨rfl, rfl⟩
  · by_cases h3 : o = 3
    · subst h3
      go_enter Tryz.func107, Tryz.ntmps107
      go_wp2
      go_ret
      exact ⟨rfl, rfl⟩
    · have e2 : (o == 2) = false := by rw [beq_eq_false_iff_ne]; exact h2
      have e3 : (o == 3) = false := by rw [beq_eq_false_iff_ne]; exact h3
      have EE : Hid ((isVr o || isAr o) = (o == 24)) := Lib.hid (by unfold isVr isAr; rw [decide_eq_false h2, decide_eq_false h3, Bool.eq_iff_iff]; simp)
      clear h2 h3
      go_enter Tryz.func107, Tryz.ntmps107
      go_wp2
      go_ret
      exact ⟨retb (by rw [EE.out]), rfl⟩
/-- A list of texts in memory. -/
def StrsA (w : World) (v : Value) (l : List ByteArray) : Prop :=
  ∃ p cap, v = .slice p l.length cap ∧ l.length ≤ cap ∧ (0 < l.length → ∃ b off, p = some ⟨b, off, none⟩ ∧ ∀ i s, l[i]? = some s → w.cell? ⟨b, off + i, none⟩ = some (.string s))
open Classical in
/-- Is it in the list? -/
noncomputable def inL (s : ByteArray) (l : List ByteArray) : Bool := decide (s ∈ l)
open Classical in
theorem inL_yes {s : ByteArray} {l : List ByteArray} {i : Nat} {t : ByteArray} (h : l[i]? = some t) (e : t.data.toList = s.data.toList) : inL s l = true := by
  unfold inL
  obtain rfl := bs_inj e
  exact decide_eq_true (List.mem_of_getElem? h)
open Classical in
theorem inL_no {s : ByteArray} {l : List ByteArray} (h : ∀ (i : Nat) t, i < l.length → l[i]? = some t → t.data.toList ≠ s.data.toList) : inL s l = false := by
  unfold inL
  refine decide_eq_false fun hm => ?_
  obtain ⟨i, hi, e⟩ := List.mem_iff_getElem.1 hm
  exact h i s hi (by rw [List.getElem?_eq_getElem hi, e]) rfl
set_option maxRecDepth 100000 in
set_option maxHeartbeats 2000000 in
theorem has_any (l : List ByteArray) (v : Value) (s : ByteArray) (w : World) (h : StrsA w v l) (hl : l.length ≤ 9000000) :
    Calls Tryz.prog 78 #[v, .string s] w fun e w' => e = .returned (.bool (inL s l)) ∧ w = w' := by
  obtain ⟨p, cap, rfl, hcap, hx⟩ := h
  have HX := Lib.hid hx
  clear hx hcap
  obtain ⟨n, hnn⟩ : ∃ n, l.length = n := ⟨_, rfl⟩
  have HN := Lib.hid hnn
  rw [hnn] at hl ⊢
  clear hnn
  go_enter Tryz.func78, Tryz.ntmps78
  go_wp2
  go_loop [5] (fun i => ∃ k : Nat, k ≤ n ∧ i = .int .i64 k ∧ Hid (∀ (j : Nat) t, j < k → l[j]? = some t → t.data.toList ≠ s.data.toList)) (fun i => n - (intOf i).toNat)
  case atStart => exact ⟨0, Nat.zero_le _, rfl, Lib.hid fun j _ h => by omega⟩
  case round =>
    obtain ⟨k, hk, rfl, NO⟩ := hrel
    by_cases hlt : k < n
    · obtain ⟨b, off, rfl, hcell⟩ := HX.out (by rw [HN.out]; omega)
      obtain ⟨y, hyk⟩ : ∃ y, l[k]? = some y := ⟨_, List.getElem?_eq_getElem (by rw [HN.out]; exact hlt)⟩
      have ca0 := hcell k y hyk
      have HY := Lib.hid hyk
      clear hcell hyk
      by_cases e : y.data.toList = s.data.toList
      · have e1 : (y.toList == s.toList) = true := by rw [Lib.toList_data, Lib.toList_data, e]; simp
        have EE := Lib.hid (inL_yes HY.out e)
        clear e
        go_wp2
        go_ret
        exact ⟨retb EE.out.symm, rfl⟩
      · have e1 : (y.toList == s.toList) = false := by rw [Lib.toList_data, Lib.toList_data]; simpa using e
        have NO2 : Hid (∀ (j : Nat) t, j < k + 1 → l[j]? = some t → t.data.toList ≠ s.data.toList) := Lib.hid fun j t hj ht => by
          rcases Nat.lt_or_ge j k with h | h
          · exact NO.out j t h ht
          · obtain rfl : j = k := by omega
            rw [HY.out] at ht; cases ht; exact e
        clear e
        go_wp2
        go_round
        case rel => exact ⟨k + 1, by omega, by go_num, NO2⟩
        case measure => simp [intOf]; omega
    · have EE := Lib.hid (inL_no (s := s) (l := l) (fun i t hi ht => NO.out i t (by rw [HN.out] at hi; omega) ht))
      go_wp2
      go_ret
      exact ⟨retb EE.out.symm, rfl⟩
end Go.Proofs.YtlnomiiphlbamaaGreatDoor.ExW
