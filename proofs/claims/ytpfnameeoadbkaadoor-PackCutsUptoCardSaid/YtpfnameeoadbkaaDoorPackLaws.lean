/-
  The laws PackTexts, PackNumbers, PackLists and PackPacks, walked.
-/
import Derived.Test.YtpfnameeoadbkaaDoorPackAwake
namespace Go.Proofs.YtpfnameeoadbkaaDoor.PackW
open Go Go.RowKit Go.Proofs.YtpfnameeoadbkaaDoor.NumM Go.Proofs.YtpfnameeoadbkaaDoor.PackM

set_option maxHeartbeats 400000 in
theorem packTexts_any (s : ByteArray) (k : Int) (w : World) (hs : s.size ≤ 140737488351232) (h0 : -9223372036854775808 ≤ k) (h1 : k ≤ 9223372036854775807) (ht : Tab w) :
    Calls Tryd.prog 4 #[.string s, .int .i64 k] w fun e w' => e = .returned (.bool true) ∧ Below w.heap.size w w' := by
  have HT := Lib.hid ht
  clear ht
  by_cases hk : k < 0 ∨ s.size < k
  · go_enter Tryd.func4, Tryd.ntmps4
    have HK := Lib.hid hk
    clear hk
    go_wp2_with (first
      | (go_at_call 18; refine (takeText_out s k _ h0 h1 HK.out).mono ?_; rintro e w1 ⟨rfl, rfl⟩)
      | (go_at_call 19; refine (refText_out s k _ h0 h1 HK.out).mono ?_; rintro e w1 ⟨rfl, rfl⟩)
      | (go_at_call 17; refine (awake_any _ HT.out).mono ?_; rintro e w2 ⟨rfl, hb2⟩)
      | go_in)
    go_ret
    exact ⟨rfl, by assumption⟩
  · obtain ⟨j, rfl⟩ : ∃ j : Nat, k = j := ⟨k.toNat, by omega⟩
    have hj : j ≤ s.size := by omega
    clear hk
    go_enter Tryd.func4, Tryd.ntmps4
    go_wp2_with (first
      | (go_at_call 18; refine (takeText_in s j _ hs hj HT.out).mono ?_; rintro e w1 ⟨rfl, hb1⟩; have HT1 := Lib.hid (HT.out.later hb1))
      | (go_at_call 19; refine (refText_in s j _ hs hj).mono ?_; rintro e w2 ⟨rfl, rfl⟩)
      | (go_at_call 17; refine (awake_any _ HT1.out).mono ?_; rintro e w2 ⟨rfl, hb2⟩)
      | go_in)
    go_ret
    exact ⟨rfl, hb1.trans (hb2.mono hb1.size)⟩
set_option maxHeartbeats 400000 in
theorem packNumbers_any (s : ByteArray) (k : Int) (w : World) (hs : s.size ≤ 140737488351232) (h0 : -9223372036854775808 ≤ k) (h1 : k ≤ 9223372036854775807) (ht : Tab w) :
    Calls Tryd.prog 5 #[.string s, .int .i64 k] w fun e w' => e = .returned (.bool true) ∧ Below w.heap.size w w' := by
  have HT := Lib.hid ht
  clear ht
  by_cases hk : k < 0 ∨ s.size < k
  · go_enter Tryd.func5, Tryd.ntmps5
    have HK := Lib.hid hk
    clear hk
    go_wp2_with (first
      | (go_at_call 20; refine (takeNum_out s k _ h0 h1 HK.out).mono ?_; rintro e w1 ⟨rfl, rfl⟩)
      | (go_at_call 21; refine (refNum_out s k _ h0 h1 HK.out).mono ?_; rintro e w1 ⟨rfl, rfl⟩)
      | (go_at_call 17; refine (awake_any _ HT.out).mono ?_; rintro e w2 ⟨rfl, hb2⟩)
      | go_in)
    go_ret
    exact ⟨rfl, by assumption⟩
  · obtain ⟨j, rfl⟩ : ∃ j : Nat, k = j := ⟨k.toNat, by omega⟩
    have hj : j ≤ s.size := by omega
    clear hk
    go_enter Tryd.func5, Tryd.ntmps5
    go_wp2_with (first
      | (go_at_call 20; refine (takeNum_in s j _ hs hj HT.out).mono ?_; rintro e w1 ⟨rfl, hb1⟩; have HT1 := Lib.hid (HT.out.later hb1))
      | (go_at_call 21; refine (refNum_in s j _ hs hj).mono ?_; rintro e w2 ⟨rfl, rfl⟩)
      | (go_at_call 17; refine (awake_any _ HT1.out).mono ?_; rintro e w2 ⟨rfl, hb2⟩)
      | go_in)
    go_ret
    exact ⟨rfl, hb1.trans (hb2.mono hb1.size)⟩
set_option maxHeartbeats 400000 in
theorem takeList_out (s : ByteArray) (k most : Int) (w : World) (h0 : -9223372036854775808 ≤ k) (h1 : k ≤ 9223372036854775807) (_hm0 : -9223372036854775808 ≤ most) (_hm1 : most ≤ 9223372036854775807) (hk : most < 0 ∨ k < 0 ∨ s.size < k) :
    Calls Tryd.prog 22 #[.string s, .int .i64 k, .int .i64 most] w fun e w' => e = .returned (.tuple #[.slice none 0 0, .int .i64 0, .int .i64 1]) ∧ w = w' := by
  by_cases hm : most < 0
  · clear hk
    go_enter Tryd.func22, Tryd.ntmps22
    go_wp2_with (fail)
    go_ret3
    exact ⟨rfl, rfl⟩
  · have HK : Hid (k < 0 ∨ s.size < k) := Lib.hid (by rcases hk with x | x; exact absurd x hm; exact x)
    clear hk
    go_enter Tryd.func22, Tryd.ntmps22
    go_wp2_with (first | (go_at_call 20; refine (takeNum_out s k _ h0 h1 HK.out).mono ?_; rintro e w1 ⟨rfl, rfl⟩) | go_in)
    go_ret3
    exact ⟨rfl, rfl⟩
set_option maxHeartbeats 400000 in
theorem refList_out (s : ByteArray) (k most : Int) (w : World) (_h0 : -9223372036854775808 ≤ k) (_h1 : k ≤ 9223372036854775807) (_hm0 : -9223372036854775808 ≤ most) (_hm1 : most ≤ 9223372036854775807) (hk : most < 0 ∨ k < 0 ∨ s.size < k) :
    Calls Tryd.prog 23 #[.string s, .int .i64 k, .int .i64 most] w fun e w' => e = .returned (.tuple #[.slice none 0 0, .int .i64 0, .int .i64 1]) ∧ w = w' := by
  by_cases hk1 : k < 0
  · clear hk
    go_enter Tryd.func23, Tryd.ntmps23
    go_wp2_with (fail)
    go_ret3
    exact ⟨rfl, rfl⟩
  · by_cases hk2 : (s.size : Int) < k
    · clear hk
      go_enter Tryd.func23, Tryd.ntmps23
      go_wp2_with (fail)
      go_ret3
      exact ⟨rfl, rfl⟩
    · have hm : most < 0 := by omega
      clear hk
      go_enter Tryd.func23, Tryd.ntmps23
      go_wp2_with (fail)
      go_ret3
      exact ⟨rfl, rfl⟩
theorem lx_len {s : ByteArray} {k : Nat} {most : Int} (hk : k ≤ s.size) (hs : s.size ≤ 140737488351232) : (lx s k most).1.length ≤ 140737488351232 := by
  by_cases h : (lx s k most).2.2 = 0
  · obtain ⟨q, e, _, _⟩ := listL_ok h
    have hl := congrArg List.length e
    rw [drop_len, List.length_append] at hl
    have h2 : ∀ xs : List (List UInt8), xs.length ≤ ((xs.map textP).flatten).length := by
      intro xs
      induction xs with
      | nil => simp
      | cons x r ih =>
        have := textP_two x
        simp only [List.map_cons, List.flatten_cons, List.length_cons, List.length_append]; omega
    have h3 := h2 (lx s k most).1
    have h4 : (listP (lx s k most).1).length = (numP (lx s k most).1.length).length + (((lx s k most).1.map textP).flatten).length := by unfold listP; rw [List.length_append]
    have h5 : (listL (s.data.toList.drop k) most k).1 = (lx s k most).1 := rfl
    rw [h5] at hl
    omega
  · have : (lx s k most).1 = [] := by
      have hta : ∀ (n : Nat) (r : List UInt8) (acc : List (List UInt8)) (c : Nat), ¬ (textsA n r acc c).2.2 = 0 → (textsA n r acc c).1 = [] := by
        intro n
        induction n with
        | zero => intro r acc c h; exact absurd rfl h
        | succ n ih =>
          intro r acc c h
          rw [textsA] at h ⊢
          by_cases h0 : (textL r).2.2 = 0
          · rw [if_pos h0] at h ⊢; exact ih _ _ _ h
          · rw [if_neg h0]
      unfold lx listL at h ⊢
      by_cases h0 : (numL (s.data.toList.drop k)).2.2 = 0
      · rw [if_pos h0] at h ⊢
        by_cases h1 : (numL (s.data.toList.drop k)).1 < 0
        · rw [if_pos h1]
        · rw [if_neg h1] at h ⊢
          by_cases h2 : most < (numL (s.data.toList.drop k)).1
          · rw [if_pos h2]
          · rw [if_neg h2] at h ⊢
            exact hta _ _ _ _ h
      · rw [if_neg h0]
    rw [this]; simp
set_option maxHeartbeats 400000 in
theorem packLists_any (s : ByteArray) (k most : Int) (w : World) (hs : s.size ≤ 1048576) (h0 : -9223372036854775808 ≤ k) (h1 : k ≤ 9223372036854775807) (hm0 : -9223372036854775808 ≤ most) (hm1 : most ≤ 9223372036854775807) (ht : Tab w) :
    Calls Tryd.prog 6 #[.string s, .int .i64 k, .int .i64 most] w fun e w' => e = .returned (.bool true) ∧ Below w.heap.size w w' := by
  have HT := Lib.hid ht
  clear ht
  by_cases hk : most < 0 ∨ k < 0 ∨ s.size < k
  · have HK := Lib.hid hk
    clear hk
    go_enter Tryd.func6, Tryd.ntmps6
    go_wp2_with (first
      | (go_at_call 22; refine (takeList_out s k most _ h0 h1 hm0 hm1 HK.out).mono ?_; rintro e w1 ⟨rfl, rfl⟩)
      | (go_at_call 23; refine (refList_out s k most _ h0 h1 hm0 hm1 HK.out).mono ?_; rintro e w1 ⟨rfl, rfl⟩)
      | (go_at_call 24; refine (same_any w _ _ [] (strs_nil _) (strs_nil _) (by decide)).mono ?_; rintro e w1 ⟨rfl, hb1⟩; have HT1 := Lib.hid (HT.out.later hb1))
      | (go_at_call 17; refine (awake_any _ HT1.out).mono ?_; rintro e w2 ⟨rfl, hb2⟩)
      | go_in)
    go_ret
    exact ⟨rfl, hb1.trans (hb2.mono hb1.size)⟩
  · obtain ⟨j, rfl⟩ : ∃ j : Nat, k = j := ⟨k.toNat, by omega⟩
    have hj : j ≤ s.size := by omega
    have hmost : 0 ≤ most := by omega
    have hs2 : s.size ≤ 140737488351232 := by omega
    have LL := Lib.hid (lx_len (most := most) hj hs2)
    clear hk
    go_enter Tryd.func6, Tryd.ntmps6
    go_wp2_with (first
      | (go_at_call 22; refine (takeList_in s j most _ hs2 hj hmost hm1 (.inl hs) HT.out).mono ?_; rintro e w1 ⟨v1, rfl, hv1, hb1⟩; have HV1 := Lib.hid hv1; clear hv1; have HT1 := Lib.hid (HT.out.later hb1))
      | (go_at_call 23; refine (refList_in s j most _ hs2 hj hmost hm1 (.inl hs)).mono ?_; rintro e w2 ⟨v2, rfl, hv2, hb2⟩; have HV2 := Lib.hid hv2; clear hv2; have HT2 := Lib.hid (HT1.out.later hb2))
      | (go_at_call 24; refine (same_any w2 v1 v2 _ (HV1.out.later hb2) HV2.out (by have := LL.out; omega)).mono ?_; rintro e w3 ⟨rfl, hb3⟩; have HT3 := Lib.hid (HT2.out.later hb3))
      | (go_at_call 17; refine (awake_any _ HT3.out).mono ?_; rintro e w4 ⟨rfl, hb4⟩)
      | go_in)
    go_ret
    have b2 := hb1.trans (hb2.mono hb1.size)
    have b3 := b2.trans (hb3.mono b2.size)
    exact ⟨rfl, b3.trans (hb4.mono b3.size)⟩

theorem listP_len {ys : List (List UInt8)} {M : Nat} (h : ∀ y ∈ ys, y.length ≤ M) (hM : M ≤ 1048576) (hn : ys.length ≤ 1000000) : (listP ys).length ≤ 21 + ys.length * 1048597 := by
  have h2 : ∀ xs : List (List UInt8), (∀ y ∈ xs, y.length ≤ M) → ((xs.map textP).flatten).length ≤ xs.length * 1048597 := by
    intro xs
    induction xs with
    | nil => simp
    | cons x r ih =>
      intro hx
      have i := ih (fun y hy => hx y (by simp [hy]))
      have l := hx x (by simp)
      have t : (textP x).length ≤ 20 + 1 + x.length := by
        unfold textP
        have := itoa_len (n := (x.length : Int)) (by omega) (by omega)
        rw [List.length_append, List.length_cons]; omega
      simp only [List.map_cons, List.flatten_cons, List.length_append, List.length_cons]
      omega
  have n : (numP ys.length).length ≤ 21 := by
    unfold numP
    have := itoa_len (n := (ys.length : Int)) (by omega) (by omega)
    rw [List.length_append]; simp; omega
  have i := h2 ys h
  unfold listP
  rw [List.length_append]; omega
theorem take30 {ys : List (List UInt8)} (h : ∀ y ∈ ys, y.length ≤ 1048576) : (ys.take 30).length ≤ 30 ∧ (listP (ys.take 30)).length ≤ 33554432 ∧ ∀ y ∈ ys.take 30, y.length ≤ 1048576 := by
  have h1 : (ys.take 30).length ≤ 30 := by rw [List.length_take]; omega
  have h2 : ∀ y ∈ ys.take 30, y.length ≤ 1048576 := fun y hy => h y (List.mem_of_mem_take hy)
  have h3 := listP_len h2 (Nat.le_refl _) (by omega)
  exact ⟨h1, by omega, h2⟩
set_option maxHeartbeats 400000 in
theorem packPacks_any (s : ByteArray) (n : Int) (v : Value) (ys : List (List UInt8)) (w : World) (hs : s.size ≤ 1048576) (h0 : -9223372036854775808 ≤ n) (h1 : n ≤ 9223372036854775807) (hv : StrsAt w v ys)
    (hy : ∀ y ∈ ys, y.length ≤ 1048576) (hl : ys.length ≤ 1048576) (ht : Tab w) :
    Calls Tryd.prog 3 #[.string s, .int .i64 n, v] w fun e w' => e = .returned (.bool true) ∧ Below w.heap.size w w' := by
  have HT := Lib.hid ht
  have HV := Lib.hid hv
  have HZ := Lib.hid (take30 hy)
  have hs2 : s.size ≤ 140737488351232 := by omega
  have HL := Lib.hid hl
  clear ht hv hy hl
  go_enter Tryd.func3, Tryd.ntmps3
  go_wp2_with (first
    | (go_at_call 10; refine (cut_any _ v ys HV.out (by have := HL.out; omega)).mono ?_; rintro e wc ⟨z, rfl, hz, rfl⟩; have HZ2 := Lib.hid hz; clear hz)
    | (go_at_call 11; refine (text_any s _ hs2 HT.out).mono ?_; rintro e w1 ⟨rfl, hb1⟩; have HT1 := Lib.hid (HT.out.later hb1))
    | (go_at_call 12; refine (refText_any s _ hs2).mono ?_; rintro e w2 ⟨rfl, hb2⟩; have HT2 := Lib.hid (HT1.out.later hb2))
    | (go_at_call 13; refine (number_any n _ h0 h1 HT2.out).mono ?_; rintro e w3 ⟨rfl, hb3⟩; have HT3 := Lib.hid (HT2.out.later hb3))
    | (go_at_call 14; refine (refNumber_any n _ h0 h1).mono ?_; rintro e w4 ⟨rfl, hb4⟩; have HT4 := Lib.hid (HT3.out.later hb4); have HZ4 := Lib.hid ((((HZ2.out.later hb1).later hb2).later hb3).later hb4))
    | (go_at_call 15; refine (list_any _ z _ HZ4.out (fun y h => by have := HZ.out.2.2 y h; omega) (by have := HZ.out.1; omega) (by have := HZ.out.2.1; omega) HT4.out).mono ?_; rintro e w5 ⟨rfl, hb5⟩; have HT5 := Lib.hid (HT4.out.later hb5))
    | (go_at_call 16; refine (refList_any _ z _ (HZ4.out.later hb5) (fun y h => by have := HZ.out.2.2 y h; omega) (by have := HZ.out.1; omega) (by have := HZ.out.2.1; omega)).mono ?_; rintro e w6 ⟨rfl, hb6⟩; have HT6 := Lib.hid (HT5.out.later hb6))
    | (go_at_call 17; refine (awake_any _ HT6.out).mono ?_; rintro e w7 ⟨rfl, hb7⟩)
    | go_in)
  go_ret
  have b2 := hb1.trans (hb2.mono hb1.size)
  have b3 := b2.trans (hb3.mono b2.size)
  have b4 := b3.trans (hb4.mono b3.size)
  have b5 := b4.trans (hb5.mono b4.size)
  have b6 := b5.trans (hb6.mono b5.size)
  exact ⟨rfl, b6.trans (hb7.mono b6.size)⟩
end Go.Proofs.YtpfnameeoadbkaaDoor.PackW
