/-
  The law on texts, walked: whatever the string and the number, the call returns true, in a world in which nothing that was there has turned.
-/
import Derived.Test.YtdibcmcjnhhbgaaDoorNumRefText
import Derived.Test.YtdibcmcjnhhbgaaDoorNumAwake
namespace Go.Proofs.YtdibcmcjnhhbgaaDoor.NumW
open Go Go.RowKit Go.Proofs.YtdibcmcjnhhbgaaDoor.NumM

theorem parseS_in (l : List UInt8) : -9223372036854775808 ≤ (parseS l).1 ∧ (parseS l).1 ≤ 9223372036854775807 := by
  unfold parseS
  split
  · cases h : okI (valS l)
    · rw [lim_no h]; decide
    · rw [lim_ok h]; exact okI_iff.1 h
  · decide
theorem parseS_back {s : ByteArray} (h : (parseS s.data.toList).2 = 0) : (⟨(Lib.itoa (parseS s.data.toList).1).toArray⟩ : ByteArray) = s := by
  have hd : isDec s.data.toList = true := by
    cases g : isDec s.data.toList
    · rw [parseS, g] at h; cases h
    · rfl
  have ho : okI (valS s.data.toList) = true := by
    cases g : okI (valS s.data.toList)
    · rw [parseS, hd, if_pos rfl, lim_no g] at h; cases h
    · rfl
  rw [parseS, hd, if_pos rfl, lim_ok ho]
  show (⟨(Lib.itoa (valS s.data.toList)).toArray⟩ : ByteArray) = s
  rw [itoa_back hd]
theorem parseS_itoa {n : Int} (h0 : -9223372036854775808 ≤ n) (h1 : n ≤ 9223372036854775807) : parseS (⟨(Lib.itoa n).toArray⟩ : ByteArray).data.toList = (n, 0) := by
  show parseS (Lib.itoa n).toArray.toList = (n, 0)
  rw [List.toList_toArray]
  have d := itoa_dec n
  rw [parseS, d.1, if_pos rfl, d.2, lim_ok (okI_iff.2 ⟨h0, h1⟩)]
theorem itoa_size {n : Int} (h0 : -9223372036854775808 ≤ n) (h1 : n ≤ 9223372036854775807) : (⟨(Lib.itoa n).toArray⟩ : ByteArray).size ≤ 1000 := by
  have := Lib.itoa_length_le n h0 h1
  show (Lib.itoa n).toArray.size ≤ 1000
  simp; omega

set_option maxHeartbeats 1000000 in
theorem texts_any (s : ByteArray) (n : Int) (w : World) (n0 : -9223372036854775808 ≤ n) (n1 : n ≤ 9223372036854775807) (h : Tab w) :
    Calls Tryd.prog 9 #[.string s, .int .i64 n] w fun e w' => e = .returned (.bool true) ∧ Below w.heap.size w w' := by
  have T := Lib.hid h
  clear h
  by_cases hl : s.size ≤ 60
  · go_enter Tryd.func9, Tryd.ntmps9
    go_wp2_with fail
    obtain ⟨tp, p, hr⟩ := T.out.range
    refine (parseCode_any s _ (by omega) tp p hr).mono ?_
    rintro e W1 ⟨rfl, hb1⟩
    have HB1 := Lib.hid hb1
    have T1 := Lib.hid (T.out.later hb1)
    clear hb1 hr
    go_wp2_with fail
    refine (parseRef_any s _ (by omega)).mono ?_
    rintro e w' ⟨rfl, rfl⟩
    go_wp2_with fail
    refine (formatCode_any n _ n0 n1 T1.out.pow10).mono ?_
    rintro e W2 ⟨rfl, hb2⟩
    have HB2 := Lib.hid (HB1.out.trans (hb2.mono HB1.out.size))
    have T2 := Lib.hid (T1.out.later hb2)
    clear hb2
    go_wp2_with fail
    obtain ⟨tp2, p2, hr2⟩ := T2.out.range
    refine (parseCode_any _ _ (itoa_size n0 n1) tp2 p2 hr2).mono ?_
    rintro e W3 ⟨rfl, hb3⟩
    have HB3 := Lib.hid (HB2.out.trans (hb3.mono HB2.out.size))
    have T3 := Lib.hid (T2.out.later hb3)
    clear hb3 hr2
    rw [parseS_itoa n0 n1]
    by_cases he : (parseS s.data.toList).2 = 0
    · go_wp2_with fail
      refine (formatCode_any _ _ (parseS_in _).1 (parseS_in _).2 T3.out.pow10).mono ?_
      rintro e W4 ⟨rfl, hb4⟩
      have HB4 := Lib.hid (HB3.out.trans (hb4.mono HB3.out.size))
      have T4 := Lib.hid (T3.out.later hb4)
      clear hb4
      rw [parseS_back he]
      go_wp2_with fail
      refine (formatRef_any n _ n0 n1).mono ?_
      rintro e W5 ⟨rfl, hb5⟩
      have HB5 := Lib.hid (HB4.out.trans (hb5.mono HB4.out.size))
      have T5 := Lib.hid (T4.out.later hb5)
      clear hb5
      go_wp2_with fail
      refine (awake_any _ T5.out).mono ?_
      rintro e W6 ⟨rfl, hb6⟩
      have HB6 := Lib.hid (HB5.out.trans (hb6.mono HB5.out.size))
      clear hb6
      go_wp2_with fail
      go_ret
      exact ⟨rfl, HB6.out⟩
    · have he' : ((parseS s.data.toList).2 == 0) = false := by simpa using he
      go_wp2_with fail
      refine (formatRef_any n _ n0 n1).mono ?_
      rintro e W5 ⟨rfl, hb5⟩
      have HB5 := Lib.hid (HB3.out.trans (hb5.mono HB3.out.size))
      have T5 := Lib.hid (T3.out.later hb5)
      clear hb5
      go_wp2_with fail
      refine (awake_any _ T5.out).mono ?_
      rintro e W6 ⟨rfl, hb6⟩
      have HB6 := Lib.hid (HB5.out.trans (hb6.mono HB5.out.size))
      clear hb6
      go_wp2_with fail
      go_ret
      exact ⟨rfl, HB6.out⟩
  · go_enter Tryd.func9, Tryd.ntmps9
    go_wp2_with fail
    refine (awake_any _ T.out).mono ?_
    rintro e W1 ⟨rfl, hb1⟩
    have HB1 := Lib.hid hb1
    clear hb1
    go_wp2_with fail
    go_ret
    exact ⟨rfl, HB1.out⟩
end Go.Proofs.YtdibcmcjnhhbgaaDoor.NumW
