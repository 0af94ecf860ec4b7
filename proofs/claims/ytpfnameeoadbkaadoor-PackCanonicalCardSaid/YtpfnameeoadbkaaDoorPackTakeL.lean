/-
  What TakeList returns, in package pack and in its reference.
-/
import Derived.Test.YtpfnameeoadbkaaDoorPackLst
import Derived.Test.YtpfnameeoadbkaaDoorPackRefNum
namespace Go.Proofs.YtpfnameeoadbkaaDoor.PackW
open Go Go.RowKit Go.Proofs.YtpfnameeoadbkaaDoor.NumM Go.Proofs.YtpfnameeoadbkaaDoor.PackM

/-- The list at an offset: what is taken, the offset behind it, the error. -/
def lx (s : ByteArray) (k : Nat) (most : Int) : List (List UInt8) × Nat × Int := listL (s.data.toList.drop k) most k
def lxO (s : ByteArray) (k : Nat) (most : Int) : Int := if (lx s k most).2.2 = 0 then ((lx s k most).2.1 : Int) else 0
def tList (s : ByteArray) (k : Nat) (most : Int) (w : World) (e : Ending) (w' : World) : Prop :=
  ∃ v, e = .returned (.tuple #[v, .int .i64 (lxO s k most), .int .i64 (lx s k most).2.2]) ∧ StrsAt w' v (lx s k most).1 ∧ Below w.heap.size w w'
theorem strs_nil (w : World) : StrsAt w (.slice none 0 0) [] := ⟨none, 0, rfl, Nat.le_refl _, fun x => absurd rfl x⟩
theorem retl {v : Value} {a b c d : Int} (h : (a, b) = (c, d)) : Ending.returned (.tuple #[v, .int .i64 a, .int .i64 b]) = Ending.returned (.tuple #[v, .int .i64 c, .int .i64 d]) := by cases h; rfl
theorem tl_fail {s : ByteArray} {k : Nat} {most : Int} {w w' : World} {v : Int} (h : lx s k most = ([], 0, v)) (hv : ¬ v = 0) (hb : Below w.heap.size w w') :
    tList s k most w (.returned (.tuple #[.slice none 0 0, .int .i64 0, .int .i64 v])) w' := by
  refine ⟨.slice none 0 0, ?_, ?_, hb⟩
  · refine retl ?_
    unfold lxO
    rw [h, if_neg hv]
  · rw [h]; exact strs_nil w'
theorem tl_done {s : ByteArray} {k c : Nat} {most : Int} {w w' : World} {v : Value} {acc : List (List UInt8)} (h : lx s k most = (acc, c, 0)) (hs : StrsAt w' v acc) (hb : Below w.heap.size w w') :
    tList s k most w (.returned (.tuple #[v, .int .i64 c, .int .i64 0])) w' := by
  refine ⟨v, ?_, ?_, hb⟩
  · refine retl ?_
    unfold lxO
    rw [h, if_pos rfl]
  · rw [h]; exact hs
theorem nx_size {s : ByteArray} {k : Nat} (hk : k ≤ s.size) (h : (nx s k).2.2 = 0) : ∃ c : Nat, nxO s k = c ∧ k + (nx s k).2.1 = c ∧ c ≤ s.size ∧ -9223372036854775808 ≤ (nx s k).1 ∧ (nx s k).1 ≤ 9223372036854775807 := by
  obtain ⟨q, e, l, h0, h1⟩ := numL_ok h
  have hl := congrArg List.length e
  rw [drop_len, List.length_append] at hl
  refine ⟨k + (nx s k).2.1, by unfold nxO; rw [if_pos h], rfl, ?_, h0, h1⟩
  have : (nx s k).2.1 = _ := l
  omega
theorem tx_len {s : ByteArray} {k : Nat} (hk : k ≤ s.size) (h : (tx s k).2.2 = 0) : ∃ c : Nat, txO s k = c ∧ k + (tx s k).2.1 = c ∧ c ≤ s.size ∧ k + 1 ≤ c := by
  obtain ⟨q, e, l⟩ := textL_ok h
  have hl := congrArg List.length e
  rw [drop_len, List.length_append] at hl
  have h2 := textP_two (textL (s.data.toList.drop k)).1
  have l' : (tx s k).2.1 = _ := l
  exact ⟨k + (tx s k).2.1, by unfold txO; rw [if_pos h], rfl, by omega, by omega⟩
theorem lx_err {s : ByteArray} {k : Nat} {most : Int} (h : ¬ (nx s k).2.2 = 0) : lx s k most = ([], 0, (nx s k).2.2) := by
  unfold lx listL
  rw [show numL (s.data.toList.drop k) = nx s k from rfl, if_neg h]
theorem lx_neg {s : ByteArray} {k : Nat} {most : Int} (h : (nx s k).2.2 = 0) (h1 : (nx s k).1 < 0) : lx s k most = ([], 0, 5) := by
  unfold lx listL
  rw [show numL (s.data.toList.drop k) = nx s k from rfl, if_pos h, if_pos h1]
theorem lx_lim {s : ByteArray} {k : Nat} {most : Int} (h : (nx s k).2.2 = 0) (h1 : ¬ (nx s k).1 < 0) (h2 : most < (nx s k).1) : lx s k most = ([], 0, 2) := by
  unfold lx listL
  rw [show numL (s.data.toList.drop k) = nx s k from rfl, if_pos h, if_neg h1, if_pos h2]
theorem lx_go {s : ByteArray} {k c N : Nat} {most : Int} (h : (nx s k).2.2 = 0) (hc : k + (nx s k).2.1 = c) (hN : (nx s k).1 = N) (h2 : ¬ most < (N : Int)) : lx s k most = textsA N (s.data.toList.drop c) [] c := by
  unfold lx listL
  rw [show numL (s.data.toList.drop k) = nx s k from rfl, if_pos h, hN, if_neg (by omega), if_neg h2, Int.toNat_natCast, List.drop_drop, hc]
theorem ta_fail {s : ByteArray} {c m : Nat} {acc : List (List UInt8)} (h : ¬ (tx s c).2.2 = 0) : textsA (m + 1) (s.data.toList.drop c) acc c = ([], 0, (tx s c).2.2) := by
  rw [textsA, show textL (s.data.toList.drop c) = tx s c from rfl, if_neg h]
theorem ta_next {s : ByteArray} {c c' m : Nat} {acc : List (List UInt8)} (h : (tx s c).2.2 = 0) (hc : c + (tx s c).2.1 = c') : textsA (m + 1) (s.data.toList.drop c) acc c = textsA m (s.data.toList.drop c') (acc ++ [(tx s c).1]) c' := by
  rw [textsA, show textL (s.data.toList.drop c) = tx s c from rfl, if_pos h, List.drop_drop, hc]

set_option maxHeartbeats 1000000 in
theorem takeList_in (s : ByteArray) (k : Nat) (most : Int) (w : World) (hs : s.size ≤ 140737488351232) (hk : k ≤ s.size) (hm0 : 0 ≤ most) (hm1 : most ≤ 9223372036854775807) (hroom : s.size ≤ 1048576 ∨ most ≤ 1000000) (ht : Tab w) :
    Calls Tryd.prog 22 #[.string s, .int .i64 k, .int .i64 most] w (tList s k most w) := by
  have HT := Lib.hid ht
  clear ht
  obtain ⟨i0, hi, hz0, hz1, hz2⟩ := info_parts infoStr
  by_cases h : (nx s k).2.2 = 0
  · have h' : ((nx s k).2.2 != 0) = false := by rw [h]; rfl
    obtain ⟨c0, hc0, hc1, hc2, hn0, hn1⟩ := nx_size hk h
    by_cases h1 : (nx s k).1 < 0
    · have F := Lib.hid (lx_neg (most := most) h h1)
      clear h hc1
      go_enter Tryd.func22, Tryd.ntmps22
      go_wp2_with (first | (go_at_call 20; refine (takeNum_in s k _ hs hk HT.out).mono ?_; rintro e w1 ⟨rfl, hb1⟩) | go_in)
      go_ret3
      exact tl_fail F.out (by decide) (by assumption)
    · obtain ⟨N, hN⟩ : ∃ N : Nat, (nx s k).1 = N := ⟨(nx s k).1.toNat, by omega⟩
      by_cases h2 : most < (N : Int)
      · have F := Lib.hid (lx_lim (most := most) h h1 (by rw [hN]; exact h2))
        clear h h1 hc1
        go_enter Tryd.func22, Tryd.ntmps22
        go_wp2_with (first | (go_at_call 20; refine (takeNum_in s k _ hs hk HT.out).mono ?_; rintro e w1 ⟨rfl, hb1⟩) | go_in)
        go_ret3
        exact tl_fail F.out (by decide) (by assumption)
      · have F := Lib.hid (lx_go h hc1 hN h2)
        rw [hN] at hn1
        clear h h1 hc1 hn0
        go_enter Tryd.func22, Tryd.ntmps22
        go_wp2_with (first | (go_at_call 20; refine (takeNum_in s k _ hs hk HT.out).mono ?_; rintro e w1 ⟨rfl, hb1⟩) | go_in)
        have HB1 : Hid (Below w.heap.size w w1) := Lib.hid (by assumption)
        go_loopw [10, 12, 37] (fun en v i wr => ∃ (j c : Nat) (acc : List (List UInt8)), j ≤ N ∧ i = .int .i64 j ∧ en = .int .i64 c ∧ c ≤ s.size ∧ j ≤ c ∧ acc.length = j ∧ wr.ownsRow w.heap.size 9 1 v j (acc.map strV) ∧
          textsA N (s.data.toList.drop c0) [] c0 = textsA (N - j) (s.data.toList.drop c) acc c ∧ Below w.heap.size w wr) (fun _ _ i _ => N - (intOf i).toNat)
        case atStart => exact ⟨0, c0, [], Nat.zero_le _, rfl, rfl, hc2, Nat.zero_le _, rfl, World.ownsRow_nil _ _ _ _, rfl, HB1.out⟩
        case round =>
          obtain ⟨j, c, acc, hj, rfl, rfl, hc, hjc, hacc, hown, hrec, hbel⟩ := hrel
          have HO := Lib.hid hown
          have HR := Lib.hid hrec
          have HB := Lib.hid hbel
          have HA := Lib.hid hacc
          clear hown hrec hbel hacc
          by_cases hlt : j < N
          · obtain ⟨m, hm⟩ : ∃ m, N - j = m + 1 := ⟨N - j - 1, by omega⟩
            by_cases g : (tx s c).2.2 = 0
            · have g' : ((tx s c).2.2 != 0) = false := by rw [g]; rfl
              obtain ⟨c', g1, g2, g3, g4⟩ := tx_len hc g
              have HX := Lib.hid (ta_next (m := m) (acc := acc) g g2)
              have HM := Lib.hid hm
              have HT2 := Lib.hid (HT.out.later HB.out)
              clear g g2 hm
              go_wp2_with (first
                | (go_at_call 18; refine (takeText_in s c _ hs hc HT2.out).mono ?_; rintro e w2 ⟨rfl, hb2⟩)
                | (at_builtin; refine wpList_append_own _ rfl _ _ 22 rfl w.heap.size 9 i0 (.string ⟨#[]⟩) 1 16 Tryd.underlying22 hi hz0 hz1 hz2 rfl (by decide) _ j _ rfl ((ownsRow_later HO.out (by assumption)).alloc _) ⟨w2.heap.size, 0, none⟩ 1 1 [strV (tx s c).1] rfl rfl ?c1 ?c2 ?c3 ?c4 ?c5 ?_)
                | go_in)
              case c1 =>
                intro i u hu
                match i, hu with
                | 0, hu =>
                  simp at hu
                  subst hu
                  exact alloc_cell _ _ _ _ _ rfl
              case c2 => intro u hu; simp at hu; subst hu; rfl
              case c3 => unfold maxLen; omega
              case c4 => omega
              case c5 => have := HB.out.size; have := hb2.size; rw [alloc_size]; omega
              intro v' w3 hown' hgrow _
              have HO' := Lib.hid hown'
              have HG := Lib.hid hgrow
              have HB2 := Lib.hid hb2
              clear hb2
              clear hown' hgrow
              go_wp2
              go_roundw
              case rel => exact ⟨j + 1, c', acc ++ [(tx s c).1], by omega, by go_num, rfl, g3, by omega, by rw [List.length_append, HA.out]; rfl, by rw [List.map_append]; exact HO'.out, by rw [HR.out, HM.out, HX.out, show N - (j + 1) = m by have := HM.out; omega], ((HB.out.trans (HB2.out.mono HB.out.size)).alloc (Nat.le_trans HB.out.size HB2.out.size) _).grown HG.out (by rw [alloc_size]; have := HB.out.size; have := HB2.out.size; omega) (own_block HO.out)⟩
              case measure => simp [intOf]; omega
            · have g' : ((tx s c).2.2 != 0) = true := by simpa using g
              have HX := Lib.hid (ta_fail (m := m) (acc := acc) g)
              have HM := Lib.hid hm
              have GN := Lib.hid g
              have HT2 := Lib.hid (HT.out.later HB.out)
              clear g hm
              go_wp2_with (first
                | (go_at_call 18; refine (takeText_in s c _ hs hc HT2.out).mono ?_; rintro e w2 ⟨rfl, hb2⟩)
                | go_in)
              go_ret3
              exact tl_fail (by rw [F.out, HR.out, HM.out, HX.out]) GN.out (HB.out.trans (hb2.mono HB.out.size))
          · obtain rfl : N = j := by omega
            go_wp2
            go_ret3
            exact tl_done (by rw [F.out, HR.out, Nat.sub_self]; rfl) (StrsAt.ofOwn (B := w.heap.size) (by rw [HA.out]; exact HO.out)) HB.out
  · have h' : ((nx s k).2.2 != 0) = true := by simpa using h
    have F := Lib.hid (lx_err (most := most) h)
    have HN := Lib.hid h
    clear h
    go_enter Tryd.func22, Tryd.ntmps22
    go_wp2_with (first | (go_at_call 20; refine (takeNum_in s k _ hs hk HT.out).mono ?_; rintro e w1 ⟨rfl, hb1⟩) | go_in)
    go_ret3
    exact tl_fail F.out HN.out (by assumption)

set_option maxHeartbeats 1000000 in
theorem refList_in (s : ByteArray) (k : Nat) (most : Int) (w : World) (hs : s.size ≤ 140737488351232) (hk : k ≤ s.size) (hm0 : 0 ≤ most) (hm1 : most ≤ 9223372036854775807) (hroom : s.size ≤ 1048576 ∨ most ≤ 1000000) :
    Calls Tryd.prog 23 #[.string s, .int .i64 k, .int .i64 most] w (tList s k most w) := by
  obtain ⟨i0, hi, hz0, hz1, hz2⟩ := info_parts infoStr
  by_cases h : (nx s k).2.2 = 0
  · have h' : ((nx s k).2.2 != 0) = false := by rw [h]; rfl
    obtain ⟨c0, hc0, hc1, hc2, hn0, hn1⟩ := nx_size hk h
    by_cases h1 : (nx s k).1 < 0
    · have F := Lib.hid (lx_neg (most := most) h h1)
      clear h hc1
      go_enter Tryd.func23, Tryd.ntmps23
      go_wp2_with (first | (go_at_call 21; refine (refNum_in s k _ hs hk).mono ?_; rintro e w1 ⟨rfl, rfl⟩) | go_in)
      go_ret3
      exact tl_fail F.out (by decide) (Below.refl _ _)
    · obtain ⟨N, hN⟩ : ∃ N : Nat, (nx s k).1 = N := ⟨(nx s k).1.toNat, by omega⟩
      by_cases h2 : most < (N : Int)
      · have F := Lib.hid (lx_lim (most := most) h h1 (by rw [hN]; exact h2))
        clear h h1 hc1
        go_enter Tryd.func23, Tryd.ntmps23
        go_wp2_with (first | (go_at_call 21; refine (refNum_in s k _ hs hk).mono ?_; rintro e w1 ⟨rfl, rfl⟩) | go_in)
        go_ret3
        exact tl_fail F.out (by decide) (Below.refl _ _)
      · have F := Lib.hid (lx_go h hc1 hN h2)
        rw [hN] at hn1
        clear h h1 hc1 hn0
        go_enter Tryd.func23, Tryd.ntmps23
        go_wp2_with (first | (go_at_call 21; refine (refNum_in s k _ hs hk).mono ?_; rintro e w1 ⟨rfl, rfl⟩) | go_in)
        have HB1 : Hid (Below w.heap.size w w) := Lib.hid (Below.refl _ _)
        go_loopw [1, 11, 12] (fun en v i wr => ∃ (j c : Nat) (acc : List (List UInt8)), j ≤ N ∧ i = .int .i64 j ∧ en = .int .i64 c ∧ c ≤ s.size ∧ j ≤ c ∧ acc.length = j ∧ wr.ownsRow w.heap.size 9 1 v j (acc.map strV) ∧
          textsA N (s.data.toList.drop c0) [] c0 = textsA (N - j) (s.data.toList.drop c) acc c ∧ Below w.heap.size w wr) (fun _ _ i _ => N - (intOf i).toNat)
        case atStart => exact ⟨0, c0, [], Nat.zero_le _, rfl, rfl, hc2, Nat.zero_le _, rfl, World.ownsRow_nil _ _ _ _, rfl, HB1.out⟩
        case round =>
          obtain ⟨j, c, acc, hj, rfl, rfl, hc, hjc, hacc, hown, hrec, hbel⟩ := hrel
          have HO := Lib.hid hown
          have HR := Lib.hid hrec
          have HB := Lib.hid hbel
          have HA := Lib.hid hacc
          clear hown hrec hbel hacc
          by_cases hlt : j < N
          · obtain ⟨m, hm⟩ : ∃ m, N - j = m + 1 := ⟨N - j - 1, by omega⟩
            by_cases g : (tx s c).2.2 = 0
            · have g' : ((tx s c).2.2 != 0) = false := by rw [g]; rfl
              obtain ⟨c', g1, g2, g3, g4⟩ := tx_len hc g
              have HX := Lib.hid (ta_next (m := m) (acc := acc) g g2)
              have HM := Lib.hid hm
              clear g g2 hm
              go_wp2_with (first
                | (go_at_call 19; refine (refText_in s c _ hs hc).mono ?_; rintro e w2 ⟨rfl, rfl⟩)
                | (at_builtin; refine wpList_append_own _ rfl _ _ 22 rfl w.heap.size 9 i0 (.string ⟨#[]⟩) 1 16 Tryd.underlying22 hi hz0 hz1 hz2 rfl (by decide) _ j _ rfl (HO.out.alloc _) ⟨wr.heap.size, 0, none⟩ 1 1 [strV (tx s c).1] rfl rfl ?c1 ?c2 ?c3 ?c4 ?c5 ?_)
                | go_in)
              case c1 =>
                intro i u hu
                match i, hu with
                | 0, hu =>
                  simp at hu
                  subst hu
                  exact alloc_cell _ _ _ _ _ rfl
              case c2 => intro u hu; simp at hu; subst hu; rfl
              case c3 => unfold maxLen; omega
              case c4 => omega
              case c5 => have := HB.out.size; rw [alloc_size]; omega
              intro v' w3 hown' hgrow _
              have HO' := Lib.hid hown'
              have HG := Lib.hid hgrow
              clear hown' hgrow
              go_wp2
              go_roundw
              case rel => exact ⟨j + 1, c', acc ++ [(tx s c).1], by omega, by go_num, rfl, g3, by omega, by rw [List.length_append, HA.out]; rfl, by rw [List.map_append]; exact HO'.out, by rw [HR.out, HM.out, HX.out, show N - (j + 1) = m by have := HM.out; omega], (HB.out.alloc HB.out.size _).grown HG.out (by rw [alloc_size]; have := HB.out.size; omega) (own_block HO.out)⟩
              case measure => simp [intOf]; omega
            · have g' : ((tx s c).2.2 != 0) = true := by simpa using g
              have HX := Lib.hid (ta_fail (m := m) (acc := acc) g)
              have HM := Lib.hid hm
              have GN := Lib.hid g
              clear g hm
              go_wp2_with (first
                | (go_at_call 19; refine (refText_in s c _ hs hc).mono ?_; rintro e w2 ⟨rfl, rfl⟩)
                | go_in)
              go_ret3
              exact tl_fail (by rw [F.out, HR.out, HM.out, HX.out]) GN.out HB.out
          · obtain rfl : N = j := by omega
            go_wp2
            go_ret3
            exact tl_done (by rw [F.out, HR.out, Nat.sub_self]; rfl) (StrsAt.ofOwn (B := w.heap.size) (by rw [HA.out]; exact HO.out)) HB.out
  · have h' : ((nx s k).2.2 != 0) = true := by simpa using h
    have F := Lib.hid (lx_err (most := most) h)
    have HN := Lib.hid h
    clear h
    go_enter Tryd.func23, Tryd.ntmps23
    go_wp2_with (first | (go_at_call 21; refine (refNum_in s k _ hs hk).mono ?_; rintro e w1 ⟨rfl, rfl⟩) | go_in)
    go_ret3
    exact tl_fail F.out HN.out (Below.refl _ _)
end Go.Proofs.YtpfnameeoadbkaaDoor.PackW
