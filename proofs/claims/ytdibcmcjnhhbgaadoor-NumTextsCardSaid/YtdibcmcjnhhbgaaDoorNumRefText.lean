/-
  What the reference's Parse and Format return.
-/
import Derived.Test.YtdibcmcjnhhbgaaDoorNumParse
import Derived.Lib.SlBytesRow
import Derived.Lib.ItoaLen
namespace Go.Proofs.YtdibcmcjnhhbgaaDoor.NumW
open Go Go.RowKit Go.Proofs.YtdibcmcjnhhbgaaDoor.NumM

/-- The last digit. -/
def dc (u : Nat) : UInt8 := UInt8.ofNat (48 + u % 10)
theorem dec_last {u : Nat} (h : ¬ u / 10 = 0) : Lib.decDigits u = Lib.decDigits (u / 10) ++ [dc u] := dec_big (by omega)
theorem dec_first {u : Nat} (h : u / 10 = 0) : Lib.decDigits u = [dc u] := by
  rw [dec_small (by omega), dc, show u % 10 = u by omega]
theorem str_cons (c : UInt8) (r : ByteArray) : ((⟨#[c]⟩ : ByteArray) ++ r).data.toList = c :: r.data.toList := by simp
theorem str_of {s : ByteArray} {l : List UInt8} (h : s.data.toList = l) : s = ⟨l.toArray⟩ := by rw [← h]
theorem rets {a b : ByteArray} (h : a = b) : Ending.returned (.string a) = .returned (.string b) := by rw [h]
theorem conv_one (wr : World) (u : Nat) :
    Sem.run Tryd.prog (convert 41 9 (.slice (some ⟨wr.heap.size, 0, none⟩) 1 1)) (wr.alloc (.cells #[.int .u8 (48 + (u : Int) % 10)] 5)) =
      .ok (.string ⟨#[dc u]⟩) (wr.alloc (.cells #[.int .u8 (48 + (u : Int) % 10)] 5)) := by
  have hb : Lib.Bytes (wr.alloc (.cells #[.int .u8 (48 + (u : Int) % 10)] 5)) wr.heap.size 0 ⟨#[dc u]⟩ := by
    intro i hi
    obtain rfl : i = 0 := by have : i < 1 := hi; omega
    have e : ((48 + u % 10 : Nat) : Int) = 48 + (u : Int) % 10 := by omega
    have t : (dc u).toNat = 48 + u % 10 := dig_toNat (by omega)
    show _ = some (Value.int .u8 ((dc u).toNat : Int))
    rw [t, e]
    simp
  exact Lib.run_convert_whole (P := Tryd.prog) _ 41 5 9 Tryd.underlying41 Tryd.underlying5 Tryd.underlying9 wr.heap.size 0 ⟨#[dc u]⟩ hb 1
set_option maxHeartbeats 400000 in
theorem formatRef_any (n : Int) (w : World) (h0 : -9223372036854775808 ≤ n) (h1 : n ≤ 9223372036854775807) :
    Calls Tryd.prog 28 #[.int .i64 n] w fun e w' => e = .returned (.string ⟨(Lib.itoa n).toArray⟩) ∧ Below w.heap.size w w' := by
  go_enter Tryd.func28, Tryd.ntmps28
  go_wp2_with (go_at_call 30; refine (below_any _ _ (by omega) (by omega)).mono ?_; rintro e w' ⟨rfl, rfl⟩)
  go_loopw [3, 4] (fun s m wr => ∃ (u : Nat) (r : ByteArray), (u : Int) ≤ 9223372036854775808 ∧ m = .int .i64 (-(u : Int)) ∧ s = .string r ∧ Lib.decDigits n.natAbs = Lib.decDigits u ++ r.data.toList ∧ Below w.heap.size w wr) (fun _ m _ => (-intOf m).toNat)
  case atStart => exact ⟨n.natAbs, ⟨#[]⟩, by omega, rfl, rfl, by simp, Below.refl _ _⟩
  case round =>
    obtain ⟨u, r, hu, rfl, rfl, hd, hb⟩ := hrel
    have HD := Lib.hid hd
    have HB := Lib.hid hb
    clear hd hb
    have hrs : r.size ≤ 30 := by
      have e := congrArg List.length HD.out
      rw [List.length_append, Lib.decDigits_length] at e
      have := Lib.nDigits_le20 n.natAbs (by omega)
      have h2 : r.data.toList.length = r.size := by simp
      omega
    have hcv := conv_one wr u
    by_cases hz : u / 10 = 0
    · have hz1 : (u : Int) / 10 = 0 := by omega
      by_cases hn : n < 0
      · go_wp2
        go_ret
        exact ⟨rets (str_of (by rw [Lib.itoa, if_pos hn, HD.out, dec_first hz]; simp)), HB.out.alloc HB.out.size _⟩
      · go_wp2
        go_ret
        exact ⟨rets (str_of (by rw [Lib.itoa, if_neg (by omega), show n.toNat = n.natAbs by omega, HD.out, dec_first hz]; simp)), HB.out.alloc HB.out.size _⟩
    · have hz1 : (-((u : Int) / 10) == 0) = false := by simp; omega
      go_wp2
      go_roundw
      case rel => exact ⟨u / 10, _, by omega, by simp, rfl, by rw [HD.out, dec_last hz, str_cons]; simp, HB.out.alloc HB.out.size _⟩
      case measure => simp [intOf]; omega
def parsedR (l : List UInt8) (w : World) (e : Ending) (w' : World) : Prop := e = .returned (.tuple #[.int .i64 (parseS l).1, .int .i64 (parseS l).2]) ∧ w = w'
theorem dgS_iff {t : ByteArray} {l : List UInt8} (hd : t.data.toList = tl l) : dgS t.data.toList = ((tl l).all dgt && !(tl l).isEmpty) := by rw [hd]; rfl
theorem parsed_no {l : List UInt8} (h : isDec l = false) : ((0 : Int), (5 : Int)) = parseS l := by rw [parseS, h]; rfl
theorem parsed_range {l : List UInt8} (h : isDec l = true) (hv : 9223372036854775808 < (vl 0 (tl l) : Int)) : ((0 : Int), (3 : Int)) = parseS l := by
  rw [parseS, h, if_pos rfl, lim_no]
  rw [okI_no]
  unfold valS
  split <;> omega
theorem isDec_no1 {t : ByteArray} {l : List UInt8} (hd : t.data.toList = tl l) (h : dgS t.data.toList = false) : isDec l = false := by
  rw [dgS_iff hd] at h
  rw [isDec, h]; rfl
theorem isDec_no2 {t : ByteArray} {l : List UInt8} (hd : t.data.toList = tl l) (ht : 0 < t.size) (h : t[0].toNat = 48) (hl : l ≠ [48]) : isDec l = false := by
  have e : (tl l).head? = some 48 := by rw [head_at hd ht, show t[0] = 48 from by rw [← UInt8.toNat_inj, h]; rfl]
  have b : (l == [48]) = false := by simpa using hl
  rw [isDec, e, b]; simp
theorem isDec_yes {t : ByteArray} {l : List UInt8} (hd : t.data.toList = tl l) (h : dgS t.data.toList = true) (hh : ¬ ((tl l).head? = some 48 ∧ l ≠ [48])) : isDec l = true := by
  rw [dgS_iff hd, Bool.and_eq_true] at h
  refine isDec_of h.1 ?_ hh
  have := h.2
  intro e; rw [e] at this; cases this
theorem head_no {t : ByteArray} {l : List UInt8} (hd : t.data.toList = tl l) (ht : 0 < t.size) (h : ¬ t[0].toNat = 48) : ¬ ((tl l).head? = some 48 ∧ l ≠ [48]) := by
  intro x
  have e := x.1
  rw [head_at hd ht] at e
  exact h (by rw [Option.some.inj e]; rfl)
theorem size_of_dgS {t : ByteArray} (h : dgS t.data.toList = true) : 0 < t.size := by
  rw [dgS, Bool.and_eq_true, some_byte] at h
  simpa using h.2
set_option maxHeartbeats 400000 in
theorem parseRef_minus (s t : ByteArray) (w : World) (hs : s.size ≤ 1000) (h0 : 0 < s.size) (hm : ((s[0].toNat : Int) == 45) = true) (ht : s.extract 1 s.size = t) (hd : t.data.toList = tl s.data.toList) (hmin : minus s.data.toList = true) (hts : t.size ≤ 1000) :
    Calls Tryd.prog 26 #[.string s] w (parsedR s.data.toList w) := by
  have HD := Lib.hid hd
  have MIN := Lib.hid hmin
  clear hd hmin
  cases e0 : dgS t.data.toList
  · have FIN := Lib.hid (parsed_no (isDec_no1 HD.out e0))
    go_enter Tryd.func26, Tryd.ntmps26
    go_wp2_with (first | (go_at_call 15; refine (mulRef_any _ _ _ (by omega) (by omega) (by omega) (by omega)).mono ?_; rintro e w' ⟨rfl, rfl⟩) | (go_at_call 13; refine (subRef_any _ _ _ (by omega) (by omega) (by omega) (by omega)).mono ?_; rintro e w' ⟨rfl, rfl⟩) | (go_at_call 33; refine (digits_any _ _ (by omega)).mono ?_; rintro e w' ⟨rfl, rfl⟩))
    go_ret2
    exact ⟨ret2 FIN.out, rfl⟩
  · have ht0 := size_of_dgS e0
    by_cases c0 : t[0].toNat = 48
    · by_cases z : s.data.toList = [48]
      · have hz : (!s.toList == [48]) = false := str_no z
        have DEC := Lib.hid (isDec_yes HD.out e0 (fun x => x.2 z))
        have DD := Lib.hid (isDec_parts DEC.out).1
        have c1 : ((t[0].toNat : Int) == 48) = true := by simp; omega
        clear c0 z
        go_enter Tryd.func26, Tryd.ntmps26
        go_wp2_with (first | (go_at_call 15; refine (mulRef_any _ _ _ (by omega) (by omega) (by omega) (by omega)).mono ?_; rintro e w' ⟨rfl, rfl⟩) | (go_at_call 13; refine (subRef_any _ _ _ (by omega) (by omega) (by omega) (by omega)).mono ?_; rintro e w' ⟨rfl, rfl⟩) | (go_at_call 33; refine (digits_any _ _ (by omega)).mono ?_; rintro e w' ⟨rfl, rfl⟩))
        go_loop [6, 7] (fun n i => ∃ k : Nat, k ≤ t.size ∧ i = .int .i64 k ∧ (vl 0 (t.data.toList.take k) : Int) ≤ 9223372036854775808 ∧ n = .int .i64 (-(vl 0 (t.data.toList.take k) : Int))) (fun _ i => t.size - (intOf i).toNat)
        case atStart => exact ⟨0, Nat.zero_le _, rfl, by simp [vl_nil], by simp [vl_nil]⟩
        case round =>
          obtain ⟨k, hk, rfl, hv, rfl⟩ := hrel
          by_cases hlt : k < t.size
          · have g := dgt_at HD.out DD.out hlt
            have g3 : (48 : Int) ≤ (t[k].toNat : Int) := by omega
            have g4 : (t[k].toNat : Int) ≤ 57 := by omega
            have NX : Hid (vl 0 (t.data.toList.take (k + 1)) = vl 0 (t.data.toList.take k) * 10 + (t[k].toNat - 48)) := Lib.hid (by rw [take_snoc t k hlt, vl_snoc])
            have LE := Lib.hid (vl_take_le t.data.toList (k + 1))
            clear g
            obtain ⟨V, hV⟩ : ∃ V : Nat, vl 0 (t.data.toList.take k) = V := ⟨_, rfl⟩
            rw [hV] at hv
            rw [hV]
            have HV := Lib.hid hV
            clear hV
            by_cases gm : okI (-(V : Int) * 10) = true
            · have l1 := lim1 gm
              have l2 := lim2 gm
              have gb := okI_iff.1 gm
              have gb0 := gb.1
              have gb1 := gb.2
              clear gm gb
              by_cases gs : okI (-(V : Int) * 10 - ((t[k].toNat : Int) - 48)) = true
              · have m1 := lim1 gs
                have m2 := lim2 gs
                have gc := (okI_iff.1 gs).1
                clear gs
                go_wp2_with (first | (go_at_call 15; refine (mulRef_any _ _ _ (by omega) (by omega) (by omega) (by omega)).mono ?_; rintro e w' ⟨rfl, rfl⟩) | (go_at_call 13; refine (subRef_any _ _ _ (by omega) (by omega) (by omega) (by omega)).mono ?_; rintro e w' ⟨rfl, rfl⟩) | (go_at_call 33; refine (digits_any _ _ (by omega)).mono ?_; rintro e w' ⟨rfl, rfl⟩))
                go_round
                case rel => exact ⟨k + 1, by omega, by go_num, by rw [NX.out, HV.out]; omega, by rw [NX.out, HV.out]; congr 1; omega⟩
                case measure => simp [intOf]; omega
              · have gs' : okI (-(V : Int) * 10 - ((t[k].toNat : Int) - 48)) = false := by simpa using gs
                have m3 := lim3 gs'
                have GS := Lib.hid gs'
                clear gs gs'
                go_wp2_with (first | (go_at_call 15; refine (mulRef_any _ _ _ (by omega) (by omega) (by omega) (by omega)).mono ?_; rintro e w' ⟨rfl, rfl⟩) | (go_at_call 13; refine (subRef_any _ _ _ (by omega) (by omega) (by omega) (by omega)).mono ?_; rintro e w' ⟨rfl, rfl⟩) | (go_at_call 33; refine (digits_any _ _ (by omega)).mono ?_; rintro e w' ⟨rfl, rfl⟩))
                go_ret2
                exact ⟨ret2 (parsed_range DEC.out (by have a := LE.out; have b := NX.out; rw [HV.out] at b; rw [HD.out] at a b; have c := okI_no.1 GS.out; omega)), rfl⟩
            · have gm' : okI (-(V : Int) * 10) = false := by simpa using gm
              have l3 := lim3 gm'
              have l1 : (lim (-(V : Int) * 10)).1 = 0 := by rw [lim_no gm']
              have GM := Lib.hid gm'
              clear gm gm'
              go_wp2_with (first | (go_at_call 15; refine (mulRef_any _ _ _ (by omega) (by omega) (by omega) (by omega)).mono ?_; rintro e w' ⟨rfl, rfl⟩) | (go_at_call 13; refine (subRef_any _ _ _ (by omega) (by omega) (by omega) (by omega)).mono ?_; rintro e w' ⟨rfl, rfl⟩) | (go_at_call 33; refine (digits_any _ _ (by omega)).mono ?_; rintro e w' ⟨rfl, rfl⟩))
              go_ret2
              exact ⟨ret2 (parsed_range DEC.out (by have a := LE.out; have b := NX.out; rw [HV.out] at b; rw [HD.out] at a b; have c := okI_no.1 GM.out; omega)), rfl⟩
          · have hT : t.data.toList.take k = tl s.data.toList := by
              rw [show k = t.size by omega]
              exact (List.take_of_length_le (by simp)).trans HD.out
            rw [hT] at hv
            rw [hT]
            have HT := Lib.hid hT
            clear hT
            obtain ⟨V, hV⟩ : ∃ V : Nat, vl 0 (tl s.data.toList) = V := ⟨_, rfl⟩
            rw [hV] at hv
            rw [hV]
            have HV := Lib.hid hV
            clear hV
            go_wp2_with (first | (go_at_call 15; refine (mulRef_any _ _ _ (by omega) (by omega) (by omega) (by omega)).mono ?_; rintro e w' ⟨rfl, rfl⟩) | (go_at_call 13; refine (subRef_any _ _ _ (by omega) (by omega) (by omega) (by omega)).mono ?_; rintro e w' ⟨rfl, rfl⟩) | (go_at_call 33; refine (digits_any _ _ (by omega)).mono ?_; rintro e w' ⟨rfl, rfl⟩))
            go_ret2
            exact ⟨ret2 (by rw [parseS, DEC.out, if_pos rfl, valS, MIN.out, if_pos rfl, HV.out, lim_ok (okI_iff.2 ⟨by omega, by omega⟩)]), rfl⟩
      · have hz : (!s.toList == [48]) = true := str_yes z
        have FIN := Lib.hid (parsed_no (isDec_no2 HD.out ht0 c0 z))
        have c1 : ((t[0].toNat : Int) == 48) = true := by simp; omega
        clear c0 z
        go_enter Tryd.func26, Tryd.ntmps26
        go_wp2_with (first | (go_at_call 15; refine (mulRef_any _ _ _ (by omega) (by omega) (by omega) (by omega)).mono ?_; rintro e w' ⟨rfl, rfl⟩) | (go_at_call 13; refine (subRef_any _ _ _ (by omega) (by omega) (by omega) (by omega)).mono ?_; rintro e w' ⟨rfl, rfl⟩) | (go_at_call 33; refine (digits_any _ _ (by omega)).mono ?_; rintro e w' ⟨rfl, rfl⟩))
        go_ret2
        exact ⟨ret2 FIN.out, rfl⟩
    · have DEC := Lib.hid (isDec_yes HD.out e0 (head_no HD.out ht0 c0))
      have DD := Lib.hid (isDec_parts DEC.out).1
      have c1 : ((t[0].toNat : Int) == 48) = false := by simp; omega
      clear c0
      go_enter Tryd.func26, Tryd.ntmps26
      go_wp2_with (first | (go_at_call 15; refine (mulRef_any _ _ _ (by omega) (by omega) (by omega) (by omega)).mono ?_; rintro e w' ⟨rfl, rfl⟩) | (go_at_call 13; refine (subRef_any _ _ _ (by omega) (by omega) (by omega) (by omega)).mono ?_; rintro e w' ⟨rfl, rfl⟩) | (go_at_call 33; refine (digits_any _ _ (by omega)).mono ?_; rintro e w' ⟨rfl, rfl⟩))
      go_loop [6, 7] (fun n i => ∃ k : Nat, k ≤ t.size ∧ i = .int .i64 k ∧ (vl 0 (t.data.toList.take k) : Int) ≤ 9223372036854775808 ∧ n = .int .i64 (-(vl 0 (t.data.toList.take k) : Int))) (fun _ i => t.size - (intOf i).toNat)
      case atStart => exact ⟨0, Nat.zero_le _, rfl, by simp [vl_nil], by simp [vl_nil]⟩
      case round =>
        obtain ⟨k, hk, rfl, hv, rfl⟩ := hrel
        by_cases hlt : k < t.size
        · have g := dgt_at HD.out DD.out hlt
          have g3 : (48 : Int) ≤ (t[k].toNat : Int) := by omega
          have g4 : (t[k].toNat : Int) ≤ 57 := by omega
          have NX : Hid (vl 0 (t.data.toList.take (k + 1)) = vl 0 (t.data.toList.take k) * 10 + (t[k].toNat - 48)) := Lib.hid (by rw [take_snoc t k hlt, vl_snoc])
          have LE := Lib.hid (vl_take_le t.data.toList (k + 1))
          clear g
          obtain ⟨V, hV⟩ : ∃ V : Nat, vl 0 (t.data.toList.take k) = V := ⟨_, rfl⟩
          rw [hV] at hv
          rw [hV]
          have HV := Lib.hid hV
          clear hV
          by_cases gm : okI (-(V : Int) * 10) = true
          · have l1 := lim1 gm
            have l2 := lim2 gm
            have gb := okI_iff.1 gm
            have gb0 := gb.1
            have gb1 := gb.2
            clear gm gb
            by_cases gs : okI (-(V : Int) * 10 - ((t[k].toNat : Int) - 48)) = true
            · have m1 := lim1 gs
              have m2 := lim2 gs
              have gc := (okI_iff.1 gs).1
              clear gs
              go_wp2_with (first | (go_at_call 15; refine (mulRef_any _ _ _ (by omega) (by omega) (by omega) (by omega)).mono ?_; rintro e w' ⟨rfl, rfl⟩) | (go_at_call 13; refine (subRef_any _ _ _ (by omega) (by omega) (by omega) (by omega)).mono ?_; rintro e w' ⟨rfl, rfl⟩) | (go_at_call 33; refine (digits_any _ _ (by omega)).mono ?_; rintro e w' ⟨rfl, rfl⟩))
              go_round
              case rel => exact ⟨k + 1, by omega, by go_num, by rw [NX.out, HV.out]; omega, by rw [NX.out, HV.out]; congr 1; omega⟩
              case measure => simp [intOf]; omega
            · have gs' : okI (-(V : Int) * 10 - ((t[k].toNat : Int) - 48)) = false := by simpa using gs
              have m3 := lim3 gs'
              have GS := Lib.hid gs'
              clear gs gs'
              go_wp2_with (first | (go_at_call 15; refine (mulRef_any _ _ _ (by omega) (by omega) (by omega) (by omega)).mono ?_; rintro e w' ⟨rfl, rfl⟩) | (go_at_call 13; refine (subRef_any _ _ _ (by omega) (by omega) (by omega) (by omega)).mono ?_; rintro e w' ⟨rfl, rfl⟩) | (go_at_call 33; refine (digits_any _ _ (by omega)).mono ?_; rintro e w' ⟨rfl, rfl⟩))
              go_ret2
              exact ⟨ret2 (parsed_range DEC.out (by have a := LE.out; have b := NX.out; rw [HV.out] at b; rw [HD.out] at a b; have c := okI_no.1 GS.out; omega)), rfl⟩
          · have gm' : okI (-(V : Int) * 10) = false := by simpa using gm
            have l3 := lim3 gm'
            have l1 : (lim (-(V : Int) * 10)).1 = 0 := by rw [lim_no gm']
            have GM := Lib.hid gm'
            clear gm gm'
            go_wp2_with (first | (go_at_call 15; refine (mulRef_any _ _ _ (by omega) (by omega) (by omega) (by omega)).mono ?_; rintro e w' ⟨rfl, rfl⟩) | (go_at_call 13; refine (subRef_any _ _ _ (by omega) (by omega) (by omega) (by omega)).mono ?_; rintro e w' ⟨rfl, rfl⟩) | (go_at_call 33; refine (digits_any _ _ (by omega)).mono ?_; rintro e w' ⟨rfl, rfl⟩))
            go_ret2
            exact ⟨ret2 (parsed_range DEC.out (by have a := LE.out; have b := NX.out; rw [HV.out] at b; rw [HD.out] at a b; have c := okI_no.1 GM.out; omega)), rfl⟩
        · have hT : t.data.toList.take k = tl s.data.toList := by
            rw [show k = t.size by omega]
            exact (List.take_of_length_le (by simp)).trans HD.out
          rw [hT] at hv
          rw [hT]
          have HT := Lib.hid hT
          clear hT
          obtain ⟨V, hV⟩ : ∃ V : Nat, vl 0 (tl s.data.toList) = V := ⟨_, rfl⟩
          rw [hV] at hv
          rw [hV]
          have HV := Lib.hid hV
          clear hV
          go_wp2_with (first | (go_at_call 15; refine (mulRef_any _ _ _ (by omega) (by omega) (by omega) (by omega)).mono ?_; rintro e w' ⟨rfl, rfl⟩) | (go_at_call 13; refine (subRef_any _ _ _ (by omega) (by omega) (by omega) (by omega)).mono ?_; rintro e w' ⟨rfl, rfl⟩) | (go_at_call 33; refine (digits_any _ _ (by omega)).mono ?_; rintro e w' ⟨rfl, rfl⟩))
          go_ret2
          exact ⟨ret2 (by rw [parseS, DEC.out, if_pos rfl, valS, MIN.out, if_pos rfl, HV.out, lim_ok (okI_iff.2 ⟨by omega, by omega⟩)]), rfl⟩
set_option maxHeartbeats 400000 in
theorem parseRef_plain (s : ByteArray) (w : World) (hs : s.size ≤ 1000) (h0 : 0 < s.size) (hm : ((s[0].toNat : Int) == 45) = false) (hd : s.data.toList = tl s.data.toList) (hmin : minus s.data.toList = false) :
    Calls Tryd.prog 26 #[.string s] w (parsedR s.data.toList w) := by
  have HD := Lib.hid hd
  have MIN := Lib.hid hmin
  clear hd hmin
  cases e0 : dgS s.data.toList
  · have FIN := Lib.hid (parsed_no (isDec_no1 HD.out e0))
    go_enter Tryd.func26, Tryd.ntmps26
    go_wp2_with (first | (go_at_call 15; refine (mulRef_any _ _ _ (by omega) (by omega) (by omega) (by omega)).mono ?_; rintro e w' ⟨rfl, rfl⟩) | (go_at_call 13; refine (subRef_any _ _ _ (by omega) (by omega) (by omega) (by omega)).mono ?_; rintro e w' ⟨rfl, rfl⟩) | (go_at_call 33; refine (digits_any _ _ (by omega)).mono ?_; rintro e w' ⟨rfl, rfl⟩))
    go_ret2
    exact ⟨ret2 FIN.out, rfl⟩
  · have ht0 := size_of_dgS e0
    by_cases c0 : s[0].toNat = 48
    · by_cases z : s.data.toList = [48]
      · have hz : (!s.toList == [48]) = false := str_no z
        have DEC := Lib.hid (isDec_yes HD.out e0 (fun x => x.2 z))
        have DD := Lib.hid (isDec_parts DEC.out).1
        have c1 : ((s[0].toNat : Int) == 48) = true := by simp; omega
        clear c0 z
        go_enter Tryd.func26, Tryd.ntmps26
        go_wp2_with (first | (go_at_call 15; refine (mulRef_any _ _ _ (by omega) (by omega) (by omega) (by omega)).mono ?_; rintro e w' ⟨rfl, rfl⟩) | (go_at_call 13; refine (subRef_any _ _ _ (by omega) (by omega) (by omega) (by omega)).mono ?_; rintro e w' ⟨rfl, rfl⟩) | (go_at_call 33; refine (digits_any _ _ (by omega)).mono ?_; rintro e w' ⟨rfl, rfl⟩))
        go_loop [6, 7] (fun n i => ∃ k : Nat, k ≤ s.size ∧ i = .int .i64 k ∧ (vl 0 (s.data.toList.take k) : Int) ≤ 9223372036854775808 ∧ n = .int .i64 (-(vl 0 (s.data.toList.take k) : Int))) (fun _ i => s.size - (intOf i).toNat)
        case atStart => exact ⟨0, Nat.zero_le _, rfl, by simp [vl_nil], by simp [vl_nil]⟩
        case round =>
          obtain ⟨k, hk, rfl, hv, rfl⟩ := hrel
          by_cases hlt : k < s.size
          · have g := dgt_at HD.out DD.out hlt
            have g3 : (48 : Int) ≤ (s[k].toNat : Int) := by omega
            have g4 : (s[k].toNat : Int) ≤ 57 := by omega
            have NX : Hid (vl 0 (s.data.toList.take (k + 1)) = vl 0 (s.data.toList.take k) * 10 + (s[k].toNat - 48)) := Lib.hid (by rw [take_snoc s k hlt, vl_snoc])
            have LE := Lib.hid (vl_take_le s.data.toList (k + 1))
            clear g
            obtain ⟨V, hV⟩ : ∃ V : Nat, vl 0 (s.data.toList.take k) = V := ⟨_, rfl⟩
            rw [hV] at hv
            rw [hV]
            have HV := Lib.hid hV
            clear hV
            by_cases gm : okI (-(V : Int) * 10) = true
            · have l1 := lim1 gm
              have l2 := lim2 gm
              have gb := okI_iff.1 gm
              have gb0 := gb.1
              have gb1 := gb.2
              clear gm gb
              by_cases gs : okI (-(V : Int) * 10 - ((s[k].toNat : Int) - 48)) = true
              · have m1 := lim1 gs
                have m2 := lim2 gs
                have gc := (okI_iff.1 gs).1
                clear gs
                go_wp2_with (first | (go_at_call 15; refine (mulRef_any _ _ _ (by omega) (by omega) (by omega) (by omega)).mono ?_; rintro e w' ⟨rfl, rfl⟩) | (go_at_call 13; refine (subRef_any _ _ _ (by omega) (by omega) (by omega) (by omega)).mono ?_; rintro e w' ⟨rfl, rfl⟩) | (go_at_call 33; refine (digits_any _ _ (by omega)).mono ?_; rintro e w' ⟨rfl, rfl⟩))
                go_round
                case rel => exact ⟨k + 1, by omega, by go_num, by rw [NX.out, HV.out]; omega, by rw [NX.out, HV.out]; congr 1; omega⟩
                case measure => simp [intOf]; omega
              · have gs' : okI (-(V : Int) * 10 - ((s[k].toNat : Int) - 48)) = false := by simpa using gs
                have m3 := lim3 gs'
                have GS := Lib.hid gs'
                clear gs gs'
                go_wp2_with (first | (go_at_call 15; refine (mulRef_any _ _ _ (by omega) (by omega) (by omega) (by omega)).mono ?_; rintro e w' ⟨rfl, rfl⟩) | (go_at_call 13; refine (subRef_any _ _ _ (by omega) (by omega) (by omega) (by omega)).mono ?_; rintro e w' ⟨rfl, rfl⟩) | (go_at_call 33; refine (digits_any _ _ (by omega)).mono ?_; rintro e w' ⟨rfl, rfl⟩))
                go_ret2
                exact ⟨ret2 (parsed_range DEC.out (by have a := LE.out; have b := NX.out; rw [HV.out] at b; rw [HD.out] at a b; have c := okI_no.1 GS.out; omega)), rfl⟩
            · have gm' : okI (-(V : Int) * 10) = false := by simpa using gm
              have l3 := lim3 gm'
              have l1 : (lim (-(V : Int) * 10)).1 = 0 := by rw [lim_no gm']
              have GM := Lib.hid gm'
              clear gm gm'
              go_wp2_with (first | (go_at_call 15; refine (mulRef_any _ _ _ (by omega) (by omega) (by omega) (by omega)).mono ?_; rintro e w' ⟨rfl, rfl⟩) | (go_at_call 13; refine (subRef_any _ _ _ (by omega) (by omega) (by omega) (by omega)).mono ?_; rintro e w' ⟨rfl, rfl⟩) | (go_at_call 33; refine (digits_any _ _ (by omega)).mono ?_; rintro e w' ⟨rfl, rfl⟩))
              go_ret2
              exact ⟨ret2 (parsed_range DEC.out (by have a := LE.out; have b := NX.out; rw [HV.out] at b; rw [HD.out] at a b; have c := okI_no.1 GM.out; omega)), rfl⟩
          · have hT : s.data.toList.take k = tl s.data.toList := by
              rw [show k = s.size by omega]
              exact (List.take_of_length_le (by simp)).trans HD.out
            rw [hT] at hv
            rw [hT]
            have HT := Lib.hid hT
            clear hT
            obtain ⟨V, hV⟩ : ∃ V : Nat, vl 0 (tl s.data.toList) = V := ⟨_, rfl⟩
            rw [hV] at hv
            rw [hV]
            have HV := Lib.hid hV
            clear hV
            go_wp2_with (first | (go_at_call 15; refine (mulRef_any _ _ _ (by omega) (by omega) (by omega) (by omega)).mono ?_; rintro e w' ⟨rfl, rfl⟩) | (go_at_call 13; refine (subRef_any _ _ _ (by omega) (by omega) (by omega) (by omega)).mono ?_; rintro e w' ⟨rfl, rfl⟩) | (go_at_call 33; refine (digits_any _ _ (by omega)).mono ?_; rintro e w' ⟨rfl, rfl⟩))
            go_ret2
            exact ⟨ret2 (by rw [parseS, DEC.out, if_pos rfl, valS, MIN.out, if_neg (by decide), HV.out]), rfl⟩
      · have hz : (!s.toList == [48]) = true := str_yes z
        have FIN := Lib.hid (parsed_no (isDec_no2 HD.out ht0 c0 z))
        have c1 : ((s[0].toNat : Int) == 48) = true := by simp; omega
        clear c0 z
        go_enter Tryd.func26, Tryd.ntmps26
        go_wp2_with (first | (go_at_call 15; refine (mulRef_any _ _ _ (by omega) (by omega) (by omega) (by omega)).mono ?_; rintro e w' ⟨rfl, rfl⟩) | (go_at_call 13; refine (subRef_any _ _ _ (by omega) (by omega) (by omega) (by omega)).mono ?_; rintro e w' ⟨rfl, rfl⟩) | (go_at_call 33; refine (digits_any _ _ (by omega)).mono ?_; rintro e w' ⟨rfl, rfl⟩))
        go_ret2
        exact ⟨ret2 FIN.out, rfl⟩
    · have DEC := Lib.hid (isDec_yes HD.out e0 (head_no HD.out ht0 c0))
      have DD := Lib.hid (isDec_parts DEC.out).1
      have c1 : ((s[0].toNat : Int) == 48) = false := by simp; omega
      clear c0
      go_enter Tryd.func26, Tryd.ntmps26
      go_wp2_with (first | (go_at_call 15; refine (mulRef_any _ _ _ (by omega) (by omega) (by omega) (by omega)).mono ?_; rintro e w' ⟨rfl, rfl⟩) | (go_at_call 13; refine (subRef_any _ _ _ (by omega) (by omega) (by omega) (by omega)).mono ?_; rintro e w' ⟨rfl, rfl⟩) | (go_at_call 33; refine (digits_any _ _ (by omega)).mono ?_; rintro e w' ⟨rfl, rfl⟩))
      go_loop [6, 7] (fun n i => ∃ k : Nat, k ≤ s.size ∧ i = .int .i64 k ∧ (vl 0 (s.data.toList.take k) : Int) ≤ 9223372036854775808 ∧ n = .int .i64 (-(vl 0 (s.data.toList.take k) : Int))) (fun _ i => s.size - (intOf i).toNat)
      case atStart => exact ⟨0, Nat.zero_le _, rfl, by simp [vl_nil], by simp [vl_nil]⟩
      case round =>
        obtain ⟨k, hk, rfl, hv, rfl⟩ := hrel
        by_cases hlt : k < s.size
        · have g := dgt_at HD.out DD.out hlt
          have g3 : (48 : Int) ≤ (s[k].toNat : Int) := by omega
          have g4 : (s[k].toNat : Int) ≤ 57 := by omega
          have NX : Hid (vl 0 (s.data.toList.take (k + 1)) = vl 0 (s.data.toList.take k) * 10 + (s[k].toNat - 48)) := Lib.hid (by rw [take_snoc s k hlt, vl_snoc])
          have LE := Lib.hid (vl_take_le s.data.toList (k + 1))
          clear g
          obtain ⟨V, hV⟩ : ∃ V : Nat, vl 0 (s.data.toList.take k) = V := ⟨_, rfl⟩
          rw [hV] at hv
          rw [hV]
          have HV := Lib.hid hV
          clear hV
          by_cases gm : okI (-(V : Int) * 10) = true
          · have l1 := lim1 gm
            have l2 := lim2 gm
            have gb := okI_iff.1 gm
            have gb0 := gb.1
            have gb1 := gb.2
            clear gm gb
            by_cases gs : okI (-(V : Int) * 10 - ((s[k].toNat : Int) - 48)) = true
            · have m1 := lim1 gs
              have m2 := lim2 gs
              have gc := (okI_iff.1 gs).1
              clear gs
              go_wp2_with (first | (go_at_call 15; refine (mulRef_any _ _ _ (by omega) (by omega) (by omega) (by omega)).mono ?_; rintro e w' ⟨rfl, rfl⟩) | (go_at_call 13; refine (subRef_any _ _ _ (by omega) (by omega) (by omega) (by omega)).mono ?_; rintro e w' ⟨rfl, rfl⟩) | (go_at_call 33; refine (digits_any _ _ (by omega)).mono ?_; rintro e w' ⟨rfl, rfl⟩))
              go_round
              case rel => exact ⟨k + 1, by omega, by go_num, by rw [NX.out, HV.out]; omega, by rw [NX.out, HV.out]; congr 1; omega⟩
              case measure => simp [intOf]; omega
            · have gs' : okI (-(V : Int) * 10 - ((s[k].toNat : Int) - 48)) = false := by simpa using gs
              have m3 := lim3 gs'
              have GS := Lib.hid gs'
              clear gs gs'
              go_wp2_with (first | (go_at_call 15; refine (mulRef_any _ _ _ (by omega) (by omega) (by omega) (by omega)).mono ?_; rintro e w' ⟨rfl, rfl⟩) | (go_at_call 13; refine (subRef_any _ _ _ (by omega) (by omega) (by omega) (by omega)).mono ?_; rintro e w' ⟨rfl, rfl⟩) | (go_at_call 33; refine (digits_any _ _ (by omega)).mono ?_; rintro e w' ⟨rfl, rfl⟩))
              go_ret2
              exact ⟨ret2 (parsed_range DEC.out (by have a := LE.out; have b := NX.out; rw [HV.out] at b; rw [HD.out] at a b; have c := okI_no.1 GS.out; omega)), rfl⟩
          · have gm' : okI (-(V : Int) * 10) = false := by simpa using gm
            have l3 := lim3 gm'
            have l1 : (lim (-(V : Int) * 10)).1 = 0 := by rw [lim_no gm']
            have GM := Lib.hid gm'
            clear gm gm'
            go_wp2_with (first | (go_at_call 15; refine (mulRef_any _ _ _ (by omega) (by omega) (by omega) (by omega)).mono ?_; rintro e w' ⟨rfl, rfl⟩) | (go_at_call 13; refine (subRef_any _ _ _ (by omega) (by omega) (by omega) (by omega)).mono ?_; rintro e w' ⟨rfl, rfl⟩) | (go_at_call 33; refine (digits_any _ _ (by omega)).mono ?_; rintro e w' ⟨rfl, rfl⟩))
            go_ret2
            exact ⟨ret2 (parsed_range DEC.out (by have a := LE.out; have b := NX.out; rw [HV.out] at b; rw [HD.out] at a b; have c := okI_no.1 GM.out; omega)), rfl⟩
        · have hT : s.data.toList.take k = tl s.data.toList := by
            rw [show k = s.size by omega]
            exact (List.take_of_length_le (by simp)).trans HD.out
          rw [hT] at hv
          rw [hT]
          have HT := Lib.hid hT
          clear hT
          obtain ⟨V, hV⟩ : ∃ V : Nat, vl 0 (tl s.data.toList) = V := ⟨_, rfl⟩
          rw [hV] at hv
          rw [hV]
          have HV := Lib.hid hV
          clear hV
          go_wp2_with (first | (go_at_call 15; refine (mulRef_any _ _ _ (by omega) (by omega) (by omega) (by omega)).mono ?_; rintro e w' ⟨rfl, rfl⟩) | (go_at_call 13; refine (subRef_any _ _ _ (by omega) (by omega) (by omega) (by omega)).mono ?_; rintro e w' ⟨rfl, rfl⟩) | (go_at_call 33; refine (digits_any _ _ (by omega)).mono ?_; rintro e w' ⟨rfl, rfl⟩))
          go_ret2
          exact ⟨ret2 (by rw [parseS, DEC.out, if_pos rfl, valS, MIN.out, if_neg (by decide), HV.out]), rfl⟩
theorem parseRef_empty (w : World) : Calls Tryd.prog 26 #[.string ⟨#[]⟩] w (parsedR [] w) := by
  have e0 : dgS (⟨#[]⟩ : ByteArray).data.toList = false := rfl
  go_enter Tryd.func26, Tryd.ntmps26
  go_wp2_with (first | (go_at_call 15; refine (mulRef_any _ _ _ (by omega) (by omega) (by omega) (by omega)).mono ?_; rintro e w' ⟨rfl, rfl⟩) | (go_at_call 13; refine (subRef_any _ _ _ (by omega) (by omega) (by omega) (by omega)).mono ?_; rintro e w' ⟨rfl, rfl⟩) | (go_at_call 33; refine (digits_any _ _ (by decide)).mono ?_; rintro e w' ⟨rfl, rfl⟩))
  go_ret2
  exact ⟨rfl, rfl⟩
/-- The reference's Parse, for every string of at most 1000 bytes. -/
theorem parseRef_any (s : ByteArray) (w : World) (hs : s.size ≤ 1000) : Calls Tryd.prog 26 #[.string s] w (parsedR s.data.toList w) := by
  by_cases h0 : 0 < s.size
  · have hh : s.data.toList.head? = some s[0] := by
      have h : 0 < s.data.toList.length := by simpa using h0
      rw [List.head?_eq_getElem?, List.getElem?_eq_getElem h]; rfl
    by_cases c : s[0].toNat = 45
    · have hm : minus s.data.toList = true := by
        rw [minus, hh, show s[0] = 45 from by rw [← UInt8.toNat_inj, c]; rfl]; rfl
      have ht : tl s.data.toList = s.data.toList.tail := by rw [tl, hm]; rfl
      refine parseRef_minus s (s.extract 1 s.size) w hs h0 (by simp; omega) rfl ?_ hm ?_
      · rw [Lib.extract_data, ht, List.take_of_length_le (by simp), List.drop_one]
      · simp; omega
    · have hm : minus s.data.toList = false := by
        rw [minus, hh, beq_eq_false_iff_ne]
        intro x; exact c (by rw [Option.some.inj x]; rfl)
      exact parseRef_plain s w hs h0 (by simp; omega) (by rw [tl, hm]; rfl) hm
  · have e : s = ⟨#[]⟩ := by
      apply ByteArray.ext
      apply Array.eq_empty_of_size_eq_zero
      have : s.data.size = s.size := rfl
      omega
    subst e
    exact parseRef_empty w
end Go.Proofs.YtdibcmcjnhhbgaaDoor.NumW
