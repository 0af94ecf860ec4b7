/-
  What the reference's 'Format' of a rational number returns.
-/
import Derived.Test.YtjighmmfaedgbaaDoorRatText
import Derived.Test.YtjighmmfaedgbaaDoorRatRefV
import Derived.Lib.SlBytesRow
namespace Go.Proofs.YtjighmmfaedgbaaDoor.RatW
open Go Go.RowKit Go.Proofs.YtjighmmfaedgbaaDoor.RatM Go.Proofs.YtjighmmfaedgbaaDoor.NumM

theorem belowR_any (a : Int) (w : World) (a0 : -9223372036854775808 ≤ a) (a1 : a ≤ 9223372036854775807) :
    Calls Tryd.prog 70 #[.int .i64 a] w fun e w' => e = .returned (.int .i64 (-(a.natAbs : Int))) ∧ w = w' := by
  go_enter Tryd.func70, Tryd.ntmps70
  go_wp2
  all_goals go_ret
  all_goals exact ⟨PackW.ret1 (by omega), rfl⟩
/-- The last digit. -/
def dc (u : Nat) : UInt8 := UInt8.ofNat (48 + u % 10)
theorem dec_last {u : Nat} (h : ¬ u / 10 = 0) : Lib.decDigits u = Lib.decDigits (u / 10) ++ [dc u] := dec_big (by omega)
theorem dec_first {u : Nat} (h : u / 10 = 0) : Lib.decDigits u = [dc u] := by
  rw [dec_small (by omega), dc, show u % 10 = u by omega]
theorem str_cons (c : UInt8) (r : ByteArray) : ((⟨#[c]⟩ : ByteArray) ++ r).data.toList = c :: r.data.toList := by simp
theorem str_of {s : ByteArray} {l : List UInt8} (h : s.data.toList = l) : s = ⟨l.toArray⟩ := by rw [← h]
theorem rets {a b : ByteArray} (h : a = b) : Ending.returned (.string a) = .returned (.string b) := by rw [h]
theorem conv_one (wr : World) (u : Nat) :
    Sem.run Tryd.prog (convert 83 9 (.slice (some ⟨wr.heap.size, 0, none⟩) 1 1)) (wr.alloc (.cells #[.int .u8 (48 + (u : Int) % 10)] 5)) =
      .ok (.string ⟨#[dc u]⟩) (wr.alloc (.cells #[.int .u8 (48 + (u : Int) % 10)] 5)) := by
  have hb : Lib.Bytes (wr.alloc (.cells #[.int .u8 (48 + (u : Int) % 10)] 5)) wr.heap.size 0 ⟨#[dc u]⟩ := by
    intro i hi
    obtain rfl : i = 0 := by have : i < 1 := hi; omega
    have e : ((48 + u % 10 : Nat) : Int) = 48 + (u : Int) % 10 := by omega
    have t : (dc u).toNat = 48 + u % 10 := dig_toNat (by omega)
    show _ = some (Value.int .u8 ((dc u).toNat : Int))
    rw [t, e]
    simp
  exact Lib.run_convert_whole (P := Tryd.prog) _ 83 5 9 Tryd.underlying83 Tryd.underlying5 Tryd.underlying9 wr.heap.size 0 ⟨#[dc u]⟩ hb 1
set_option maxHeartbeats 400000 in
theorem refNum_any (n : Int) (w : World) (h0 : -9223372036854775808 ≤ n) (h1 : n ≤ 9223372036854775807) :
    Calls Tryd.prog 49 #[.int .i64 n] w fun e w' => e = .returned (.string ⟨(Lib.itoa n).toArray⟩) ∧ Below w.heap.size w w' := by
  go_enter Tryd.func49, Tryd.ntmps49
  go_wp2_with (go_at_call 70; refine (belowR_any _ _ (by omega) (by omega)).mono ?_; rintro e w' ⟨rfl, rfl⟩)
  go_loopw [3, 4] (fun s m wr => ∃ (u : Nat) (r : ByteArray), (u : Int) ≤ 9223372036854775808 ∧ m = .int .i64 (-(u : Int)) ∧ s = .string r ∧ Lib.decDigits n.natAbs = Lib.decDigits u ++ r.data.toList ∧ Below w.heap.size w wr) (fun _ m _ => (-intOf m).toNat)
  case atStart => exact ⟨n.natAbs, ⟨#[]⟩, by omega, rfl, rfl, by simp, Below.refl _ _⟩
  case round =>
    obtain ⟨u, r, hu, rfl, rfl, hd, hb⟩ := hrel
    have HD := Lib.hid hd
    have HB := Lib.hid hb
    clear hd hb
    have hrs : r.size ≤ 30 := by
      have e := congrArg List.length HD.out
      rw [List.length_append, Lib.decDigits_length] at e
      have := Lib.nDigits_le20 n.natAbs (by omega)
      have h2 : r.data.toList.length = r.size := by simp
      omega
    have hcv := conv_one wr u
    by_cases hz : u / 10 = 0
    · have hz1 : (u : Int) / 10 = 0 := by omega
      by_cases hn : n < 0
      · go_wp2
        go_ret
        exact ⟨rets (str_of (by rw [Lib.itoa, if_pos hn, HD.out, dec_first hz]; simp)), HB.out.alloc HB.out.size _⟩
      · go_wp2
        go_ret
        exact ⟨rets (str_of (by rw [Lib.itoa, if_neg (by omega), show n.toNat = n.natAbs by omega, HD.out, dec_first hz]; simp)), HB.out.alloc HB.out.size _⟩
    · have hz1 : (-((u : Int) / 10) == 0) = false := by simp; omega
      go_wp2
      go_roundw
      case rel => exact ⟨u / 10, _, by omega, by simp, rfl, by rw [HD.out, dec_last hz, str_cons]; simp, HB.out.alloc HB.out.size _⟩
      case measure => simp [intOf]; omega
theorem numR_letter (n : Int) (h0 : -9223372036854775808 ≤ n) (h1 : n ≤ 9223372036854775807) : ∃ P : ByteArray, P.data.toList = Lib.itoa n ∧ P.size ≤ 21 ∧ ∀ w, Calls Tryd.prog 49 #[.int .i64 n] w fun e w' => e = .returned (.string P) ∧ Below w.heap.size w w' :=
  ⟨⟨(Lib.itoa n).toArray⟩, rfl, by show (Lib.itoa n).toArray.size ≤ 21; rw [List.size_toArray]; exact Lib.itoa_length_le n h0 h1, fun w => refNum_any n w h0 h1⟩
set_option maxRecDepth 100000 in
set_option maxHeartbeats 8000000 in
theorem formatRef (n d : Int) (w : World) (n0 : -9223372036854775808 ≤ n) (n1 : n ≤ 9223372036854775807) (d0 : -9223372036854775808 ≤ d) (d1 : d ≤ 9223372036854775807) :
    Calls Tryd.prog 31 #[rv n d] w (tStr w (fmtS n d)) := by
  have V1 := fun w => validRef_any n d w n0 n1 d0 d1
  obtain ⟨W0, hW0⟩ : ∃ W0, w.alloc (.cells #[.int .i64 n, .int .i64 d] 23) = W0 := ⟨_, rfl⟩
  have H1 : Hid (Two W0 w.heap.size (.int .i64 n) (.int .i64 d)) := Lib.hid (by rw [← hW0]; exact Two.new _ _ _ _)
  have HBW : Hid (Below w.heap.size w W0) := Lib.hid (by rw [← hW0]; exact (Below.refl _ _).alloc (Nat.le_refl _) _)
  have HW := Lib.hid hW0
  clear hW0
  have e0 := H1.out.c0
  have e1 := H1.out.c1
  cases hv : validS n d
  · rw [hv] at V1
    have FN := Lib.hid (fmt_no hv)
    have V1 := Lib.hid V1
    clear hv
    go_enter Tryd.func31, Tryd.ntmps31
    go_wp2_with (rw [HW.out]; (go_at_call 16; ((with_reducible refine (V1.out _).mono ?_); rintro e w1 ⟨rfl, hb1⟩; have HB1 := Lib.hid hb1; clear hb1)))
    go_ret
    exact tStr_mk FN.out.symm (HBW.out.trans (HB1.out.mono HBW.out.size))
  · rw [hv] at V1
    have V1 := Lib.hid V1
    obtain ⟨P, hP, sP, FP⟩ := numR_letter n n0 n1
    have FP := Lib.hid FP
    have HP := Lib.hid hP
    clear hP
    by_cases hd : d = 1
    · subst hd
      have FN := Lib.hid (fmt_int hv)
      clear hv
      go_enter Tryd.func31, Tryd.ntmps31
      go_wp2_with (first
        | (rw [HW.out]; (go_at_call 16; ((with_reducible refine (V1.out _).mono ?_); rintro e w1 ⟨rfl, hb1⟩; have HB1 := Lib.hid hb1; have f0 := (H1.out.stay hb1).c0; have f1 := (H1.out.stay hb1).c1; clear hb1)))
        | (go_at_call 49; refine (FP.out _).mono ?_; rintro e w2 ⟨rfl, hb2⟩; have HB2 := Lib.hid hb2; clear hb2))
      go_ret
      exact tStr_mk (HP.out.trans FN.out.symm) ((HBW.out.trans (HB1.out.mono HBW.out.size)).trans (HB2.out.mono (Nat.le_trans HBW.out.size HB1.out.size)))
    · obtain ⟨Q, hQ, sQ, FQ⟩ := numR_letter d d0 d1
      have FQ := Lib.hid FQ
      have HQ := Lib.hid hQ
      clear hQ
      have FN := Lib.hid (fmt_quo hv hd)
      clear hv
      have t1 : ¬ 9223372036854775807 < P.size + (⟨#[47]⟩ : ByteArray).size := by show ¬ 9223372036854775807 < P.size + 1; omega
      have t2 : ¬ 9223372036854775807 < P.size + 1 := by omega
      have t3 : ¬ 9223372036854775807 < (P ++ (⟨#[47]⟩ : ByteArray)).size + Q.size := by rw [ByteArray.size_append]; show ¬ 9223372036854775807 < P.size + 1 + Q.size; omega
      have t4 : ¬ 9223372036854775807 < P.size + 1 + Q.size := by omega
      have t5 : ¬ 9223372036854775807 < P.size + (⟨#[47]⟩ : ByteArray).size + Q.size := by show ¬ 9223372036854775807 < P.size + 1 + Q.size; omega
      go_enter Tryd.func31, Tryd.ntmps31
      go_wp2_with (rw [HW.out]; (go_at_call 16; ((with_reducible refine (V1.out _).mono ?_); rintro e w1 ⟨rfl, hb1⟩; have HB1 := Lib.hid hb1; have f0 := (H1.out.stay hb1).c0; have f1 := (H1.out.stay hb1).c1; clear hb1 e0 e1)))
      have D1 := H1.out.stay HB1.out
      clear f0 f1
      go_region_held3 (fun w' => w'.cell? ⟨w.heap.size, 0, none⟩ = some (.int .i64 n) ∧ w'.cell? ⟨w.heap.size, 1, none⟩ = some (.int .i64 d)) (first | assumption | exact ⟨D1.drew.c0, D1.drew.c1⟩ | fail)
        (first
          | (go_at_call 49; ((with_reducible refine (FP.out _).mono ?_); rintro e wx ⟨rfl, hb⟩; have HX : Hid (Below w1.heap.size w1 wx) := Lib.hid (by first | exact below_drew hb | exact Below.then_ HX.out hb); have X1 := D1.stay HX.out; have K : wx.cell? ⟨w.heap.size, 0, none⟩ = some (.int .i64 n) ∧ wx.cell? ⟨w.heap.size, 1, none⟩ = some (.int .i64 d) := ⟨X1.c0, X1.c1⟩; clear hb))
          | (go_at_call 49; ((with_reducible refine (FQ.out _).mono ?_); rintro e wx ⟨rfl, hb⟩; have HX : Hid (Below w1.heap.size w1 wx) := Lib.hid (by first | exact below_drew hb | exact Below.then_ HX.out hb); have X1 := D1.stay HX.out; have K : wx.cell? ⟨w.heap.size, 0, none⟩ = some (.int .i64 n) ∧ wx.cell? ⟨w.heap.size, 1, none⟩ = some (.int .i64 d) := ⟨X1.c0, X1.c1⟩; clear hb)))
      all_goals
        go_wp2
        go_ret
        exact tStr_mk (by rw [FN.out, ← HP.out, ← HQ.out]; simp) ((HBW.out.trans (HB1.out.mono HBW.out.size)).trans (HX.out.mono (Nat.le_trans HBW.out.size HB1.out.size)))
end Go.Proofs.YtjighmmfaedgbaaDoor.RatW
