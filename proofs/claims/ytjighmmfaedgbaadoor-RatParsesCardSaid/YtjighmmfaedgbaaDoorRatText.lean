/-
  What Format of package rat returns; what the row's listed variables give the walks.
-/
import Derived.Test.YtjighmmfaedgbaaDoorPackMath
import Derived.Test.YtjighmmfaedgbaaDoorPackParse
import Derived.Test.YtjighmmfaedgbaaDoorRatCodeA
import Derived.Lib.ItoaLen
import Derived.WalkSmall
namespace Go.Proofs.YtjighmmfaedgbaaDoor.RatW
open Go Go.RowKit Go.Proofs.YtjighmmfaedgbaaDoor.RatM

/-- What the listed variables give the walks. -/
structure Tab (w : World) : Prop where
  pow10 : Lib.TabIs Tryd.prog w "internal/strconv.uint64pow10" .u64 Lib.pow10Tab
theorem gPow10 : Tryd.prog.globalNamed "internal/strconv.uint64pow10" = some 5 := by kernel_rfl
theorem var_later {n : String} {g : Nat} {cs : Array Value} {w w' : World} (hg : Tryd.prog.globalNamed n = some g) (h : w.var? Tryd.prog n = some cs) (hb : Below w.heap.size w w') : w'.var? Tryd.prog n = some cs := by
  by_cases hlt : g < w.heap.size
  · exact var?_below hb hg hlt h
  · unfold World.var? at h
    simp only [hg, Option.bind_some] at h
    rw [Array.getElem?_eq_none (by omega)] at h
    cases h
theorem Tab.later {w w' : World} (h : Tab w) (hb : Below w.heap.size w w') : Tab w' := ⟨var_later gPow10 h.pow10 hb⟩
abbrev bs (l : List UInt8) : ByteArray := ⟨l.toArray⟩
theorem bs_inj {a b : ByteArray} (h : a.data.toList = b.data.toList) : a = b := by
  have : bs a.data.toList = bs b.data.toList := by rw [h]
  exact this
def fmtS (n d : Int) : List UInt8 := if validS n d then (if d = 1 then Lib.itoa n else Lib.itoa n ++ 47 :: Lib.itoa d) else []
def tStr (w : World) (l : List UInt8) (e : Ending) (w' : World) : Prop := e = .returned (.string (bs l)) ∧ Below w.heap.size w w'
theorem tStr_mk {w w' : World} {l : List UInt8} {s : ByteArray} (h : s.data.toList = l) (hb : Below w.heap.size w w') : tStr w l (.returned (.string s)) w' := by subst h; exact ⟨rfl, hb⟩
theorem fmt_no {n d : Int} (h : validS n d = false) : fmtS n d = [] := by unfold fmtS; rw [h]; rfl
theorem fmt_int {n : Int} (h : validS n 1 = true) : fmtS n 1 = Lib.itoa n := by unfold fmtS; rw [h]; rfl
theorem fmt_quo {n d : Int} (h : validS n d = true) (hd : ¬ d = 1) : fmtS n d = Lib.itoa n ++ 47 :: Lib.itoa d := by unfold fmtS; rw [h, if_pos rfl, if_neg hd]
theorem num_letter (n : Int) (h0 : -9223372036854775808 ≤ n) (h1 : n ≤ 9223372036854775807) : ∃ P : ByteArray, P.data.toList = Lib.itoa n ∧ P.size ≤ 21 ∧ ∀ w, Tab w → Calls Tryd.prog 48 #[.int .i64 n] w fun e w' => e = .returned (.string P) ∧ Below w.heap.size w w' :=
  ⟨⟨(Lib.itoa n).toArray⟩, rfl, by show (Lib.itoa n).toArray.size ≤ 21; rw [List.size_toArray]; exact Lib.itoa_length_le n h0 h1, fun w ht => PackW.formatCode_any n w h0 h1 ht.pow10⟩
set_option maxRecDepth 100000 in
set_option maxHeartbeats 8000000 in
theorem formatCode (n d : Int) (w : World) (n0 : -9223372036854775808 ≤ n) (n1 : n ≤ 9223372036854775807) (d0 : -9223372036854775808 ≤ d) (d1 : d ≤ 9223372036854775807) (ht : Tab w) :
    Calls Tryd.prog 30 #[rv n d] w (tStr w (fmtS n d)) := by
  have HT := Lib.hid ht
  clear ht
  have V1 := fun w => validCode n d w n0 n1 d0 d1
  obtain ⟨W0, hW0⟩ : ∃ W0, w.alloc (.cells #[.int .i64 n, .int .i64 d] 23) = W0 := ⟨_, rfl⟩
  have H1 : Hid (Two W0 w.heap.size (.int .i64 n) (.int .i64 d)) := Lib.hid (by rw [← hW0]; exact Two.new _ _ _ _)
  have HBW : Hid (Below w.heap.size w W0) := Lib.hid (by rw [← hW0]; exact (Below.refl _ _).alloc (Nat.le_refl _) _)
  have HW := Lib.hid hW0
  clear hW0
  have e0 := H1.out.c0
  have e1 := H1.out.c1
  cases hv : validS n d
  · rw [hv] at V1
    have FN := Lib.hid (fmt_no hv)
    have V1 := Lib.hid V1
    clear hv
    go_enter Tryd.func30, Tryd.ntmps30
    go_wp2_with (rw [HW.out]; (go_at_call 15; ((with_reducible refine (V1.out _).mono ?_); rintro e w1 ⟨rfl, hb1⟩; have HB1 := Lib.hid hb1; clear hb1)))
    go_ret
    exact tStr_mk FN.out.symm (HBW.out.trans (HB1.out.mono HBW.out.size))
  · rw [hv] at V1
    have V1 := Lib.hid V1
    obtain ⟨P, hP, sP, FP⟩ := num_letter n n0 n1
    have FP := Lib.hid FP
    have HP := Lib.hid hP
    clear hP
    by_cases hd : d = 1
    · subst hd
      have FN := Lib.hid (fmt_int hv)
      clear hv
      go_enter Tryd.func30, Tryd.ntmps30
      go_wp2_with (first
        | (rw [HW.out]; (go_at_call 15; ((with_reducible refine (V1.out _).mono ?_); rintro e w1 ⟨rfl, hb1⟩; have HB1 := Lib.hid hb1; have f0 := (H1.out.stay hb1).c0; have f1 := (H1.out.stay hb1).c1; clear hb1)))
        | (go_at_call 48; refine (FP.out _ ((HT.out.later HBW.out).later HB1.out)).mono ?_; rintro e w2 ⟨rfl, hb2⟩; have HB2 := Lib.hid hb2; clear hb2))
      go_ret
      exact tStr_mk (HP.out.trans FN.out.symm) ((HBW.out.trans (HB1.out.mono HBW.out.size)).trans (HB2.out.mono (Nat.le_trans HBW.out.size HB1.out.size)))
    · obtain ⟨Q, hQ, sQ, FQ⟩ := num_letter d d0 d1
      have FQ := Lib.hid FQ
      have HQ := Lib.hid hQ
      clear hQ
      have FN := Lib.hid (fmt_quo hv hd)
      clear hv
      have t1 : ¬ 9223372036854775807 < P.size + (⟨#[47]⟩ : ByteArray).size := by show ¬ 9223372036854775807 < P.size + 1; omega
      have t2 : ¬ 9223372036854775807 < P.size + 1 := by omega
      have t3 : ¬ 9223372036854775807 < (P ++ (⟨#[47]⟩ : ByteArray)).size + Q.size := by rw [ByteArray.size_append]; show ¬ 9223372036854775807 < P.size + 1 + Q.size; omega
      have t4 : ¬ 9223372036854775807 < P.size + 1 + Q.size := by omega
      have t5 : ¬ 9223372036854775807 < P.size + (⟨#[47]⟩ : ByteArray).size + Q.size := by show ¬ 9223372036854775807 < P.size + 1 + Q.size; omega
      go_enter Tryd.func30, Tryd.ntmps30
      go_wp2_with (rw [HW.out]; (go_at_call 15; ((with_reducible refine (V1.out _).mono ?_); rintro e w1 ⟨rfl, hb1⟩; have HB1 := Lib.hid hb1; have f0 := (H1.out.stay hb1).c0; have f1 := (H1.out.stay hb1).c1; clear hb1 e0 e1)))
      have D1 := H1.out.stay HB1.out
      have HT1 := Lib.hid ((HT.out.later HBW.out).later HB1.out)
      clear f0 f1
      go_region_held3 (fun w' => w'.cell? ⟨w.heap.size, 0, none⟩ = some (.int .i64 n) ∧ w'.cell? ⟨w.heap.size, 1, none⟩ = some (.int .i64 d)) (first | assumption | exact ⟨D1.drew.c0, D1.drew.c1⟩ | fail)
        (first
          | (go_at_call 48; ((with_reducible refine (FP.out _ (by first | exact HT1.out.later (Below.refl _ _).drew | exact HT1.out.later HX.out)).mono ?_); rintro e wx ⟨rfl, hb⟩; have HX : Hid (Below w1.heap.size w1 wx) := Lib.hid (by first | exact below_drew hb | exact Below.then_ HX.out hb); have X1 := D1.stay HX.out; have K : wx.cell? ⟨w.heap.size, 0, none⟩ = some (.int .i64 n) ∧ wx.cell? ⟨w.heap.size, 1, none⟩ = some (.int .i64 d) := ⟨X1.c0, X1.c1⟩; clear hb))
          | (go_at_call 48; ((with_reducible refine (FQ.out _ (by first | exact HT1.out.later (Below.refl _ _).drew | exact HT1.out.later HX.out)).mono ?_); rintro e wx ⟨rfl, hb⟩; have HX : Hid (Below w1.heap.size w1 wx) := Lib.hid (by first | exact below_drew hb | exact Below.then_ HX.out hb); have X1 := D1.stay HX.out; have K : wx.cell? ⟨w.heap.size, 0, none⟩ = some (.int .i64 n) ∧ wx.cell? ⟨w.heap.size, 1, none⟩ = some (.int .i64 d) := ⟨X1.c0, X1.c1⟩; clear hb)))
      all_goals
        go_wp2
        go_ret
        exact tStr_mk (by rw [FN.out, ← HP.out, ← HQ.out]; simp) ((HBW.out.trans (HB1.out.mono HBW.out.size)).trans (HX.out.mono (Nat.le_trans HBW.out.size HB1.out.size)))
end Go.Proofs.YtjighmmfaedgbaaDoor.RatW
