/-
  What 'awake' returns: the program computes.
-/
import Derived.Test.YtdibcmcjnhhbgaaDoorNumParse
import Derived.WalkSmall
namespace Go.Proofs.YtdibcmcjnhhbgaaDoor.NumW
open Go Go.RowKit Go.Proofs.YtdibcmcjnhhbgaaDoor.NumM

/-- What the listed variables give the walks. -/
structure Tab (w : World) : Prop where
  pow10 : Lib.TabIs Tryd.prog w "internal/strconv.uint64pow10" .u64 Lib.pow10Tab
  range : ∃ tp p, w.var? Tryd.prog "strconv.ErrRange" = some #[.iface tp p]
theorem gRange : Tryd.prog.globalNamed "strconv.ErrRange" = some 1 := by kernel_rfl
theorem gPow10 : Tryd.prog.globalNamed "internal/strconv.uint64pow10" = some 2 := by kernel_rfl
theorem var_later {n : String} {g : Nat} {cs : Array Value} {w w' : World} (hg : Tryd.prog.globalNamed n = some g) (h : w.var? Tryd.prog n = some cs) (hb : Below w.heap.size w w') : w'.var? Tryd.prog n = some cs := by
  by_cases hlt : g < w.heap.size
  · exact var?_below hb hg hlt h
  · unfold World.var? at h
    simp only [hg, Option.bind_some] at h
    rw [Array.getElem?_eq_none (by omega)] at h
    cases h
theorem Tab.later {w w' : World} (h : Tab w) (hb : Below w.heap.size w w') : Tab w' :=
  ⟨var_later gPow10 h.pow10 hb, by obtain ⟨tp, p, hr⟩ := h.range; exact ⟨tp, p, var_later gRange hr hb⟩⟩
theorem below_drewN (w : World) (n : Nat) : Below w.heap.size w (w.drewN n) := ⟨rfl, rfl, rfl, Nat.le_refl _, fun _ _ => rfl⟩

theorem below_drewN' {B : Nat} (w : World) (n : Nat) (_h : B ≤ w.heap.size) : Below B w (w.drewN n) := ⟨rfl, rfl, rfl, Nat.le_refl _, fun _ _ => rfl⟩
theorem itoa12 : (⟨(Lib.itoa (-12)).toArray⟩ : ByteArray) = ⟨#[45, 49, 50]⟩ := by
  rw [show Lib.itoa (-12) = [45, 49, 50] from by
    rw [Lib.itoa, if_pos (by decide), show (-12 : Int).natAbs = 12 from rfl, dec_big (by decide), dec_small (by decide)]; rfl]
set_option maxHeartbeats 1000000 in
theorem awake_any (w : World) (h : Tab w) :
    Calls Tryd.prog 16 #[] w fun e w' => e = .returned (.bool true) ∧ Below w.heap.size w w' := by
  have T := Lib.hid h
  clear h
  go_enter Tryd.func16, Tryd.ntmps16
  go_wp2_with fail
  refine (divCode_any _ _ _ (by omega) (by omega) (by omega) (by omega)).mono ?_
  rintro e w' ⟨rfl, rfl⟩
  rw [show divS (-7) 2 = (-4, 0) from by decide]
  go_wp2_with fail
  refine (powCode_any _ _ _ (by omega) (by omega) (by omega) (by omega)).mono ?_
  rintro e w' ⟨rfl, rfl⟩
  rw [show powS (-2) 63 = (-9223372036854775808, 0) from by decide]
  go_wp2_with fail
  refine (lcmCode_any _ _ _ (by omega) (by omega) (by omega) (by omega)).mono ?_
  rintro e w' ⟨rfl, n1, rfl⟩
  rw [show lcmS (-4) 6 = (12, 0) from by decide]
  go_wp2_with fail
  obtain ⟨tp, p, hr⟩ := T.out.range
  refine (parseCode_any _ _ (by decide) tp p ?_).mono ?_
  · exact hr
  rintro e W1 ⟨rfl, hb1⟩
  have HB1 := Lib.hid hb1
  clear hb1 hr
  rw [show parseS (⟨#[45, 49, 50]⟩ : ByteArray).data.toList = (-12, 0) from by decide]
  go_wp2_with fail
  refine (mulCode_any _ _ _ (by omega) (by omega) (by omega) (by omega)).mono ?_
  rintro e w' ⟨rfl, rfl⟩
  rw [show lim (4294967296 * 2147483648) = (0, 3) from by decide]
  go_wp2_with fail
  refine (gcdCode_any _ _ _ (by omega) (by omega) (by omega) (by omega)).mono ?_
  rintro e w' ⟨rfl, n2, rfl⟩
  rw [show gcdS (-4) 6 = 2 from by decide]
  go_wp2_with fail
  refine (formatCode_any _ _ (by omega) (by omega) ?_).mono ?_
  · exact ((T.out.later (below_drewN _ _)).later (HB1.out)).pow10
  rintro e W2 ⟨rfl, hb2⟩
  have HB2 := Lib.hid hb2
  clear hb2
  rw [itoa12]
  go_wp2_with fail
  go_ret
  exact ⟨rfl, (below_drewN w n1).trans ((HB1.out).trans ((below_drewN' W1 n2 (HB1.out).size).trans ((HB2.out).mono (HB1.out).size)))⟩
end Go.Proofs.YtdibcmcjnhhbgaaDoor.NumW
