/-
  The law's examples hold.
-/
import Derived.Test.YtjighmmfaedgbaaDoorRatText
import Derived.Test.YtjighmmfaedgbaaDoorRatCodeM
namespace Go.Proofs.YtjighmmfaedgbaaDoor.RatW
open Go Go.RowKit Go.Proofs.YtjighmmfaedgbaaDoor.RatM

theorem ofCode (n d : Int) (w : World) : Calls Tryd.prog 29 #[.int .i64 n, .int .i64 d] w fun e w' => e = .returned (rv n d) ∧ Below w.heap.size w w' := by
  go_enter Tryd.func29, Tryd.ntmps29
  go_wp2
  refine bodyPost_ret (v := rv n d) (by simp [results, Tryd.results29, go_sem]) rfl ?_
  exact ⟨rfl, (Below.refl _ _).alloc (Nat.le_refl _) _⟩
theorem ex_make : makeS 2 (-4) = (-1, 2, 0) := by decide +kernel
theorem ex_add : addS 1 2 1 3 = (5, 6, 0) := by decide +kernel
theorem ex_mul : mulS 4611686018427387904 1 1 4611686018427387904 = (1, 1, 0) := by decide +kernel
theorem ex_fmt : fmtS (-5) 4 = [45, 53, 47, 52] := by
  rw [fmt_quo (by decide +kernel) (by decide)]
  rw [show Lib.itoa (-5) = [45, 53] from by rw [Lib.itoa, if_pos (by decide), show (-5 : Int).natAbs = 5 from rfl, NumM.dec_small (by decide)]; rfl]
  rw [show Lib.itoa 4 = [52] from by rw [Lib.itoa, if_neg (by decide), show (4 : Int).toNat = 4 from rfl, NumM.dec_small (by decide)]; rfl]
  rfl
theorem aw_make (w : World) : Calls Tryd.prog 12 #[.int .i64 2, .int .i64 (-4)] w fun e w' => e = .returned (.tuple #[.agg #[.int .i64 (-1), .int .i64 2], .int .i64 0]) ∧ Below w.heap.size w w' := by
  have h := makeCode 2 (-4) w (by decide) (by decide) (by decide) (by decide)
  rw [ex_make] at h
  exact h
theorem aw_add (w : World) : Calls Tryd.prog 17 #[rv 1 2, rv 1 3] w fun e w' => e = .returned (.tuple #[.agg #[.int .i64 5, .int .i64 6], .int .i64 0]) ∧ Below w.heap.size w w' := by
  have h := addCode 1 2 1 3 w (by decide) (by decide) (by decide) (by decide) (by decide) (by decide) (by decide) (by decide)
  rw [ex_add] at h
  exact h
theorem aw_mul (w : World) : Calls Tryd.prog 21 #[rv 4611686018427387904 1, rv 1 4611686018427387904] w fun e w' => e = .returned (.tuple #[.agg #[.int .i64 1, .int .i64 1], .int .i64 0]) ∧ Below w.heap.size w w' := by
  have h := mulCode 4611686018427387904 1 1 4611686018427387904 w (by decide) (by decide) (by decide) (by decide) (by decide) (by decide) (by decide) (by decide)
  rw [ex_mul] at h
  exact h
theorem aw_fmt (w : World) (ht : Tab w) : Calls Tryd.prog 30 #[rv (-5) 4] w fun e w' => e = .returned (.string ⟨#[45, 53, 47, 52]⟩) ∧ Below w.heap.size w w' := by
  have h := formatCode (-5) 4 w (by decide) (by decide) (by decide) (by decide) ht
  rw [ex_fmt] at h
  exact h
set_option maxRecDepth 100000 in
set_option maxHeartbeats 16000000 in
theorem awake_any (w : World) (ht : Tab w) :
    Calls Tryd.prog 14 #[] w (tBool w true) := by
  have HT := Lib.hid ht
  clear ht
  go_enter Tryd.func14, Tryd.ntmps14
  go_wp2_with (first
    | (go_at_call 12; ((with_reducible refine (aw_make _).mono ?_); rintro e w1 ⟨rfl, hb⟩; have B1 := Lib.hid hb; clear hb))
    | (go_at_call 29; ((with_reducible refine (ofCode 1 2 _).mono ?_); rintro e w2 ⟨rfl, hb⟩; have T1 := Lib.hid (two_new hb); have B2 := Lib.hid (Below.then_ B1.out (below_new hb)); clear hb))
    | (go_at_call 29; ((with_reducible refine (ofCode 1 3 _).mono ?_); rintro e w3 ⟨rfl, hb⟩; have T1 := Lib.hid (T1.out.stay hb); have B3 := Lib.hid (Below.then_ B2.out hb); clear hb))
    | (go_at_call 17; ((with_reducible refine (aw_add _).mono ?_); rintro e w4 ⟨rfl, hb⟩; have T1 := Lib.hid (T1.out.stay hb); have B4 := Lib.hid (Below.then_ B3.out hb); clear hb))
    | (go_at_call 29; ((with_reducible refine (ofCode 4611686018427387904 1 _).mono ?_); rintro e w5 ⟨rfl, hb⟩; have T3 := Lib.hid (two_new hb); have T1 := Lib.hid (T1.out.stay (below_new hb)); have B5 := Lib.hid (Below.then_ B4.out (below_new hb)); clear hb))
    | (go_at_call 29; ((with_reducible refine (ofCode 1 4611686018427387904 _).mono ?_); rintro e w6 ⟨rfl, hb⟩; have T3 := Lib.hid (T3.out.stay hb); have T1 := Lib.hid (T1.out.stay hb); have B6 := Lib.hid (Below.then_ B5.out hb); clear hb))
    | (go_at_call 21; ((with_reducible refine (aw_mul _).mono ?_); rintro e w7 ⟨rfl, hb⟩; have T3 := Lib.hid (T3.out.stay hb); have T1 := Lib.hid (T1.out.stay hb); have B7 := Lib.hid (Below.then_ B6.out hb); clear hb)))
  obtain ⟨w8, hw8⟩ : ∃ w8, w7.alloc (.cells #[.int .i64 1, .int .i64 1] 23) = w8 := ⟨_, rfl⟩
  have D1 : Two w8 w1.heap.size (.int .i64 (-1)) (.int .i64 2) := by rw [← hw8]; exact T1.out.alloc _
  have D3 : Two w8 w4.heap.size (.int .i64 5) (.int .i64 6) := by rw [← hw8]; exact T3.out.alloc _
  have D5 : Two w8 w7.heap.size (.int .i64 1) (.int .i64 1) := by rw [← hw8]; exact Two.new w7 _ _ _
  have B8 : Hid (Below w.heap.size w w8) := Lib.hid (by rw [← hw8]; exact B7.out.alloc B7.out.size _)
  rw [hw8]
  clear hw8 T1 T3
  have HT8 := Lib.hid (HT.out.later B8.out)
  go_region_held3 (fun w' => w'.cell? ⟨w1.heap.size, 0, none⟩ = some (.int .i64 (-1)) ∧ w'.cell? ⟨w1.heap.size, 1, none⟩ = some (.int .i64 2) ∧ w'.cell? ⟨w4.heap.size, 0, none⟩ = some (.int .i64 5) ∧ w'.cell? ⟨w4.heap.size, 1, none⟩ = some (.int .i64 6) ∧ w'.cell? ⟨w7.heap.size, 0, none⟩ = some (.int .i64 1) ∧ w'.cell? ⟨w7.heap.size, 1, none⟩ = some (.int .i64 1)) (first | assumption | exact s6 D1.drew D3.drew D5.drew | fail)
    (first
      | (go_at_call 29; ((with_reducible refine (ofCode _ _ _).mono ?_); rintro e wx ⟨rfl, hb⟩; have HX : Hid (Below w8.heap.size w8 wx) := Lib.hid (by first | exact below_drew hb | exact Below.then_ HX.out hb); have K := s6 (D1.stay HX.out) (D3.stay HX.out) (D5.stay HX.out); clear hb))
      | (go_at_call 30; ((with_reducible refine (aw_fmt _ (HT8.out.later HX.out)).mono ?_); rintro e wx ⟨rfl, hb⟩; have HX : Hid (Below w8.heap.size w8 wx) := Lib.hid (Below.then_ HX.out hb); have K := s6 (D1.stay HX.out) (D3.stay HX.out) (D5.stay HX.out); clear hb)))
  all_goals
    go_wp2
    go_ret
    exact ⟨rfl, B8.out.trans (HX.out.mono B8.out.size)⟩
end Go.Proofs.YtjighmmfaedgbaaDoor.RatW
