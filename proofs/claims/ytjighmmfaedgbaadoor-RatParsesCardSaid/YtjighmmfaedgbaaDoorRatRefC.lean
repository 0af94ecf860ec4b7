/-
  What the reference's 'cross' returns.
-/
import Derived.Test.YtjighmmfaedgbaaDoorRatRefS
namespace Go.Proofs.YtjighmmfaedgbaaDoor.RatW
open Go Go.RowKit Go.Proofs.YtjighmmfaedgbaaDoor.RatM

theorem sg_cross {n d : Int} (hd : 1 ≤ d) : sg (decide (n < 0)) (n.natAbs * d.natAbs) = n * d := by
  obtain ⟨e, rfl⟩ : ∃ e : Nat, d = (e : Int) := ⟨d.natAbs, by omega⟩
  unfold sg
  by_cases h : n < 0
  · obtain ⟨k, rfl⟩ : ∃ k : Nat, n = -(k : Int) := ⟨n.natAbs, by omega⟩
    rw [if_pos (by simp; omega)]
    simp [Int.neg_mul]
  · obtain ⟨k, rfl⟩ : ∃ k : Nat, n = (k : Int) := ⟨n.natAbs, by omega⟩
    rw [if_neg (by simp)]
    simp
set_option maxRecDepth 100000 in
set_option maxHeartbeats 8000000 in
theorem cross_any (n x y d : Int) (w : World) (n0 : -9223372036854775808 ≤ n) (n1 : n ≤ 9223372036854775807) (d0 : 1 ≤ d) (d1 : d ≤ 9223372036854775807) :
    Calls Tryd.prog 42 #[rv n x, rv y d] w (tSg 18 w (n * d)) := by
  obtain ⟨W0, hW0⟩ : ∃ W0, ((w.alloc (.cells #[.int .i64 n, .int .i64 x] 23)).alloc (.cells #[.int .i64 y, .int .i64 d] 23)).alloc (.cells #[.bool false, .slice none 0 0] 57) = W0 := ⟨_, rfl⟩
  have T2 : Two W0 w.heap.size (.int .i64 n) (.int .i64 x) := by rw [← hW0]; exact ((Two.new _ _ _ _).alloc _).alloc _
  have T3 : Two W0 (w.heap.size + 1) (.int .i64 y) (.int .i64 d) := by rw [← hW0]; exact (Two.at_ (by simp) _ _ _).alloc _
  have T4 : Two W0 (w.heap.size + 1 + 1) (.bool false) (.slice none 0 0) := by rw [← hW0]; exact Two.at_ (by simp) _ _ _
  have BW : Below w.heap.size w W0 := by rw [← hW0]; exact (((Below.refl _ _).alloc (Nat.le_refl _) _).alloc (by simp) _).alloc (by simp; omega) _
  have HBW := Lib.hid BW
  have H2 := Lib.hid T2
  have H3 := Lib.hid T3
  have H4 := Lib.hid T4
  have HW := Lib.hid hW0
  have l1 : (digs n.natAbs).length ≤ 5 := digs_i64 (by omega)
  have l2 : (digs d.natAbs).length ≤ 5 := digs_i64 (by omega)
  have HSG := Lib.hid (sg_cross (n := n) d0)
  clear T2 T3 T4 BW hW0
  go_enter Tryd.func42, Tryd.ntmps42
  go_wp2
  rw [HW.out]
  have c20 := H2.out.c0
  have c31 := H3.out.c1
  go_region_held3 (fun w' => w'.cell? ⟨w.heap.size, 0, none⟩ = some (.int .i64 n) ∧ w'.cell? ⟨w.heap.size + 1, 1, none⟩ = some (.int .i64 d)) (first | assumption | exact ⟨c20, c31⟩ | (refine ⟨?_, ?_⟩ <;> (rw [World.cell?_setCell_other _ _ _ _ (by simp), World.cell?_setCell_other _ _ _ _ (by simp)]; first | exact S3.1 | exact S3.2)))
    (first
      | (go_at_call 38; ((with_reducible refine (size_any n W0.drew n0 n1).mono ?_); rintro e wa ⟨va, rfl, hva, hba⟩; have HVA := Lib.hid hva; have HBA : Hid (Below W0.heap.size W0 wa) := Lib.hid ((Below.refl _ W0).drew.trans hba); have S1 := And.intro (H2.out.stay HBA.out).c0 (H3.out.stay HBA.out).c1; clear hva hba))
      | (go_at_call 38; ((with_reducible refine (size_any d wa (by omega) d1).mono ?_); rintro e wb ⟨vb, rfl, hvb, hbb⟩; have HVB := Lib.hid hvb; have HVA2 := Lib.hid ((HVA.out.below hbb (Nat.le_refl _)).more hbb.size); have HBB : Hid (Below W0.heap.size W0 wb) := Lib.hid (Below.then_ HBA.out hbb); have S2 := And.intro (H2.out.stay HBB.out).c0 (H3.out.stay HBB.out).c1; clear hvb hbb))
      | (go_at_call 38; ((with_reducible refine (size_any d W0.drew (by omega) d1).mono ?_); rintro e wa ⟨vb, rfl, hvb, hba⟩; have HVB' := Lib.hid hvb; have HBA : Hid (Below W0.heap.size W0 wa) := Lib.hid ((Below.refl _ W0).drew.trans hba); have S1 := And.intro (H2.out.stay HBA.out).c0 (H3.out.stay HBA.out).c1; clear hvb hba))
      | (go_at_call 38; ((with_reducible refine (size_any n wa n0 n1).mono ?_); rintro e wb ⟨va, rfl, hva, hbb⟩; have HVA2 := Lib.hid hva; have HVB := Lib.hid ((HVB'.out.below hbb (Nat.le_refl _)).more hbb.size); have HBB : Hid (Below W0.heap.size W0 wb) := Lib.hid (Below.then_ HBA.out hbb); have S2 := And.intro (H2.out.stay HBB.out).c0 (H3.out.stay HBB.out).c1; clear hva hbb))
      | (go_at_call 43; ((with_reducible refine (times_any va vb n.natAbs d.natAbs wb.heap.size wb HVA2.out HVB.out (by omega) (by omega) (Nat.le_refl _)).mono ?_); rintro e w1 ⟨v1, rfl, hv1, hbc⟩; obtain ⟨A1, m1, k1, rfl⟩ := hv1.is; have HV1 := Lib.hid hv1; have HB1 : Hid (Below W0.heap.size W0 w1) := Lib.hid (Below.then_ HBB.out hbc); obtain ⟨_, d40, d41, q40, q41⟩ := H4.out.stay HB1.out; have S3 := And.intro (H2.out.stay HB1.out).c0 (H3.out.stay HB1.out).c1; clear hv1 hbc)))
  all_goals
    go_wp2
    refine bodyPost_ret (v := sv (decide (n < 0)) (.slice A1 m1 k1)) (by simp [results, Tryd.results42, go_sem, d40, d41]) rfl ?_
    have R1 := (HV1.out.setBool d40 0 (.bool (decide (n < 0)))).setBool (b := decide (n < 0)) (cell_set d40) 1 (.slice A1 m1 k1)
    refine ⟨decide (n < 0), _, n.natAbs * d.natAbs, rfl, HSG.out, ?_, ?_, ?_⟩
    · exact R1.more (by simp [World.setCell])
    · have := digs_mul n.natAbs d.natAbs; omega
    · exact (((HBW.out.trans (HB1.out.mono HBW.out.size)).setCell (by simp; omega) _).setCell (by simp; omega) _)
end Go.Proofs.YtjighmmfaedgbaaDoor.RatW
