/-
  What both 'Sum's of a list of rational numbers return.
-/
import Derived.Test.YtjighmmfaedgbaaDoorRatCodeA
import Derived.Test.YtjighmmfaedgbaaDoorRatLawM
namespace Go.Proofs.YtjighmmfaedgbaaDoor.RatW
open Go Go.RowKit Go.Proofs.YtjighmmfaedgbaaDoor.RatM

/-- The sum from element k on, over m elements. -/
def sumF (N D : Nat → Int) : Nat → Nat → Int → Int → Int × Int × Int
  | 0, _, x, y => (x, y, 0)
  | m + 1, k, x, y => if (addS x y (N k) (D k)).2.2 = 0 then sumF N D m (k + 1) (addS x y (N k) (D k)).1 (addS x y (N k) (D k)).2.1 else (0, 0, (addS x y (N k) (D k)).2.2)
theorem sumF_end (N D : Nat → Int) (n : Nat) (x y : Int) : sumF N D (n - n) n x y = (x, y, 0) := by rw [Nat.sub_self]; rfl
theorem sumF_step {N D : Nat → Int} {n k : Nat} {x y u v : Int} (hk : k < n) (h : addS x y (N k) (D k) = (u, v, 0)) : sumF N D (n - k) k x y = sumF N D (n - (k + 1)) (k + 1) u v := by
  rw [show n - k = n - (k + 1) + 1 by omega, sumF, h, if_pos rfl]
theorem sumF_stop {N D : Nat → Int} {n k : Nat} {x y u v e : Int} (hk : k < n) (h : addS x y (N k) (D k) = (u, v, e)) (he : ¬ e = 0) : sumF N D (n - k) k x y = (0, 0, e) := by
  rw [show n - k = n - (k + 1) + 1 by omega, sumF, h, if_neg he]
/-- The value is a slice of these numbers. -/
def RatsAt (w : World) (v : Value) (n : Nat) (N D : Nat → Int) : Prop :=
  ∃ p cap, v = .slice p n cap ∧ n ≤ cap ∧ (∀ i, i < n → i64 (N i) ∧ i64 (D i)) ∧ (0 < n → ∃ b off, p = some ⟨b, off, none⟩ ∧ b < w.heap.size ∧ ∀ i, i < n → w.cell? ⟨b, off + i * 2, none⟩ = some (.int .i64 (N i)) ∧ w.cell? ⟨b, off + i * 2 + 1, none⟩ = some (.int .i64 (D i)))
theorem RatsAt.later {w w' : World} {v : Value} {n : Nat} {N D : Nat → Int} (h : RatsAt w v n N D) (hb : Below w.heap.size w w') : RatsAt w' v n N D := by
  obtain ⟨p, cap, rfl, hc, hi, hx⟩ := h
  refine ⟨p, cap, rfl, hc, hi, fun h0 => ?_⟩
  obtain ⟨b, off, hp, hbs, hcell⟩ := hx h0
  refine ⟨b, off, hp, Nat.lt_of_lt_of_le hbs hb.size, fun i hi => ?_⟩
  rw [hb.cell hbs, hb.cell hbs]
  exact hcell i hi
set_option maxRecDepth 100000 in
set_option maxHeartbeats 8000000 in
theorem sumCode (n : Nat) (N D : Nat → Int) (v : Value) (w : World) (h : RatsAt w v n N D) (hn : n ≤ 30) :
    Calls Tryd.prog 27 #[v] w (tRes w (sumF N D n 0 0 1)) := by
  obtain ⟨p, cap, rfl, hcap, hi, hx⟩ := h
  have HX := Lib.hid hx
  have HI := Lib.hid hi
  clear hx hi
  go_enter Tryd.func27, Tryd.ntmps27
  go_wp2
  go_loopw [12] (fun i wr => ∃ (k : Nat) (x y : Int), k ≤ n ∧ i = .int .i64 k ∧ (i64 x ∧ i64 y) ∧ sumF N D (n - k) k x y = sumF N D n 0 0 1 ∧ Two wr (w.heap.size + 1) (.int .i64 x) (.int .i64 y) ∧ Two wr w.heap.size (.int .i64 0) (.int .i64 0) ∧ Below w.heap.size w wr) (fun i _ => n - (intOf i).toNat)
  case atStart => exact ⟨0, 0, 1, Nat.zero_le _, rfl, by unfold i64; omega, rfl, Two.at_ (by simp) _ _ _, (Two.new _ _ _ _).alloc _, ((Below.refl _ _).alloc (Nat.le_refl _) _).alloc (by simp) _⟩
  case round =>
    obtain ⟨k, x, y, hk, rfl, hxy, hs, h4, h2, hb⟩ := hrel
    have HS := Lib.hid hs
    have HB := Lib.hid hb
    have T4 := Lib.hid h4
    have T2 := Lib.hid h2
    clear hs hb h4 h2
    have c0 := T4.out.c0
    have c1 := T4.out.c1
    have z2 := T4.out.lt
    by_cases hlt : k < n
    · obtain ⟨b, off, hp, hbs, hc⟩ := HX.out (by omega)
      subst hp
      have hcw : b < w.heap.size := hbs
      have ca : wr.cell? ⟨b, off + k * 2, none⟩ = some (.int .i64 (N k)) := by rw [HB.out.cell hbs]; exact (hc k hlt).1
      have cb : wr.cell? ⟨b, off + k * 2 + 1, none⟩ = some (.int .i64 (D k)) := by rw [HB.out.cell hbs]; exact (hc k hlt).2
      have hi := HI.out k hlt
      obtain ⟨u, v, e, ha⟩ : ∃ u v e, addS x y (N k) (D k) = (u, v, e) := ⟨_, _, _, rfl⟩
      have AD : ∀ w, Calls Tryd.prog 17 #[rv x y, rv (N k) (D k)] w fun e' w' => e' = .returned (.tuple #[.agg #[.int .i64 u, .int .i64 v], .int .i64 e]) ∧ Below w.heap.size w w' := fun w => by
        have q := addCode x y (N k) (D k) w hxy.1.1 hxy.1.2 hxy.2.1 hxy.2.2 hi.1.1 hi.1.2 hi.2.1 hi.2.2
        rw [ha] at q
        exact q
      have AD := Lib.hid AD
      have hu := add_i64 ha
      by_cases he : e = 0
      · subst he
        have HN := Lib.hid ((sumF_step hlt ha).symm.trans HS.out)
        clear ha hc
        generalize N k = nk at *
        generalize D k = dk at *
        go_wp2_with (go_at_call 17; ((with_reducible refine (AD.out _).mono ?_); rintro e w1 ⟨rfl, hq⟩; have H4 := Lib.hid ((T4.out.alloc _).stay hq); have H2 := Lib.hid ((T2.out.alloc _).stay hq); have HB1 := Lib.hid (Below.then_ HB.out (below_new hq)); clear hq c0 c1 ca cb z2; have c0 := H4.out.c0; have c1 := H4.out.c1; have f0 := H4.out.f0; have f1 := H4.out.f1; have z2 := H4.out.lt))
        go_roundw
        case rel => exact ⟨k + 1, u, v, by omega, by go_num, hu, HN.out, (H4.out.set2 _ _).alloc _, ((H2.out.far (by omega)).far (by omega)).alloc _, ((HB1.out.setCell (by simp) _).setCell (by simp) _).alloc ((HB1.out.setCell (by simp) _).setCell (by simp) _).size _⟩
        case measure => simp [intOf]; omega
      · have HN := Lib.hid ((sumF_stop hlt ha he).symm.trans HS.out)
        clear ha hc
        generalize N k = nk at *
        generalize D k = dk at *
        go_wp2_with (go_at_call 17; ((with_reducible refine (AD.out _).mono ?_); rintro e w1 ⟨rfl, hq⟩; have H4 := Lib.hid ((T4.out.alloc _).stay hq); have H2 := Lib.hid ((T2.out.alloc _).stay hq); have HB1 := Lib.hid (Below.then_ HB.out (below_new hq)); clear hq c0 c1 ca cb z2; have c0 := H2.out.c0; have c1 := H2.out.c1; have f0 := H2.out.f0; have f1 := H2.out.f1; have z2 := H2.out.lt))
        have TF := (H2.out.set2 (.int .i64 0) (.int .i64 0)).alloc (.cells #[.int .i64 u, .int .i64 v] 23)
        have q0 := TF.c0
        have q1 := TF.c1
        refine bodyPost_ret (v := .tuple #[.agg #[.int .i64 0, .int .i64 0], .int .i64 e]) (by simp [results, Tryd.results27, go_sem, q0, q1]) rfl ?_
        exact ⟨by rw [resV_mk HN.out], ((HB1.out.setCell (by simp) _).setCell (by simp) _).alloc ((HB1.out.setCell (by simp) _).setCell (by simp) _).size _⟩
    · obtain rfl : n = k := by omega
      have HN := Lib.hid ((sumF_end N D n x y).symm.trans HS.out)
      have d0 := T2.out.c0
      have d1 := T2.out.c1
      have g0 := T2.out.f0
      have g1 := T2.out.f1
      go_wp2
      refine bodyPost_ret (v := .tuple #[.agg #[.int .i64 x, .int .i64 y], .int .i64 0]) (by simp [results, Tryd.results27, go_sem, d0, d1]) rfl ?_
      exact ⟨by rw [resV_mk HN.out], (HB.out.setCell (by simp) _).setCell (by simp) _⟩
end Go.Proofs.YtjighmmfaedgbaaDoor.RatW
