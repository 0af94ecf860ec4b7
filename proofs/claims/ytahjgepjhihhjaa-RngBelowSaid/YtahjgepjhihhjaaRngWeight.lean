/-
  What Weighted of package rng returns, and that of its reference.
-/
import Derived.Test.YtahjgepjhihhjaaRngTotal
namespace Go.Proofs.Ytahjgepjhihhjaa.RngW
open Go Go.RowKit Go.Proofs.Ytahjgepjhihhjaa.HashM Go.Proofs.Ytahjgepjhihhjaa.HashW Go.Proofs.Ytahjgepjhihhjaa.RngM

noncomputable def wgtR (k c : UInt64) (ws : List Int) : BR := if totW mx ws = 0 then ⟨0, 0, 0, 1⟩ else ⟨pk ws (belX k c (totW mx ws).toNat), k, belC k c (totW mx ws).toNat, 0⟩
theorem wgtR_no {k c : UInt64} {ws : List Int} (h : totW mx ws = 0) : wgtR k c ws = ⟨0, 0, 0, 1⟩ := by unfold wgtR; rw [if_pos h]
theorem wgtR_yes {k c : UInt64} {ws : List Int} {n : Nat} (h : totW mx ws = (n : Int)) (h0 : 0 < n) : wgtR k c ws = ⟨pk ws (belX k c n), k, belC k c n, 0⟩ := by
  unfold wgtR
  rw [if_neg (by omega), h]; rfl
/-- What is left of x, at index j. -/
structure PLoop (ws : List Int) (R j : Nat) (x : Int) : Prop where
  lt : j < ws.length
  x0 : 0 ≤ x
  x1 : x < sumW (ws.drop j)
  x2 : x ≤ mx
  eq : pk (ws.drop j) x + j = R
theorem PLoop.start {ws : List Int} {n x : Nat} (h : totW mx ws = (n : Int)) (h0 : 0 < n) (hx : x < n) : PLoop ws (pk ws x) 0 x := by
  have hs : totW mx ws = sumW ws := totW_sum (by omega)
  have hl : totW mx ws ≤ mx := totW_le (by unfold mx; omega) ws
  refine ⟨?_, by omega, by rw [List.drop_zero]; omega, by omega, by rw [List.drop_zero]; rfl⟩
  cases ws with
  | nil => simp [sumW] at hs; omega
  | cons a l => simp
theorem PLoop.stop {ws : List Int} {R j : Nat} {x : Int} (h : PLoop ws R j x) (hx : x < ws[j]'h.lt) : R = j := by
  rw [← h.eq, drop_at ws j h.lt, pk_here hx]; omega
theorem PLoop.next {ws : List Int} {R j : Nat} {x : Int} (h : PLoop ws R j x) (hw : 0 ≤ ws[j]'h.lt) (hx : ¬ x < ws[j]'h.lt) : PLoop ws R (j + 1) (x - ws[j]'h.lt) := by
  have e := h.eq
  have s := h.x1
  rw [drop_at ws j h.lt] at e s
  rw [pk_next hx] at e
  unfold sumW at s
  have := h.x2
  refine ⟨?_, by omega, by omega, by omega, by omega⟩
  apply Nat.lt_of_not_le
  intro hle
  rw [List.drop_eq_nil_of_le hle] at s
  simp [sumW] at s
  omega
theorem okW_of_tot {ws : List Int} (h : totW mx ws ≠ 0) : ∀ (i : Nat) (hi : i < ws.length), 0 ≤ ws[i] := by
  have : okW mx ws 0 = true := by
    unfold totW at h
    by_cases ho : okW mx ws 0 = true
    · exact ho
    · rw [if_neg ho] at h; exact absurd rfl h
  exact fun i hi => (okW_pos ws 0 this).1 _ (List.getElem_mem hi)
set_option maxRecDepth 100000 in
set_option maxHeartbeats 8000000 in
theorem weightCode (k c : UInt64) (ws : List Int) (v : Value) (w : World) (h : IntsAt w v ws) :
    Calls Try.prog 21 #[rv k c, v] w (tBe w (wgtR k c ws)) := by
  obtain ⟨W0, hW0⟩ : ∃ W0, (w.alloc (.cells #[.int .u64 (V k), .int .u64 (V c)] 24)).alloc (.cells #[.int .u64 0, .int .u64 0] 24) = W0 := ⟨_, rfl⟩
  have H2 : Hid (Two W0 w.heap.size (.int .u64 (V k)) (.int .u64 (V c))) := Lib.hid (by rw [← hW0]; exact (Two.new _ _ _ _).alloc _)
  have H3 : Hid (Two W0 (w.heap.size + 1) (.int .u64 0) (.int .u64 0)) := Lib.hid (by rw [← hW0]; exact Two.at_ (by simp) _ _ _)
  have HBW : Hid (Below w.heap.size w W0) := Lib.hid (by rw [← hW0]; exact ((Below.refl _ _).alloc (Nat.le_refl _) _).alloc (by simp) _)
  have HZ : Hid (W0.heap.size = w.heap.size + 2) := Lib.hid (by rw [← hW0]; simp)
  have HW := Lib.hid hW0
  clear hW0
  have HTC := Lib.hid (totalCode ws v W0 (h.later HBW.out))
  obtain ⟨n, hn⟩ : ∃ n : Nat, totW mx ws = (n : Int) := Int.eq_ofNat_of_zero_le (totW_nonneg ws)
  have hnm : (n : Int) ≤ 1099511627776 := by rw [← hn]; exact totW_le (by unfold mx; omega) ws
  rw [hn] at HTC
  by_cases h0 : n = 0
  · subst h0
    rw [wgtR_no hn]
    have c0 := H3.out.c0
    have c1 := H3.out.c1
    have f0 := H3.out.f0
    have f1 := H3.out.f1
    clear hn hnm
    go_enter Try.func21, Try.ntmps21
    go_wp2_with (rw [HW.out]; (go_at_call 34; ((with_reducible refine HTC.out.mono ?_); rintro e w' ⟨rfl, rfl⟩)))
    have RW := H3.out.put (.int .u64 0) (.int .u64 0)
    obtain ⟨_, z0, z1, _, _⟩ := RW
    refine bodyPost_ret (v := bv ⟨0, 0, 0, 1⟩) (by simp [results, Try.results21, go_sem, z0, z1, V0]) rfl ?_
    exact ⟨rfl, (HBW.out.setCell (by simp) _).setCell (by simp) _⟩
  · rw [wgtR_yes hn (by omega)]
    have hs : (ptrW w.heap.size W0).cell? ⟨W0.heap.size, 0, none⟩ = some (.pointer (some ⟨w.heap.size, 0, none⟩)) := (alloc_cells W0 #[.pointer (some ⟨w.heap.size, 0, none⟩)] 51 0 _ rfl).1
    have hp := belowIn k c n W0.heap.size w.heap.size (ptrW w.heap.size W0) (by omega) (by omega) hs (by simp) (H2.out.alloc _) (by have := HZ.out; omega)
    have HR := Lib.hid (rejectCode w.heap.size W0)
    have H3' := Lib.hid (H3.out.alloc (.cells #[.pointer (some ⟨w.heap.size, 0, none⟩)] 51))
    have HLP := Lib.hid (PLoop.start hn (by omega) (x := belX k c n) (Nat.mod_lt _ (by omega)))
    have HWP := Lib.hid (okW_of_tot (ws := ws) (by omega))
    generalize belX k c n = px at *
    generalize belC k c n = pc at *
    generalize pk ws px = R at *
    have HP := Lib.hid hp
    obtain ⟨p, cap, rfl, hcap, hlen, hi, hx⟩ := h
    have HX := Lib.hid hx
    have HI := Lib.hid hi
    clear hs hp hx hi hn
    have hpx : (px : Int) ≤ 1099511627776 := HLP.out.x2
    obtain ⟨m, hm⟩ : ∃ m, ws.length = m := ⟨_, rfl⟩
    have HM := Lib.hid hm
    rw [hm] at hcap hlen HTC
    rw [hm]
    clear hm
    go_enter Try.func21, Try.ntmps21
    go_wp2_with (first
      | (rw [HW.out]; (go_at_call 34; ((with_reducible refine HTC.out.mono ?_); rintro e w' ⟨rfl, rfl⟩)))
      | (go_at_call 33; ((with_reducible refine HR.out.mono ?_); rintro e w1 ⟨rfl, rfl⟩))
      | (go_at_call 32; ((with_reducible refine HP.out.mono ?_); rintro e w1 ⟨rfl, t1, u1⟩; obtain ⟨_, c0, c1, _, _⟩ := t1; obtain ⟨_, d0, d1, q0, q1⟩ := H3'.out.upd u1 (by omega); have U1 := Lib.hid u1; clear u1)))
    have HB1 : Hid (Below w.heap.size w w1) := Lib.hid ((HBW.out.trans (((Below.refl _ _).alloc (Nat.le_refl _) _).mono HBW.out.size)).trans (U1.out.below (Nat.le_refl _) (by simp; have := HZ.out; omega)))
    go_loop [8, 9] (fun x i => ∃ (j : Nat) (y : Int), i = .int .i64 j ∧ x = .int .i64 y ∧ PLoop ws R j y) (fun _ i => m - (intOf i).toNat)
    case atStart => exact ⟨0, px, rfl, rfl, HLP.out⟩
    case round =>
      obtain ⟨j, y, rfl, rfl, hpl⟩ := hrel
      have hj : j < m := by rw [← HM.out]; exact hpl.lt
      obtain ⟨b, off, hp, hbs, hc⟩ := HX.out (by rw [HM.out]; omega)
      subst hp
      have hck : w1.cell? ⟨b, off + j, none⟩ = some (.int .i64 (ws[j]'hpl.lt)) := by rw [HB1.out.cell hbs]; exact hc j hpl.lt
      have hb := HI.out j hpl.lt
      have hw0 := HWP.out j hpl.lt
      have hst := hpl.stop
      have hnx := hpl.next hw0
      have y0 := hpl.x0
      have y2 : y ≤ 1099511627776 := hpl.x2
      clear hc
      have hjl := hpl.lt
      generalize ws[j]'hjl = x at *
      clear hpl hjl
      by_cases hxy : y < x
      · have HE := Lib.hid (hst hxy)
        clear hst hnx
        go_wp2
        go_region
        all_goals
          go_wp2
          refine bodyPost_ret (v := bv ⟨j, k, pc, 0⟩) (by simp [results, Try.results21, go_sem, d0, d1]) rfl ?_
          exact ⟨by rw [HE.out], ((HB1.out.setCell (by simp) _).setCell (by simp) _).drew⟩
      · have HN := Lib.hid (hnx hxy)
        clear hst hnx
        go_wp2
        go_round
        case rel => exact ⟨j + 1, y - x, by go_num, rfl, HN.out⟩
        case measure => simp [intOf]; omega
end Go.Proofs.Ytahjgepjhihhjaa.RngW
