/-
  What Weighted of the reference of package rng returns.
-/
import Derived.Test.YtahjgepjhihhjaaRngWeight
namespace Go.Proofs.Ytahjgepjhihhjaa.RngW
open Go Go.RowKit Go.Proofs.Ytahjgepjhihhjaa.HashM Go.Proofs.Ytahjgepjhihhjaa.HashW Go.Proofs.Ytahjgepjhihhjaa.RngM

set_option maxRecDepth 100000 in
set_option maxHeartbeats 8000000 in
theorem weightRef (k c : UInt64) (ws : List Int) (v : Value) (w : World) (h : IntsAt w v ws) :
    Calls Try.prog 22 #[rv k c, v] w (tBe w (wgtR k c ws)) := by
  obtain ⟨W0, hW0⟩ : ∃ W0, (w.alloc (.cells #[.int .u64 (V k), .int .u64 (V c)] 24)).alloc (.cells #[.int .u64 0, .int .u64 0] 24) = W0 := ⟨_, rfl⟩
  have H2 : Hid (Two W0 w.heap.size (.int .u64 (V k)) (.int .u64 (V c))) := Lib.hid (by rw [← hW0]; exact (Two.new _ _ _ _).alloc _)
  have H3 : Hid (Two W0 (w.heap.size + 1) (.int .u64 0) (.int .u64 0)) := Lib.hid (by rw [← hW0]; exact Two.at_ (by simp) _ _ _)
  have HBW : Hid (Below w.heap.size w W0) := Lib.hid (by rw [← hW0]; exact ((Below.refl _ _).alloc (Nat.le_refl _) _).alloc (by simp) _)
  have HW := Lib.hid hW0
  clear hW0
  have HNO := Lib.hid (wgtR_no (k := k) (c := c) (ws := ws))
  have HYES := Lib.hid (fun n => wgtR_yes (k := k) (c := c) (ws := ws) (n := n))
  generalize wgtR k c ws = res at *
  have HWP := Lib.hid (okW_of_tot (ws := ws))
  obtain ⟨p, cap, rfl, hcap, hlen, hi, hx⟩ := h
  have HX := Lib.hid hx
  have HI := Lib.hid hi
  clear hx hi
  obtain ⟨m, hm⟩ : ∃ m, ws.length = m := ⟨_, rfl⟩
  have HM := Lib.hid hm
  rw [hm] at hcap hlen
  rw [hm]
  clear hm
  obtain ⟨_, d0, d1, q0, q1⟩ := H3.out
  have c0 := H2.out.c0
  have c1 := H2.out.c1
  go_enter Try.func22, Try.ntmps22
  go_wp2
  rw [HW.out]
  go_loop [7, 8] (fun s i => ∃ (j : Nat) (S : Int), j ≤ m ∧ i = .int .i64 j ∧ s = .int .i64 S ∧ 0 ≤ S ∧ S ≤ 1099511627776 ∧ S = sumW (ws.take j) ∧ okW mx ws 0 = okW mx (ws.drop j) S) (fun _ i => m - (intOf i).toNat)
  case atStart => exact ⟨0, 0, Nat.zero_le _, rfl, rfl, by omega, by omega, rfl, rfl⟩
  case round =>
    obtain ⟨j, S, hk, rfl, rfl, s0, s1, hs, ho⟩ := hrel
    by_cases hlt : j < m
    · have hl : j < ws.length := by rw [HM.out]; exact hlt
      obtain ⟨b, off, hp, hbs, hc⟩ := HX.out (by omega)
      subst hp
      have hck : W0.cell? ⟨b, off + j, none⟩ = some (.int .i64 ws[j]) := by rw [HBW.out.cell hbs]; exact hc j hl
      have hb := HI.out j hl
      have hst := sumW_take_succ ws j hl
      rw [drop_at ws j hl] at ho
      generalize ws[j] = x at *
      clear hc hl
      by_cases h1 : x < 0
      · have HT := Lib.hid (HNO.out (by unfold totW; rw [ho, okW_here (m := mx) (.inl h1)]; rfl))
        clear ho hst hs
        go_wp2
        have RW := H3.out.put (.int .u64 0) (.int .u64 0)
        obtain ⟨_, z0, z1, _, _⟩ := RW
        refine bodyPost_ret (v := bv ⟨0, 0, 0, 1⟩) (by simp [results, Try.results22, go_sem, z0, z1, V0]) rfl ?_
        exact ⟨by rw [HT.out], (HBW.out.setCell (by simp) _).setCell (by simp) _⟩
      · by_cases h2 : 1099511627776 - S < x
        · have HT := Lib.hid (HNO.out (by unfold totW; rw [ho, okW_here (m := mx) (.inr (show mx - S < x from h2))]; rfl))
          clear ho hst hs
          go_wp2
          have RW := H3.out.put (.int .u64 0) (.int .u64 0)
          obtain ⟨_, z0, z1, _, _⟩ := RW
          refine bodyPost_ret (v := bv ⟨0, 0, 0, 1⟩) (by simp [results, Try.results22, go_sem, z0, z1, V0]) rfl ?_
          exact ⟨by rw [HT.out], (HBW.out.setCell (by simp) _).setCell (by simp) _⟩
        · have HO := Lib.hid (ho.trans (okW_next (by unfold mx; omega)))
          have HS := Lib.hid (show S + x = sumW (ws.take (j + 1)) by rw [hst, hs])
          clear ho hst hs
          go_wp2
          go_round
          case rel => exact ⟨j + 1, S + x, by omega, by go_num, rfl, by omega, by omega, HS.out, HO.out⟩
          case measure => simp [intOf]; omega
    · obtain rfl : m = j := by omega
      have HT : Hid (totW mx ws = S) := Lib.hid (by
        unfold totW
        rw [ho, hs, ← HM.out, List.drop_length, List.take_length]; rfl)
      clear ho hs
      by_cases h0 : S = 0
      · have HE := Lib.hid (HNO.out (by rw [HT.out, h0]))
        have k1 : (S == 0) = true := by rw [h0]; rfl
        clear h0
        go_wp2
        have RW := H3.out.put (.int .u64 0) (.int .u64 0)
        obtain ⟨_, z0, z1, _, _⟩ := RW
        refine bodyPost_ret (v := bv ⟨0, 0, 0, 1⟩) (by simp [results, Try.results22, go_sem, z0, z1, V0]) rfl ?_
        exact ⟨by rw [HE.out], (HBW.out.setCell (by simp) _).setCell (by simp) _⟩
      · obtain ⟨n, rfl⟩ := Int.eq_ofNat_of_zero_le s0
        have hn0 : 0 < n := by omega
        have HE := Lib.hid (HYES.out n HT.out hn0)
        have hpl := PLoop.start HT.out hn0 (x := belX k c n) (Nat.mod_lt _ hn0)
        have hbc := fun w => belowRef k c n w
        rw [belR_yes hn0 (by omega)] at hbc
        have hww := HWP.out (by rw [HT.out]; omega)
        generalize belX k c n = px at *
        generalize belC k c n = pc at *
        generalize pk ws px = R at *
        have HBC := Lib.hid hbc
        have HLP := Lib.hid hpl
        have HW2 := Lib.hid hww
        have hpx : (px : Int) ≤ 1099511627776 := hpl.x2
        have k1 : ((n : Int) == 0) = false := by simp; omega
        clear hbc hpl hww h0
        go_wp2_with (go_at_call 20; ((with_reducible refine (HBC.out _).mono ?_); rintro e w1 ⟨rfl, hb1⟩; have HB1 := Lib.hid hb1; obtain ⟨_, d0, d1, q0, q1⟩ := H3.out.stay hb1; clear hb1))
        have HB2 : Hid (Below w.heap.size w w1) := Lib.hid (HBW.out.trans (HB1.out.mono HBW.out.size))
        have hsz : W0.heap.size ≤ w1.heap.size := HB1.out.size
        go_loop [9, 12] (fun x i => ∃ (j : Nat) (y : Int), i = .int .i64 j ∧ x = .int .i64 y ∧ PLoop ws R j y) (fun _ i => m - (intOf i).toNat)
        case atStart => exact ⟨0, px, rfl, rfl, HLP.out⟩
        case round =>
          obtain ⟨j, y, rfl, rfl, hpl⟩ := hrel
          have hj : j < m := by rw [← HM.out]; exact hpl.lt
          obtain ⟨b, off, hp, hbs, hc⟩ := HX.out (by rw [HM.out]; omega)
          subst hp
          have hbw : b < w1.heap.size := Nat.lt_of_lt_of_le hbs HB2.out.size
          have hck : w1.cell? ⟨b, off + j, none⟩ = some (.int .i64 (ws[j]'hpl.lt)) := by rw [HB2.out.cell hbs]; exact hc j hpl.lt
          have hb := HI.out j hpl.lt
          have hw0 := HW2.out j hpl.lt
          have hst := hpl.stop
          have hnx := hpl.next hw0
          have y0 := hpl.x0
          have y2 : y ≤ 1099511627776 := hpl.x2
          clear hc
          have hjl := hpl.lt
          generalize ws[j]'hjl = x at *
          clear hpl hjl
          by_cases hxy : y < x
          · have HS := Lib.hid (hst hxy)
            clear hst hnx
            go_wp2
            go_region
            all_goals
              go_wp2
              have RW := ((((H3.out.stay HB1.out).put (.int .u64 (V k)) (.int .u64 (V pc))).alloc (.cells #[.int .u64 (V k), .int .u64 (V pc)] 24)).drew)
              obtain ⟨_, z0, z1, _, _⟩ := RW
              refine bodyPost_ret (v := bv ⟨j, k, pc, 0⟩) (by simp [results, Try.results22, go_sem, z0, z1]) rfl ?_
              exact ⟨by rw [HE.out, HS.out], (((HB2.out.setCell (by simp) _).setCell (by simp) _).alloc (by simp only [setCell_size]; exact HB2.out.size) _).drew⟩
          · have HN := Lib.hid (hnx hxy)
            clear hst hnx
            go_wp2
            go_round
            case rel => exact ⟨j + 1, y - x, by go_num, rfl, HN.out⟩
            case measure => simp [intOf]; omega
end Go.Proofs.Ytahjgepjhihhjaa.RngW
