/-
  What Shuffle of the reference of package rng returns; both where n is out of bounds.
-/
import Derived.Test.YtahjgepjhihhjaaRngShuf
namespace Go.Proofs.Ytahjgepjhihhjaa.RngW
open Go Go.RowKit Go.Proofs.Ytahjgepjhihhjaa.HashM Go.Proofs.Ytahjgepjhihhjaa.HashW Go.Proofs.Ytahjgepjhihhjaa.RngM

theorem SS.later {w wr w1 : World} {G n : Nat} {k c : UInt64} {f : Nat → Nat} (h : SS w wr G n k c f) (b : Below wr.heap.size wr w1) : SS w w1 G n k c f :=
  ⟨h.row.of_block (b.block G h.row.lt), h.two.stay b, h.res.stay b, h.below.trans (b.mono h.below.size)⟩
/-- The stream is written. -/
theorem SS.put {w wr : World} {G n : Nat} {k c : UInt64} {f : Nat → Nat} (h : SS w wr G n k c f) (hG : G = w.heap.size + 1 + 1) (c' : UInt64) : SS w ((wr.setCell ⟨w.heap.size, 0, none⟩ (.int .u64 (V k))).setCell ⟨w.heap.size, 1, none⟩ (.int .u64 (V c'))) G n k c' f :=
  ⟨(h.row.setOther (show G ≠ w.heap.size by omega) _).setOther (show G ≠ w.heap.size by omega) _, h.two.put _ _, (h.res.far (by omega)).far (by omega), (h.below.setCell (Nat.le_refl _) _).setCell (Nat.le_refl _) _⟩
/-- What Shuffle leaves where n is out of bounds. -/
def tShN (w : World) (e : Ending) (w' : World) : Prop := e = .returned (.tuple #[.slice none 0 0, rv 0 0, .int .i64 1]) ∧ Below w.heap.size w w'
set_option maxRecDepth 100000 in
set_option maxHeartbeats 8000000 in
theorem shufRef (k c : UInt64) (n : Nat) (w : World) (hn : n ≤ 4096) :
    Calls Try.prog 24 #[rv k c, .int .i64 n] w (tSh w n k (shf (bel k) (n - 1) id c).2 (shf (bel k) (n - 1) id c).1) := by
  obtain ⟨W0, hW0⟩ : ∃ W0, (w.alloc (.cells #[.int .u64 (V k), .int .u64 (V c)] 24)).alloc (.cells #[.int .u64 0, .int .u64 0] 24) = W0 := ⟨_, rfl⟩
  have H2 : Hid (Two W0 w.heap.size (.int .u64 (V k)) (.int .u64 (V c))) := Lib.hid (by rw [← hW0]; exact (Two.new _ _ _ _).alloc _)
  have H3 : Hid (Two W0 (w.heap.size + 1) (.int .u64 0) (.int .u64 0)) := Lib.hid (by rw [← hW0]; exact Two.at_ (by simp) _ _ _)
  have HBW : Hid (Below w.heap.size w W0) := Lib.hid (by rw [← hW0]; exact ((Below.refl _ _).alloc (Nat.le_refl _) _).alloc (by simp) _)
  have HZ : W0.heap.size = w.heap.size + 1 + 1 := by rw [← hW0]; simp
  have hmk := run_make_row' (P := Try.prog) 36 3 (.int .i64 0) 8 Try.underlying36 infoI rfl .i64 .i64 n (by omega) (by omega)
  have HM : Hid (SS w (W0.alloc (.cells (madeCells #[.int .i64 0] n) 3)) (w.heap.size + 1 + 1) n k c (fst 0)) := Lib.hid ⟨by rw [← HZ]; exact World.rowIs_made W0 (.int .i64 0) n 3, H2.out.alloc _, H3.out.alloc _, HBW.out.alloc HBW.out.size _⟩
  have HW := Lib.hid hW0
  clear hW0
  go_enter Try.func24, Try.ntmps24
  go_wp2
  rw [HW.out]
  go_loopw [8] (fun i wr => ∃ j : Nat, j ≤ n ∧ i = .int .i64 j ∧ SS w wr (w.heap.size + 1 + 1) n k c (fst j)) (fun i _ => n - (intOf i).toNat)
  case atStart => exact ⟨0, Nat.zero_le _, rfl, HM.out⟩
  case round =>
    obtain ⟨j, hj, rfl, hss⟩ := hrel
    have HS := Lib.hid hss
    by_cases hlt : j < n
    · have hck := hss.row.cell hlt
      have hfr := hss.row.frozen j
      clear hss
      go_wp2
      go_roundw
      case rel => exact ⟨j + 1, by omega, by go_num, HS.out.set rfl (fun m _ => fst_next j m)⟩
      case measure => simp [intOf]; omega
    · obtain rfl : n = j := by omega
      have HS' := Lib.hid (HS.out.congr (fun m hm => fst_all hm))
      clear HS hss
      go_wp2
      go_loopw [9] (fun i wq => ∃ I : Int, i = .int .i64 I ∧ -1 ≤ I ∧ I < n ∧ ∃ (f : Nat → Nat) (c' : UInt64), shf (bel k) I.toNat f c' = shf (bel k) (n - 1) id c ∧ SS w wq (w.heap.size + 1 + 1) n k c' f) (fun i _ => (intOf i).toNat)
      case atStart => exact ⟨n - 1, rfl, by omega, by omega, id, c, by rw [show ((n : Int) - 1).toNat = n - 1 by omega], HS'.out⟩
      case round =>
        obtain ⟨I, rfl, I0, I1, f, c', he, hs2⟩ := hrel
        have HSS := Lib.hid hs2
        by_cases hI : I < 1
        · have HE := Lib.hid (ret_shf he hI)
          obtain ⟨_, c0, c1, f0, f1⟩ := hs2.two
          obtain ⟨_, d0, d1, q0, q1⟩ := hs2.res
          clear he hs2
          go_wp2
          go_region
          all_goals
            go_wp2
            obtain ⟨_, z0, z1, _, _⟩ := (HSS.out.res.put (.int .u64 (V k)) (.int .u64 (V c'))).drew
            rw [HE.out.1, HE.out.2]
            refine bodyPost_ret (v := .tuple #[.slice (some ⟨w.heap.size + 1 + 1, 0, none⟩) n n, rv k c', .int .i64 0]) (by simp [results, Try.results24, go_sem, z0, z1]) rfl ?_
            exact ⟨_, rfl, ((HSS.out.row.setOther (by simp) _).setOther (by simp) _).drew, by omega, ((HSS.out.below.setCell (by simp) _).setCell (by simp) _).drew⟩
        · obtain ⟨m, rfl⟩ := Int.eq_ofNat_of_zero_le (show 0 ≤ I by omega)
          have hm1 : 1 ≤ m := by omega
          rw [Int.toNat_natCast, shf_step (bel k) hm1] at he
          have hb := fun w => belowRef k c' ((m + 1 : Nat) : Int) w
          rw [belR_yes (by omega) (by omega)] at hb
          have hpx : belX k c' (m + 1) < m + 1 := Nat.mod_lt _ (by omega)
          rw [show ((m + 1 : Nat) : Int) = (m : Int) + 1 from rfl] at hb
          change shf (bel k) (m - 1) (swp f m (belX k c' (m + 1))) (belC k c' (m + 1)) = _ at he
          generalize belX k c' (m + 1) = px at *
          generalize belC k c' (m + 1) = pc at *
          have HB := Lib.hid hb
          have HE := Lib.hid he
          obtain ⟨_, c0, c1, f0, f1⟩ := hs2.two
          clear hb he hs2
          go_wp2_with (go_at_call 20; ((with_reducible refine (HB.out _).mono ?_); rintro e w1 ⟨rfl, b1⟩; have S1 := Lib.hid (HSS.out.later b1); obtain ⟨l1, e0, e1, p0, p1⟩ := S1.out.two; have lG := S1.out.row.lt; have g1 := S1.out.row.cell (i := m) (by omega); have g2 := S1.out.row.cell (i := px) (by omega); have h1 := S1.out.row.frozen m; have h2 := S1.out.row.frozen px; obtain ⟨vv, g3⟩ : ∃ vv, (((w1.setCell ⟨w.heap.size, 0, none⟩ (.int .u64 (V k))).setCell ⟨w.heap.size, 1, none⟩ (.int .u64 (V pc))).setCell ⟨w.heap.size + 1 + 1, m, none⟩ (.int .i64 (f px))).cell? ⟨w.heap.size + 1 + 1, px, none⟩ = some vv := ⟨_, (((S1.out.row.setOther (a := ⟨w.heap.size, 0, none⟩) (show w.heap.size + 1 + 1 ≠ w.heap.size by omega) (.int .u64 (V k))).setOther (a := ⟨w.heap.size, 1, none⟩) (show w.heap.size + 1 + 1 ≠ w.heap.size by omega) (.int .u64 (V pc))).set m (.int .i64 (f px))).cell (by omega)⟩; clear b1))
          go_roundw
          case rel => exact ⟨(m : Int) - 1, rfl, by omega, by omega, swp f m px, pc, by rw [show ((m : Int) - 1).toNat = m - 1 by omega]; exact HE.out, ((S1.out.put rfl pc).swap rfl m px).alloc _⟩
          case measure => simp [intOf]; omega
set_option maxRecDepth 100000 in
theorem shufNoCode (k c : UInt64) (n : Int) (w : World) (h : ¬ (0 ≤ n ∧ n ≤ 4096)) :
    Calls Try.prog 23 #[rv k c, .int .i64 n] w (tShN w) := by
  by_cases hl : n < 0
  · go_enter Try.func23, Try.ntmps23
    go_wp2
    refine bodyPost_ret (v := .tuple #[.slice none 0 0, rv 0 0, .int .i64 1]) (by simp [results, Try.results23, go_sem, V0]) rfl ?_
    exact ⟨rfl, ((Below.refl _ _).alloc (Nat.le_refl _) _).alloc (by simp) _⟩
  · have hg : 4096 < n := by omega
    go_enter Try.func23, Try.ntmps23
    go_wp2
    refine bodyPost_ret (v := .tuple #[.slice none 0 0, rv 0 0, .int .i64 1]) (by simp [results, Try.results23, go_sem, V0]) rfl ?_
    exact ⟨rfl, ((Below.refl _ _).alloc (Nat.le_refl _) _).alloc (by simp) _⟩
set_option maxRecDepth 100000 in
theorem shufNoRef (k c : UInt64) (n : Int) (w : World) (h : ¬ (0 ≤ n ∧ n ≤ 4096)) :
    Calls Try.prog 24 #[rv k c, .int .i64 n] w (tShN w) := by
  by_cases hl : n < 0
  · go_enter Try.func24, Try.ntmps24
    go_wp2
    refine bodyPost_ret (v := .tuple #[.slice none 0 0, rv 0 0, .int .i64 1]) (by simp [results, Try.results24, go_sem, V0]) rfl ?_
    exact ⟨rfl, ((Below.refl _ _).alloc (Nat.le_refl _) _).alloc (by simp) _⟩
  · have hg : 4096 < n := by omega
    go_enter Try.func24, Try.ntmps24
    go_wp2
    refine bodyPost_ret (v := .tuple #[.slice none 0 0, rv 0 0, .int .i64 1]) (by simp [results, Try.results24, go_sem, V0]) rfl ?_
    exact ⟨rfl, ((Below.refl _ _).alloc (Nat.le_refl _) _).alloc (by simp) _⟩
/-! ### Same -/
set_option maxRecDepth 100000 in
set_option maxHeartbeats 4000000 in
theorem same_any (f : Nat → Nat) (n a b : Nat) (w : World) (hn : n ≤ 4096) (ha : w.rowIs a 3 n (ord f)) (hb : w.rowIs b 3 n (ord f)) :
    Calls Try.prog 25 #[.slice (some ⟨a, 0, none⟩) n n, .slice (some ⟨b, 0, none⟩) n n] w fun e w' => e = .returned (.bool true) ∧ Below w.heap.size w w' := by
  have HA := Lib.hid ha
  have HB := Lib.hid hb
  clear ha hb
  go_enter Try.func25, Try.ntmps25
  go_wp2
  go_loopw [5] (fun i wr => ∃ j : Nat, j ≤ n ∧ i = .int .i64 j ∧ Below w.heap.size w wr) (fun i _ => n - (intOf i).toNat)
  case atStart => exact ⟨0, Nat.zero_le _, rfl, Below.refl _ _⟩
  case round =>
    obtain ⟨j, hj, rfl, hb⟩ := hrel
    have HBL := Lib.hid hb
    by_cases hlt : j < n
    · have g1 : wr.cell? ⟨a, j, none⟩ = some (.int .i64 (f j)) := by rw [hb.cell HA.out.lt]; exact HA.out.cell hlt
      have g2 : wr.cell? ⟨b, j, none⟩ = some (.int .i64 (f j)) := by rw [hb.cell HB.out.lt]; exact HB.out.cell hlt
      clear hb
      go_wp2
      go_region
      all_goals
        go_wp2
        go_roundw
        case rel => exact ⟨j + 1, by omega, by go_num, HBL.out.drew⟩
        case measure => simp [intOf]; omega
    · obtain rfl : n = j := by omega
      clear hb
      go_wp2
      go_ret
      exact ⟨rfl, HBL.out⟩
theorem same_nil (w : World) :
    Calls Try.prog 25 #[.slice none 0 0, .slice none 0 0] w fun e w' => e = .returned (.bool true) ∧ Below w.heap.size w w' := by
  go_enter Try.func25, Try.ntmps25
  go_wp2
  go_loopw [5] (fun i wr => i = .int .i64 0 ∧ Below w.heap.size w wr) (fun _ _ => 0)
  case atStart => exact ⟨rfl, Below.refl _ _⟩
  case round =>
    obtain ⟨rfl, hb⟩ := hrel
    go_wp2
    go_ret
    exact ⟨rfl, hb⟩
end Go.Proofs.Ytahjgepjhihhjaa.RngW
