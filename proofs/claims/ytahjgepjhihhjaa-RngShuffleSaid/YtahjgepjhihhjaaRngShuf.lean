/-
  What Shuffle of package rng returns.
-/
import Derived.Test.YtahjgepjhihhjaaRngWeightR
import Derived.Deep.OwnRows
namespace Go.Proofs.Ytahjgepjhihhjaa.RngW
open Go Go.RowKit Go.Proofs.Ytahjgepjhihhjaa.HashM Go.Proofs.Ytahjgepjhihhjaa.HashW Go.Proofs.Ytahjgepjhihhjaa.RngM

theorem infoI : (Try.prog.info? 3).map (fun i => (i.zero, i.size, i.bytes)) = some (some (.int .i64 0), 1, 8) := by kernel_rfl
/-- A list of numbers as cells. -/
abbrev ord (f : Nat → Nat) : Nat → Value := fun j => .int .i64 (f j)
/-- The first k numbers, and zeros. -/
def fst (k : Nat) : Nat → Nat := fun j => if j < k then j else 0
theorem fst_next (k j : Nat) : (if j = k then Value.int .i64 k else ord (fst k) j) = ord (fst (k + 1)) j := by
  unfold ord fst
  by_cases h : j = k
  · subst h; rw [if_pos rfl, if_pos (by omega)]
  · rw [if_neg h]
    by_cases h2 : j < k
    · rw [if_pos h2, if_pos (by omega)]
    · rw [if_neg h2, if_neg (by omega)]
theorem fst_all {n j : Nat} (h : j < n) : ord (fst n) j = ord id j := by
  unfold ord fst
  rw [if_pos h]; rfl
theorem swp_at (f : Nat → Nat) (i j m : Nat) : (if m = j then Value.int .i64 (f i) else if m = i then Value.int .i64 (f j) else ord f m) = ord (swp f i j) m := by
  unfold ord swp
  by_cases h : m = j
  · rw [if_pos h, if_pos h]
  · rw [if_neg h, if_neg h]
    by_cases h2 : m = i
    · rw [if_pos h2, if_pos h2]
    · rw [if_neg h2, if_neg h2]
/-- What Shuffle leaves: the list in a new block. -/
def tSh (w : World) (n : Nat) (k c : UInt64) (f : Nat → Nat) (e : Ending) (w' : World) : Prop :=
  ∃ g, e = .returned (.tuple #[.slice (some ⟨g, 0, none⟩) n n, rv k c, .int .i64 0]) ∧ w'.rowIs g 3 n (ord f) ∧ w.heap.size ≤ g ∧ Below w.heap.size w w'
/-- The blocks of a call of Shuffle. -/
structure SS (w wr : World) (G n : Nat) (k c : UInt64) (f : Nat → Nat) : Prop where
  row : wr.rowIs G 3 n (ord f)
  two : Two wr w.heap.size (.int .u64 (V k)) (.int .u64 (V c))
  res : Two wr (w.heap.size + 1) (.int .u64 0) (.int .u64 0)
  below : Below w.heap.size w wr
theorem SS.congr {w wr : World} {G n : Nat} {k c : UInt64} {f f' : Nat → Nat} (h : SS w wr G n k c f) (e : ∀ j, j < n → ord f j = ord f' j) : SS w wr G n k c f' := ⟨h.row.congr e, h.two, h.res, h.below⟩
theorem SS.set {w wr : World} {G n : Nat} {k c : UInt64} {f f' : Nat → Nat} {i : Nat} {v : Value} (h : SS w wr G n k c f) (hG : G = w.heap.size + 1 + 1) (e : ∀ j, j < n → (if j = i then v else ord f j) = ord f' j) : SS w (wr.setCell ⟨G, i, none⟩ v) G n k c f' :=
  ⟨(h.row.set i v).congr e, h.two.far (by omega), h.res.far (by omega), h.below.setCell (by show _ ≤ G; omega) _⟩
theorem SS.alloc {w wr : World} {G n : Nat} {k c : UInt64} {f : Nat → Nat} (h : SS w wr G n k c f) (o : Obj) : SS w (wr.alloc o) G n k c f :=
  ⟨h.row.alloc o, h.two.alloc o, h.res.alloc o, h.below.alloc h.below.size o⟩
theorem SS.drew {w wr : World} {G n : Nat} {k c : UInt64} {f : Nat → Nat} (h : SS w wr G n k c f) : SS w wr.drew G n k c f :=
  ⟨h.row.drew, h.two.drew, h.res.drew, h.below.drew⟩
/-- Behind a number that was taken from the stream in its block. -/
theorem SS.took {w wr w1 : World} {G n : Nat} {k c c' : UInt64} {f : Nat → Nat} (h : SS w wr G n k c f) (hG : G = w.heap.size + 1 + 1) (t : Two w1 w.heap.size (.int .u64 (V k)) (.int .u64 (V c'))) (u : Upd w.heap.size wr w1) : SS w w1 G n k c' f :=
  ⟨h.row.of_block (u.block G h.row.lt (by omega)), t, h.res.upd u (by omega), h.below.trans (u.below (Nat.le_refl _) h.below.size)⟩
/-- Behind an exchange. -/
theorem SS.swap {w wr : World} {G n : Nat} {k c : UInt64} {f : Nat → Nat} (h : SS w wr G n k c f) (hG : G = w.heap.size + 1 + 1) (i j : Nat) : SS w ((wr.setCell ⟨G, i, none⟩ (.int .i64 (f j))).setCell ⟨G, j, none⟩ (.int .i64 (f i))) G n k c (swp f i j) :=
  ⟨((h.row.set i _).set j _).congr (fun m _ => swp_at f i j m), (h.two.far (by omega)).far (by omega), (h.res.far (by omega)).far (by omega), (h.below.setCell (by show _ ≤ G; omega) _).setCell (by show _ ≤ G; omega) _⟩
theorem shf_step (B : UInt64 → Nat → Nat × UInt64) {m : Nat} (h : 1 ≤ m) (f : Nat → Nat) (c : UInt64) : shf B m f c = shf B (m - 1) (swp f m (B c (m + 1)).1) (B c (m + 1)).2 := by
  obtain ⟨i, rfl⟩ : ∃ i, m = i + 1 := ⟨m - 1, by omega⟩
  exact shf_next B i f c
theorem far2 {w : World} {a b i j : Nat} {x y v : Value} (h : w.cell? ⟨a, 0, none⟩ = some v) (hn : a ≠ b) : (((w.setCell ⟨b, i, none⟩ x).setCell ⟨b, j, none⟩ y).drew).cell? ⟨a, 0, none⟩ = some v := by
  show ((w.setCell ⟨b, i, none⟩ x).setCell ⟨b, j, none⟩ y).cell? ⟨a, 0, none⟩ = some v
  rw [World.cell?_setCell_other _ _ _ _ (fun e => hn (congrArg Addr.block e).symm), World.cell?_setCell_other _ _ _ _ (fun e => hn (congrArg Addr.block e).symm)]
  exact h
theorem ret_shf {n : Nat} {c c' : UInt64} {f : Nat → Nat} {B : UInt64 → Nat → Nat × UInt64} {I : Int} (h : shf B I.toNat f c' = shf B (n - 1) id c) (hI : I < 1) : (shf B (n - 1) id c).2 = c' ∧ (shf B (n - 1) id c).1 = f := by
  rw [← h, show I.toNat = 0 by omega, shf_zero]
  exact ⟨rfl, rfl⟩
set_option maxRecDepth 100000 in
set_option maxHeartbeats 8000000 in
theorem shufCode (k c : UInt64) (n : Nat) (w : World) (hn : n ≤ 4096) :
    Calls Try.prog 23 #[rv k c, .int .i64 n] w (tSh w n k (shf (bel k) (n - 1) id c).2 (shf (bel k) (n - 1) id c).1) := by
  obtain ⟨W0, hW0⟩ : ∃ W0, (w.alloc (.cells #[.int .u64 (V k), .int .u64 (V c)] 24)).alloc (.cells #[.int .u64 0, .int .u64 0] 24) = W0 := ⟨_, rfl⟩
  have H2 : Hid (Two W0 w.heap.size (.int .u64 (V k)) (.int .u64 (V c))) := Lib.hid (by rw [← hW0]; exact (Two.new _ _ _ _).alloc _)
  have H3 : Hid (Two W0 (w.heap.size + 1) (.int .u64 0) (.int .u64 0)) := Lib.hid (by rw [← hW0]; exact Two.at_ (by simp) _ _ _)
  have HBW : Hid (Below w.heap.size w W0) := Lib.hid (by rw [← hW0]; exact ((Below.refl _ _).alloc (Nat.le_refl _) _).alloc (by simp) _)
  have HZ : W0.heap.size = w.heap.size + 1 + 1 := by rw [← hW0]; simp
  have hmk := run_make_row' (P := Try.prog) 36 3 (.int .i64 0) 8 Try.underlying36 infoI rfl .i64 .i64 n (by omega) (by omega)
  have HM : Hid (SS w (W0.alloc (.cells (madeCells #[.int .i64 0] n) 3)) (w.heap.size + 1 + 1) n k c (fst 0)) := Lib.hid ⟨by rw [← HZ]; exact World.rowIs_made W0 (.int .i64 0) n 3, H2.out.alloc _, H3.out.alloc _, HBW.out.alloc HBW.out.size _⟩
  have HW := Lib.hid hW0
  clear hW0
  go_enter Try.func23, Try.ntmps23
  go_wp2
  rw [HW.out]
  go_loopw [23] (fun i wr => ∃ j : Nat, j ≤ n ∧ i = .int .i64 j ∧ SS w wr (w.heap.size + 1 + 1) n k c (fst j)) (fun i _ => n - (intOf i).toNat)
  case atStart => exact ⟨0, Nat.zero_le _, rfl, HM.out⟩
  case round =>
    obtain ⟨j, hj, rfl, hss⟩ := hrel
    have HS := Lib.hid hss
    by_cases hlt : j < n
    · have hck := hss.row.cell hlt
      have hfr := hss.row.frozen j
      clear hss
      go_wp2
      go_roundw
      case rel => exact ⟨j + 1, by omega, by go_num, HS.out.set rfl (fun m _ => fst_next j m)⟩
      case measure => simp [intOf]; omega
    · obtain rfl : n = j := by omega
      have HS' := Lib.hid (HS.out.congr (fun m hm => fst_all hm))
      clear HS hss
      have HR := Lib.hid (rejectCode w.heap.size wr)
      have HA := Lib.hid (HS'.out.alloc (.cells #[.pointer (some ⟨w.heap.size, 0, none⟩)] 51))
      have hp := (alloc_cells wr #[.pointer (some ⟨w.heap.size, 0, none⟩)] 51 0 _ rfl).1
      have HP := Lib.hid hp
      clear hp
      go_wp2_with (go_at_call 33; ((with_reducible refine HR.out.mono ?_); rintro e w1 ⟨rfl, rfl⟩))
      obtain ⟨w9, rfl⟩ : ∃ x, x = wr := ⟨_, rfl⟩
      go_loopw [10] (fun i wq => ∃ I : Int, i = .int .i64 I ∧ -1 ≤ I ∧ I < n ∧ ∃ (f : Nat → Nat) (c' : UInt64), shf (bel k) I.toNat f c' = shf (bel k) (n - 1) id c ∧ SS w wq (w.heap.size + 1 + 1) n k c' f ∧ wq.cell? ⟨w9.heap.size, 0, none⟩ = some (.pointer (some ⟨w.heap.size, 0, none⟩)) ∧ w9.heap.size < wq.heap.size) (fun i _ => (intOf i).toNat)
      case atStart => exact ⟨n - 1, rfl, by omega, by omega, id, c, by rw [show ((n : Int) - 1).toNat = n - 1 by omega], HA.out, HP.out, by simp⟩
      case round =>
        obtain ⟨I, rfl, I0, I1, f, c', he, hs2, hpc, hpl⟩ := hrel
        have HSS := Lib.hid hs2
        have HL : Hid (w.heap.size + 1 + 1 < w9.heap.size) := Lib.hid HS'.out.row.lt
        by_cases hI : I < 1
        · have HE := Lib.hid (ret_shf he hI)
          obtain ⟨_, c0, c1, f0, f1⟩ := hs2.two
          obtain ⟨_, d0, d1, q0, q1⟩ := hs2.res
          clear he hs2
          go_wp2
          go_region
          all_goals
            go_wp2
            obtain ⟨_, z0, z1, _, _⟩ := (HSS.out.res.put (.int .u64 (V k)) (.int .u64 (V c'))).drew
            rw [HE.out.1, HE.out.2]
            refine bodyPost_ret (v := .tuple #[.slice (some ⟨w.heap.size + 1 + 1, 0, none⟩) n n, rv k c', .int .i64 0]) (by simp [results, Try.results23, go_sem, z0, z1]) rfl ?_
            exact ⟨_, rfl, ((HSS.out.row.setOther (by simp) _).setOther (by simp) _).drew, by omega, ((HSS.out.below.setCell (by simp) _).setCell (by simp) _).drew⟩
        · obtain ⟨m, rfl⟩ := Int.eq_ofNat_of_zero_le (show 0 ≤ I by omega)
          have hm1 : 1 ≤ m := by omega
          rw [Int.toNat_natCast, shf_step (bel k) hm1] at he
          have hb := belowIn k c' (m + 1) w9.heap.size w.heap.size wr (by omega) (by omega) hpc hpl hs2.two (by have := HL.out; omega)
          have hpx : belX k c' (m + 1) < m + 1 := Nat.mod_lt _ (by omega)
          rw [show ((m + 1 : Nat) : Int) = (m : Int) + 1 from rfl] at hb
          change shf (bel k) (m - 1) (swp f m (belX k c' (m + 1))) (belC k c' (m + 1)) = _ at he
          generalize belX k c' (m + 1) = px at *
          generalize belC k c' (m + 1) = pc at *
          have HB := Lib.hid hb
          have HE := Lib.hid he
          clear hb he hs2
          go_wp2_with (go_at_call 32; ((with_reducible refine HB.out.mono ?_); rintro e w1 ⟨rfl, t1, u1⟩; have S1 := Lib.hid (HSS.out.took rfl t1 u1); have g1 := S1.out.row.cell (i := m) (by omega); have g2 := S1.out.row.cell (i := px) (by omega); have h1 := S1.out.row.frozen m; have h2 := S1.out.row.frozen px; have P1 : Hid (w1.cell? ⟨w9.heap.size, 0, none⟩ = some (.pointer (some ⟨w.heap.size, 0, none⟩))) := Lib.hid ((u1.cell hpl (by have := HL.out; omega)).trans hpc); have Z1 := Lib.hid u1.size; obtain ⟨vv, g3⟩ : ∃ vv, (w1.setCell ⟨w.heap.size + 1 + 1, m, none⟩ (.int .i64 (f px))).cell? ⟨w.heap.size + 1 + 1, px, none⟩ = some vv := ⟨_, (S1.out.row.set m _).cell (by omega)⟩; clear t1 u1))
          go_region
          all_goals
            go_wp2
            go_roundw
            case rel => exact ⟨(m : Int) - 1, by go_num, by omega, by omega, swp f m px, pc, by rw [show ((m : Int) - 1).toNat = m - 1 by omega]; exact HE.out, (S1.out.swap rfl m px).drew, far2 P1.out (by have := HL.out; omega), by show _ < ((w1.setCell _ _).setCell _ _).heap.size; rw [setCell_size, setCell_size]; exact Nat.lt_of_lt_of_le hpl Z1.out⟩
            case measure => simp [intOf]; omega
end Go.Proofs.Ytahjgepjhihhjaa.RngW
