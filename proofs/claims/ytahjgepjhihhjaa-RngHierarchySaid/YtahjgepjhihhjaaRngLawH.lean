/-
  The law RngHierarchy, walked.
-/
import Derived.Test.YtahjgepjhihhjaaRngLawS
namespace Go.Proofs.Ytahjgepjhihhjaa.RngW
open Go Go.RowKit Go.«Sort» Go.Proofs.Ytahjgepjhihhjaa.HashM Go.Proofs.Ytahjgepjhihhjaa.HashW Go.Proofs.Ytahjgepjhihhjaa.RngM

/-- The four streams of the law in their blocks. -/
structure Hier (w wx : World) (b7 g9 g10 : Nat) (k c D a b : UInt64) : Prop where
  r : Two wx w.heap.size (.int .u64 (V k)) (.int .u64 (V c))
  c : Two wx b7 (.int .u64 (V D)) (.int .u64 (V 0))
  s : Two wx g9 (.int .u64 (V k)) (.int .u64 (V a))
  u : Two wx g10 (.int .u64 (V D)) (.int .u64 (V b))
  l7 : w.heap.size < b7
  l9 : b7 < g9
  l10 : b7 < g10
  ne : g9 ≠ g10
  below : Below w.heap.size w wx
theorem Hier.later {w wx wy : World} {b7 g9 g10 : Nat} {k c D a b : UInt64} (h : Hier w wx b7 g9 g10 k c D a b) (q : Below wx.heap.size wx wy) : Hier w wy b7 g9 g10 k c D a b :=
  ⟨h.r.stay q, h.c.stay q, h.s.stay q, h.u.stay q, h.l7, h.l9, h.l10, h.ne, h.below.trans (q.mono h.below.size)⟩
theorem Hier.put9 {w wx : World} {b7 g9 g10 : Nat} {k c D a b : UInt64} (h : Hier w wx b7 g9 g10 k c D a b) (a' : UInt64) : Hier w ((wx.setCell ⟨g9, 0, none⟩ (.int .u64 (V k))).setCell ⟨g9, 1, none⟩ (.int .u64 (V a'))) b7 g9 g10 k c D a' b := by
  obtain ⟨r, c, s, u, l7, l9, l10, ne, be⟩ := h
  exact ⟨(r.far (by omega)).far (by omega), (c.far (by omega)).far (by omega), s.put _ _, (u.far (Ne.symm ne)).far (Ne.symm ne), l7, l9, l10, ne, (be.setCell (by show _ ≤ g9; omega) _).setCell (by show _ ≤ g9; omega) _⟩
theorem Hier.put10 {w wx : World} {b7 g9 g10 : Nat} {k c D a b : UInt64} (h : Hier w wx b7 g9 g10 k c D a b) (b' : UInt64) : Hier w ((wx.setCell ⟨g10, 0, none⟩ (.int .u64 (V D))).setCell ⟨g10, 1, none⟩ (.int .u64 (V b'))) b7 g9 g10 k c D a b' := by
  obtain ⟨r, c, s, u, l7, l9, l10, ne, be⟩ := h
  exact ⟨(r.far (by omega)).far (by omega), (c.far (by omega)).far (by omega), (s.far ne).far ne, u.put _ _, l7, l9, l10, ne, (be.setCell (by show _ ≤ g10; omega) _).setCell (by show _ ≤ g10; omega) _⟩
set_option maxRecDepth 100000 in
set_option maxHeartbeats 16000000 in
theorem hier_raw (k c D E : UInt64) (M : UInt64 → UInt64 → UInt64) (cs us : Nat → UInt64) (s : ByteArray) (N K : Nat) (w : World) (hN : N ≤ 255) (hK : K ≤ 100) (hm : (N : Int).tmod 101 = (K : Int))
    (hc0 : cs 0 = c) (hu0 : us 0 = 0) (hcs : ∀ j, cs (j + 1) = cs j + 1) (hus : ∀ j, us (j + 1) = us j + 1) (hw : IntKind.u64.wrap (V c + (K : Int)) = V (cs K))
    (h1 : ∀ a b w, Calls Try.prog 10 #[rv a b] w fun e w' => e = .returned (.tuple #[.int .u64 (V (M a b)), rv a (b + 1)]) ∧ Below w.heap.size w w')
    (hC : ∀ b w, Calls Try.prog 14 #[rv k b, .string s] w fun e w' => e = .returned (rv D 0) ∧ Below w.heap.size w w')
    (hS : ∀ w, Calls Try.prog 16 #[rv k c, .int .i64 K] w fun e w' => e = .returned (rv k (cs K)) ∧ Below w.heap.size w w')
    (hS2 : ∀ w, Calls Try.prog 16 #[rv D 0, .int .i64 K] w fun e w' => e = .returned (rv D (us K)) ∧ Below w.heap.size w w')
    (hS3 : ∀ w, Calls Try.prog 16 #[rv k c, .int .i64 N] w fun e w' => e = .returned (rv k E) ∧ Below w.heap.size w w')
    (hS4 : ∀ w, Calls Try.prog 16 #[rv k c, .int .i64 (-1 - K)] w fun e w' => e = .returned (rv k c) ∧ Below w.heap.size w w')
    (hA : ∀ w, Calls Try.prog 18 #[] w fun e w' => e = .returned (.bool true) ∧ Below w.heap.size w w') :
    Calls Try.prog 7 #[rv k c, .string s, .int .u8 N] w (tBool w true) := by
  have H1 := Lib.hid h1
  have HC1 := Lib.hid (hC c)
  have HC := Lib.hid (fun b => q_of (hC b))
  have HS := Lib.hid (q_of hS)
  have HS2 := Lib.hid (q_of hS2)
  have HS3 := Lib.hid (q_of hS3)
  have HS4 := Lib.hid (q_of hS4)
  have HA := Lib.hid (q_of hA)
  have HQ := Lib.hid hcs
  have HU := Lib.hid hus
  have Z0 := Lib.hid hc0
  have Z1 := Lib.hid hu0
  clear h1 hC hS hS2 hS3 hS4 hA hcs hus hc0 hu0
  go_enter Try.func7, Try.ntmps7
  go_wp2_with (first
    | (go_at_call 14; ((with_reducible refine (HC1.out _).mono ?_); rintro e w1 ⟨rfl, hq⟩; have T1 := Lib.hid (two_new hq); obtain ⟨_, c0, c1, _, _⟩ := T1.out; have B1 := Lib.hid (below_new hq); clear hq)))
  have z0 := T1.out.lt
  have z1 : w.heap.size < w1.heap.size + 1 := by omega
  have z2 : w.heap.size < w1.heap.size + 1 + 1 := by omega
  go_cut [9, 10] (fun s9 s10 wx => ∃ g9 g10, s9 = .pointer (some ⟨g9, 0, none⟩) ∧ s10 = .pointer (some ⟨g10, 0, none⟩) ∧ Hier w wx w1.heap.size g9 g10 k c D c 0)
  case first =>
    go_region
    all_goals
      go_wp2
      go_meet
      first
        | exact ⟨_, _, rfl, rfl, (((T1.out.alloc _).alloc _).alloc _).drew, (((Two.new w1 _ _ _).alloc _).alloc _).drew, ((Two.at_ (by simp) _ _ _).alloc _).drew, (Two.at_ (by simp) _ _ _).drew, z0, by omega, by omega, by omega, (((B1.out.alloc B1.out.size _).alloc (by simp; omega) _).alloc (by simp; omega) _).drew⟩
        | exact ⟨_, _, rfl, rfl, (((T1.out.alloc _).alloc _).alloc _).drew, (((Two.new w1 _ _ _).alloc _).alloc _).drew, (Two.at_ (by simp) _ _ _).drew, ((Two.at_ (by simp) _ _ _).alloc _).drew, z0, by omega, by omega, by omega, (((B1.out.alloc B1.out.size _).alloc (by simp; omega) _).alloc (by simp; omega) _).drew⟩
  case rest =>
    obtain ⟨g9, g10, rfl, rfl, hh⟩ := hcut
    have HH := Lib.hid hh
    clear hh
    go_wp2
    go_loopw [11] (fun i wr => ∃ j : Nat, j ≤ K ∧ i = .int .i64 j ∧ Hier w wr w1.heap.size g9 g10 k c D (cs j) (us j)) (fun i _ => K - (intOf i).toNat)
    case atStart => exact ⟨0, Nat.zero_le _, rfl, by rw [Z0.out, Z1.out]; exact HH.out⟩
    case round =>
      obtain ⟨j, hj, rfl, hs⟩ := hrel
      have HJ := Lib.hid hs
      have hne := hs.ne
      have hne' := Ne.symm hs.ne
      by_cases hlt : j < K
      · obtain ⟨_, c0, c1, f0, f1⟩ := hs.s
        clear hs
        go_wp2_with (first
          | (go_at_call 10; ((with_reducible refine (H1.out k _ _).mono ?_); rintro e w2 ⟨rfl, hq⟩; have J2 := Lib.hid (HJ.out.later hq); obtain ⟨_, d0, d1, q0, q1⟩ := J2.out.s; obtain ⟨_, e0, e1, p0, p1⟩ := J2.out.u; clear hq))
          | (go_at_call 10; ((with_reducible refine (H1.out D _ _).mono ?_); rintro e w3 ⟨rfl, hq⟩; have J3 := Lib.hid ((J2.out.put9 (cs j + 1)).later hq); obtain ⟨_, x0, x1, y0, y1⟩ := J3.out.u; clear hq)))
        go_roundw
        case rel => exact ⟨j + 1, by omega, rfl, by rw [HQ.out, HU.out]; exact J3.out.put10 _⟩
        case measure => simp [intOf]; omega
      · obtain rfl : K = j := by omega
        have k0 := cell_regrown hs.r.c0
        have k1 := cell_regrown hs.r.c1
        have k2 := cell_regrown hs.c.c0
        have k3 := cell_regrown hs.c.c1
        have k4 := cell_regrown hs.s.c0
        have k5 := cell_regrown hs.s.c1
        have k6 := cell_regrown hs.u.c0
        have k7 := cell_regrown hs.u.c1
        clear hs
        go_wp2
        refine wp_region_quiet_below (by kernel_rfl) (by kernel_rfl) ?_
        repeat (first | go_big_quiet_step (first | with_reducible exact HC.out _ _ _ _ | with_reducible exact HS.out _ _ _ | with_reducible exact HS2.out _ _ _ | with_reducible exact HS3.out _ _ _ | with_reducible exact HS4.out _ _ _ | with_reducible exact HA.out _ _ _) | quiet_step (first | with_reducible exact HC.out _ _ _ _ | with_reducible exact HS.out _ _ _ | with_reducible exact HS2.out _ _ _ | with_reducible exact HS3.out _ _ _ | with_reducible exact HS4.out _ _ _ | with_reducible exact HA.out _ _ _))
        refine wpQuiet_nil ?_
        intro w4 hw'
        obtain ⟨pq, hw''⟩ := hw'
        have HX : Hid (Below wr.heap.size wr w4) := Lib.hid (by rw [hw'']; exact below_regrown _ _ _)
        clear hw'' k0 k1 k2 k3 k4 k5 k6 k7
        have J4 := Lib.hid (HJ.out.later HX.out)
        obtain ⟨_, c0, c1, _, _⟩ := J4.out.s
        go_wp2_with (first
          | (go_at_call 10; ((with_reducible refine (H1.out k (cs K) w4).mono ?_); rintro e w5 ⟨rfl, hq⟩; have J5 := Lib.hid (J4.out.later hq); obtain ⟨_, d0, d1, _, _⟩ := J5.out.r; clear hq))
          | (go_at_call 10; ((with_reducible refine (H1.out k (cs K) _).mono ?_); rintro e w6 ⟨rfl, hq⟩; have J6 := Lib.hid ((J5.out.later ((Below.refl _ _).alloc (Nat.le_refl _) _)).later hq); clear hq)))
        obtain ⟨w7, hw7⟩ : ∃ w7, w6.alloc (.cells #[.int .u64 (V k), .int .u64 (V (cs K + 1))] 24) = w7 := ⟨_, rfl⟩
        have J7 := J6.out.later ((Below.refl _ _).alloc (Nat.le_refl _) (.cells #[.int .u64 (V k), .int .u64 (V (cs K + 1))] 24))
        rw [hw7] at J7
        have B7 := Lib.hid J7.below
        rw [hw7]
        have k0 := cell_regrown J7.r.c0
        have k1 := cell_regrown J7.r.c1
        clear hw7 J7
        refine wp_region_quiet_below (by kernel_rfl) (by kernel_rfl) ?_
        repeat (first | go_big_quiet_step (first | with_reducible exact HS4.out _ _ _ | with_reducible exact HA.out _ _ _) | quiet_step (first | with_reducible exact HS4.out _ _ _ | with_reducible exact HA.out _ _ _))
        refine wpQuiet_nil ?_
        intro w8 hw'
        obtain ⟨pq, hw''⟩ := hw'
        have HY : Hid (Below w7.heap.size w7 w8) := Lib.hid (by rw [hw'']; exact below_regrown _ _ _)
        clear hw'' k0 k1
        go_wp2
        go_ret
        exact ⟨rfl, B7.out.trans (HY.out.mono B7.out.size)⟩
theorem skp_zero (c : UInt64) : skp c ((0 : Nat) : Int) = c := UInt64.add_zero c
theorem skp_next (c : UInt64) (j : Nat) : skp c ((j + 1 : Nat) : Int) = skp c (j : Int) + 1 := by
  unfold skp
  rw [Int.toNat_natCast, Int.toNat_natCast, UInt64.ofNat_add, UInt64.add_assoc]
  rfl
theorem hierarchy_any (k c : UInt64) (s : ByteArray) (n : UInt8) (w : World) (hs : s.size ≤ 140737488351232) :
    Calls Try.prog 7 #[rv k c, .string s, .int .u8 (n.toNat : Int)] w (tBool w true) := by
  have hn : n.toNat ≤ 255 := by have := UInt8.toNat_lt n; omega
  have hk : n.toNat % 101 ≤ 100 := by omega
  refine hier_raw k c (kid k s) (skp c n.toNat) mix (fun j => skp c (j : Int)) (fun j => skp 0 (j : Int)) s n.toNat (n.toNat % 101) w hn hk (remN _ 101) (skp_zero c) (skp_zero 0) (skp_next c) (skp_next 0) (skpV c _ (by omega))
    nextCode (fun b w => childCode k b s w hs) (fun w => skipCode k c _ w (by omega) (by omega)) (fun w => skipCode (kid k s) 0 _ w (by omega) (by omega)) (fun w => skipCode k c _ w (by omega) (by omega)) (fun w => ?_) awake_any
  have h := skipCode k c (-1 - ((n.toNat % 101 : Nat) : Int)) w (by omega) (by omega)
  rw [skp_neg (by omega)] at h
  exact h
end Go.Proofs.Ytahjgepjhihhjaa.RngW
