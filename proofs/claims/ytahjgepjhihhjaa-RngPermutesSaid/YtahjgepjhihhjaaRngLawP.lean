/-
  The law RngPermutes, walked.
-/
import Derived.Test.YtahjgepjhihhjaaRngLawS
namespace Go.Proofs.Ytahjgepjhihhjaa.RngW
open Go Go.RowKit Go.«Sort» Go.Proofs.Ytahjgepjhihhjaa.HashM Go.Proofs.Ytahjgepjhihhjaa.HashW Go.Proofs.Ytahjgepjhihhjaa.RngM

theorem infoB : (Try.prog.info? 4).map (fun i => (i.zero, i.size, i.bytes)) = some (some (.bool false), 1, 1) := by kernel_rfl
/-- Is m among the first j numbers of the list? -/
def sn (f : Nat → Nat) : Nat → Nat → Bool
  | 0, _ => false
  | j + 1, m => if m = f j then true else sn f j m
theorem sn_not {n : Nat} {f : Nat → Nat} (h : PermN n f) {i : Nat} (hi : i < n) : ∀ j, j ≤ i → sn f j (f i) = false
  | 0, _ => rfl
  | j + 1, hj => by
    unfold sn
    rw [if_neg (fun e => by have := h.2 _ _ hi (by omega) e; omega)]
    exact sn_not h hi j (by omega)
abbrev marks (f : Nat → Nat) (j : Nat) : Nat → Value := fun m => .bool (sn f j m)
theorem marks_next (f : Nat → Nat) (j m : Nat) : (if m = f j then Value.bool true else marks f j m) = marks f (j + 1) m := by
  unfold marks
  rw [sn]
  by_cases h : m = f j
  · rw [if_pos h, if_pos h]
  · rw [if_neg h, if_neg h]
/-- The blocks of the law. -/
structure PS (w wr : World) (g b7 G K : Nat) (k c y : UInt64) (f : Nat → Nat) (j : Nat) : Prop where
  list : wr.rowIs g 3 K (ord f)
  seen : wr.rowIs G 4 K (marks f j)
  r : Two wr w.heap.size (.int .u64 (V k)) (.int .u64 (V c))
  s : Two wr b7 (.int .u64 (V k)) (.int .u64 (V y))
  lg : g < G
  l7 : b7 < G
  lw : w.heap.size < G
  below : Below w.heap.size w wr
theorem PS.mark {w wr : World} {g b7 G K : Nat} {k c y : UInt64} {f : Nat → Nat} {j : Nat} (h : PS w wr g b7 G K k c y f j) : PS w (wr.setCell ⟨G, f j, none⟩ (.bool true)) g b7 G K k c y f (j + 1) := by
  obtain ⟨a, b, r, s, lg, l7, lw, be⟩ := h
  exact ⟨a.setOther (show g ≠ G by omega) _, (b.set (f j) _).congr (fun m _ => marks_next f j m), r.far (by omega), s.far (by omega), lg, l7, lw, be.setCell (by show _ ≤ G; omega) _⟩
set_option maxRecDepth 100000 in
set_option maxHeartbeats 16000000 in
theorem perm_raw (k c y : UInt64) (f : Nat → Nat) (bx : UInt64 → Nat → Nat) (nx : UInt64 → Nat → UInt64) (ct : Nat → UInt64 → UInt64) (N K : Nat) (w : World) (hN : N ≤ 255) (hK : K ≤ 200) (hm : (N : Int).tmod 201 = (K : Int))
    (hp : PermN K f) (h0 : ∀ c, ct 0 c = c) (hn : ∀ m c, ct (m + 1) c = ct m (nx c (m + 2))) (hy : ct (K - 1) c = y)
    (h1 : ∀ w, Calls Try.prog 23 #[rv k c, .int .i64 K] w (tSh w K k y f))
    (h2 : ∀ c' (I : Nat), 1 < I → I ≤ 200 → ∀ w, Calls Try.prog 19 #[rv k c', .int .i64 I] w fun e w' => e = .returned (.tuple #[.int .i64 (bx c' I), rv k (nx c' I), .int .i64 0]) ∧ Below w.heap.size w w')
    (hA : ∀ w, Calls Try.prog 18 #[] w fun e w' => e = .returned (.bool true) ∧ Below w.heap.size w w') :
    Calls Try.prog 9 #[rv k c, .int .u8 N] w (tBool w true) := by
  have H1 := Lib.hid h1
  have H2 := Lib.hid h2
  have HA := Lib.hid hA
  have HP := Lib.hid hp
  have H0 := Lib.hid h0
  have HN := Lib.hid hn
  have HY := Lib.hid hy
  have hmk := run_make_row' (P := Try.prog) 44 4 (.bool false) 1 Try.underlying44 infoB rfl .i64 .i64 K (by omega) (by omega)
  clear h1 h2 hA hp h0 hn hy
  go_enter Try.func9, Try.ntmps9
  go_wp2_with (go_at_call 23; ((with_reducible refine (H1.out _).mono ?_); rintro e w1 ⟨g, rfl, r1, z1, hq⟩; have T1 := Lib.hid (two_new hq); have R1 := Lib.hid r1; have B1 := Lib.hid (below_new hq); clear hq r1 z1))
  have z0 := T1.out.lt
  have P0 : Hid (PS w ((w1.alloc (.cells #[.int .u64 (V k), .int .u64 (V y)] 24)).alloc (.cells (madeCells #[.bool false] K) 4)) g w1.heap.size (w1.heap.size + 1) K k c y f 0) := Lib.hid
    ⟨(R1.out.alloc _).alloc _, by have h := World.rowIs_made (w1.alloc (.cells #[.int .u64 (V k), .int .u64 (V y)] 24)) (.bool false) K 4; rw [show (w1.alloc (.cells #[.int .u64 (V k), .int .u64 (V y)] 24)).heap.size = w1.heap.size + 1 by simp] at h; exact h,
      (T1.out.alloc _).alloc _, (Two.new w1 _ _ _).alloc _, Nat.lt_succ_of_lt R1.out.lt, Nat.lt_succ_self _, by omega, (B1.out.alloc B1.out.size _).alloc (by simp; omega) _⟩
  go_loopw [37] (fun i wr => ∃ j : Nat, j ≤ K ∧ i = .int .i64 j ∧ PS w wr g w1.heap.size (w1.heap.size + 1) K k c y f j) (fun i _ => K - (intOf i).toNat)
  case atStart => exact ⟨0, Nat.zero_le _, rfl, P0.out⟩
  case round =>
    obtain ⟨j, hj, rfl, hs⟩ := hrel
    have HS := Lib.hid hs
    by_cases hlt : j < K
    · have hf : f j < K := HP.out.1 j hlt
      have g1 := hs.list.cell hlt
      have g2 : wr.cell? ⟨w1.heap.size + 1, f j, none⟩ = some (.bool false) := by rw [hs.seen.cell hf]; show some (Value.bool (sn f j (f j))) = _; rw [sn_not HP.out hlt j (Nat.le_refl _)]
      have g3 := hs.seen.frozen (f j)
      have hf' : (f j : Int) < K := by omega
      clear hs
      go_wp2
      go_roundw
      case rel => exact ⟨j + 1, by omega, by go_num, HS.out.mark⟩
      case measure => simp [intOf]; omega
    · obtain rfl : K = j := by omega
      obtain ⟨w9, rfl⟩ : ∃ x, x = wr := ⟨_, rfl⟩
      obtain ⟨_, c0, c1, _, _⟩ := hs.r
      have l9 := hs.seen.lt
      have lw := hs.lw
      have P9 := Lib.hid (hs.s.alloc (.cells #[.int .u64 (V k), .int .u64 (V c)] 24))
      have B9 := Lib.hid (hs.below.alloc hs.below.size (.cells #[.int .u64 (V k), .int .u64 (V c)] 24))
      clear hs
      go_wp2
      go_loopw [13] (fun i wq => ∃ I : Nat, i = .int .i64 I ∧ I ≤ K ∧ ∃ c' : UInt64, ct (I - 1) c' = y ∧ Two wq w9.heap.size (.int .u64 (V k)) (.int .u64 (V c')) ∧ Two wq w1.heap.size (.int .u64 (V k)) (.int .u64 (V y)) ∧ Below w.heap.size w wq) (fun i _ => (intOf i).toNat)
      case atStart => exact ⟨K, rfl, Nat.le_refl _, c, HY.out, Two.new w9 _ _ _, P9.out, B9.out⟩
      case round =>
        obtain ⟨I, rfl, hI, c', hc, ht, hv, hb⟩ := hrel
        have T2 := Lib.hid ht
        have T3 := Lib.hid hv
        have B2 := Lib.hid hb
        obtain ⟨_, d0, d1, f0, f1⟩ := ht
        by_cases h1 : 1 < I
        · have HC : Hid (ct (I - 1 - 1) (nx c' I) = y) := Lib.hid (by
            obtain ⟨m, rfl⟩ : ∃ m, I = m + 2 := ⟨I - 2, by omega⟩
            rw [← hc]; exact (HN.out m c').symm)
          have HB := Lib.hid (H2.out c' I h1 (by omega))
          clear hc hv hb
          go_wp2_with (go_at_call 19; ((with_reducible refine (HB.out _).mono ?_); rintro e w2 ⟨rfl, hq⟩; have T2 := Lib.hid (T2.out.stay hq); have T3 := Lib.hid (T3.out.stay hq); have B2 := Lib.hid (B2.out.trans (hq.mono B2.out.size)); obtain ⟨_, x0, x1, x2, x3⟩ := T2.out; clear hq))
          go_roundw
          case rel => exact ⟨I - 1, by go_num, by omega, _, HC.out, T2.out.put _ _, (T3.out.far (by omega)).far (by omega), (B2.out.setCell (by show _ ≤ w9.heap.size; omega) _).setCell (by show _ ≤ w9.heap.size; omega) _⟩
          case measure => simp [intOf]; omega
        · have he : c' = y := by rw [← hc, show I - 1 = 0 by omega, H0.out]
          subst he
          obtain ⟨_, y0, y1, _, _⟩ := hv
          clear hc hb
          go_wp2_with (go_at_call 18; ((with_reducible refine (HA.out _).mono ?_); rintro e w3 ⟨rfl, hq⟩; have B3 := Lib.hid (B2.out.trans (hq.mono B2.out.size)); clear hq))
          go_ret
          exact ⟨rfl, B3.out⟩
theorem permutes_any (k c : UInt64) (n : UInt8) (w : World) : Calls Try.prog 9 #[rv k c, .int .u8 (n.toNat : Int)] w (tBool w true) := by
  have hn : n.toNat ≤ 255 := by have := UInt8.toNat_lt n; omega
  have hk : n.toNat % 201 ≤ 200 := by omega
  refine perm_raw k c (shc (bel k) (n.toNat % 201 - 1) c) (shf (bel k) (n.toNat % 201 - 1) id c).1 (belX k) (belC k) (shc (bel k)) n.toNat (n.toNat % 201) w hn hk (remN _ 201)
    (perm_shuf (fun c n h => bel_lt k c h) c _) (fun c => rfl) (fun m c => shc_next (bel k) m c) rfl (fun w => ?_) (fun c' I h1 h2 w => ?_) awake_any
  · have h := shufCode k c (n.toNat % 201) w (by omega)
    rw [shf_count] at h
    exact h
  · have h := belowCode k c' I w
    rw [belR_yes (by omega) (by omega)] at h
    exact h
end Go.Proofs.Ytahjgepjhihhjaa.RngW
