/-
  What the reference's 'common' and 'int63' return.
-/
import Derived.Test.YtjighmmfaedgbaaDoorRatDivide
import Derived.Test.YtjighmmfaedgbaaDoorRatQuo
import Derived.Deep.LoopGhost
namespace Go.Proofs.YtjighmmfaedgbaaDoor.RatW
open Go Go.RowKit Go.Proofs.YtjighmmfaedgbaaDoor.RatM

theorem digs_zero_len : (digs 0).length = 0 := by rw [digs_zero]; rfl
theorem digs_pos_len {n : Nat} (h : 0 < n) : 0 < (digs n).length := by rw [digs_pos h]; simp
set_option maxRecDepth 100000 in
set_option maxHeartbeats 4000000 in
theorem common_any (u v : Value) (a b : Nat) (B : Nat) (w : World) (h : Bg w B u a) (h' : Bg w B v b) (g1 : (digs a).length ≤ 19) (g2 : (digs b).length ≤ 19) (hB : B ≤ w.heap.size) :
    Calls Tryd.prog 56 #[u, v] w (tBig w (a.gcd b)) := by
  have HU := Lib.hid (h.more hB)
  have HV := Lib.hid (h'.more hB)
  clear h h' hB
  go_enter Tryd.func56, Tryd.ntmps56
  go_wp2
  go_loopg [0, 1, 5, 6] b (fun q av bv _ _ wr => ∃ p : Nat, Bg wr wr.heap.size av p ∧ Bg wr wr.heap.size bv q ∧ (digs p).length ≤ 19 ∧ (digs q).length ≤ 19 ∧ p.gcd q = a.gcd b ∧ Below w.heap.size w wr)
  case atStart => exact ⟨a, HU.out, HV.out, g1, g2, rfl, Below.refl _ _⟩
  case round =>
    obtain ⟨p, hp, hq, l1, l2, hg, hb⟩ := hrel
    have HP := Lib.hid hp
    have HB := Lib.hid hb
    have HG := Lib.hid hg
    have HQ := Lib.hid hq
    clear hp hb hg
    obtain ⟨A, c, rfl, hc, _⟩ := hq
    by_cases h0 : gk = 0
    · subst h0
      have e0 := digs_zero_len
      rw [e0]
      rw [e0] at HQ
      clear e0
      go_wp2
      go_ret
      exact ⟨_, rfl, by rw [← HG.out, Nat.gcd_zero_right]; exact HP.out, HB.out⟩
    · have hpos : 0 < (digs gk).length := digs_pos_len (by omega)
      have hk : 0 < gk := by omega
      go_wp2_with (go_at_call 57; refine (divide_any _ _ p gk wr.heap.size _ HP.out HQ.out (by omega) l2 hk (Nat.le_refl _)).mono ?_; rintro e w1 ⟨u1, v1, rfl, hu1, hv1, hb1⟩; have HU1 := Lib.hid hu1; have HV1 := Lib.hid hv1; have HB1 := Lib.hid hb1; clear hu1 hv1 hb1)
      go_roundg (p % gk)
      case measure => exact Nat.mod_lt _ hk
      case rel => exact ⟨gk, (HQ.out.below HB1.out (Nat.le_refl _)).more HB1.out.size, HV1.out, l2, Nat.le_trans (digs_mono (Nat.le_of_lt (Nat.mod_lt _ hk))) l2, by rw [← HG.out, Nat.gcd_comm p gk, Nat.gcd_rec gk p, Nat.gcd_comm], HB.out.trans (HB1.out.mono HB.out.size)⟩

/-! ### int63 -/
theorem ordZ_no {a b : Nat} (h : a ≤ b) : ordZ a b ≤ 0 := by unfold ordZ; split <;> (try split) <;> omega
theorem ordZ_yes {a b : Nat} (h : ¬ a ≤ b) : 0 < ordZ a b := by unfold ordZ; split <;> (try split) <;> omega
def lim (neg : Bool) : Nat := if neg then 9223372036854775808 else 9223372036854775807
theorem vd_one (d : Nat) : vd [d] = d := by simp [vd]
theorem low_one {d : Nat} (h : d < 10000) : low [d] := by intro x hx; simp at hx; omega
theorem Rd.lit (w : World) (d : Nat) : Rd (w.alloc (.cells #[dv d] 3)) (w.heap.size + 1) (.slice (some ⟨w.heap.size, 0, none⟩) 1 1) [d] :=
  Rd.of_own (base := w.heap.size) (n := 1) (ds := [d]) (World.ownsRow_lit w #[dv d] 1 (Nat.le_refl _) (by unfold maxLen; omega) rfl) _ (by rw [alloc_size]; exact Nat.le_refl _)
theorem n63 : (digs 9223372036854775807).length ≤ 5 := digs_i64 (by decide)
theorem n64 : (digs 9223372036854775808).length ≤ 5 := digs_i64 (by decide)
theorem size63 (w : World) : Calls Tryd.prog 38 #[.int .i64 9223372036854775807] w (tBig w 9223372036854775807) := sizePos_any 9223372036854775807 w (by decide) (Nat.le_trans n63 (by decide))
theorem plus63 (v : Value) (w : World) (h : Bg w w.heap.size v 9223372036854775807) :
    Calls Tryd.prog 62 #[v, .slice (some ⟨w.heap.size, 0, none⟩) 1 1] (w.alloc (.cells #[.int .i64 1] 3)) (tBig (w.alloc (.cells #[.int .i64 1] 3)) 9223372036854775808) := by
  have := plus_any v (.slice (some ⟨w.heap.size, 0, none⟩) 1 1) (digs 9223372036854775807) [1] (w.heap.size + 1) (w.alloc (.cells #[dv 1] 3)) ((h.below ((Below.refl _ _).alloc (Nat.le_refl _) _) (Nat.le_refl _)).more (by omega)) (Rd.lit w 1) (low_digs _) (low_one (by omega)) (Nat.le_trans n63 (by decide)) (by decide) (by rw [alloc_size]; exact Nat.le_refl _)
  rw [vd_digs, vd_one] at this
  exact this
def no63 (w : World) (e : Ending) (w' : World) : Prop := e = .returned (.tuple #[.int .i64 0, .bool false]) ∧ Below w.heap.size w w'
def yes63 (a : Nat) (neg : Bool) (w : World) (e : Ending) (w' : World) : Prop := e = .returned (.tuple #[.int .i64 (sg neg a), .bool true]) ∧ Below w.heap.size w w'
theorem ret2i {a b : Int} (h : a = b) {v : Value} : Ending.returned (.tuple #[.int .i64 a, v]) = Ending.returned (.tuple #[.int .i64 b, v]) := by rw [h]
set_option maxRecDepth 100000 in
set_option maxHeartbeats 4000000 in
theorem int63NoP (v : Value) (a : Nat) (B : Nat) (w : World) (h : Bg w B v a) (g1 : (digs a).length ≤ 100) (hB : B ≤ w.heap.size) (hf : ¬ a ≤ 9223372036854775807) :
    Calls Tryd.prog 58 #[v, .bool false] w (no63 w) := by
  have HV := Lib.hid h
  have HB0 := Lib.hid hB
  have t1 := ordZ_yes hf
  clear h hB hf
  go_enter Tryd.func58, Tryd.ntmps58
  go_wp2_with (first
    | (go_at_call 38; refine (size63 _).mono ?_; rintro e w1 ⟨v1, rfl, hv1, hb1⟩; have HV1 := Lib.hid hv1; have HB1 := Lib.hid hb1; clear hv1 hb1)
    | (go_at_call 63; refine (order_any _ _ a 9223372036854775807 _ _ _ (HV.out.below HB1.out HB0.out) HV1.out (by omega) (Nat.le_trans n63 (by decide))).mono ?_; rintro e w3 ⟨rfl, m3, rfl⟩))
  go_ret2
  exact ⟨rfl, below_drewN HB1.out _⟩
set_option maxRecDepth 100000 in
set_option maxHeartbeats 4000000 in
theorem int63NoN (v : Value) (a : Nat) (B : Nat) (w : World) (h : Bg w B v a) (g1 : (digs a).length ≤ 100) (hB : B ≤ w.heap.size) (hf : ¬ a ≤ 9223372036854775808) :
    Calls Tryd.prog 58 #[v, .bool true] w (no63 w) := by
  have HV := Lib.hid h
  have HB0 := Lib.hid hB
  have t1 := ordZ_yes hf
  clear h hB hf
  go_enter Tryd.func58, Tryd.ntmps58
  go_wp2_with (first
    | (go_at_call 38; refine (size63 _).mono ?_; rintro e w1 ⟨v1, rfl, hv1, hb1⟩; have HV1 := Lib.hid hv1; have HB1 := Lib.hid hb1; clear hv1 hb1)
    | (go_at_call 62; refine (plus63 v1 w1 HV1.out).mono ?_; rintro e w2 ⟨v2, rfl, hv2, hb2⟩; have HV2 := Lib.hid hv2; have HB2 := Lib.hid ((HB1.out.alloc HB1.out.size (.cells #[.int .i64 1] 3)).trans (hb2.mono (by rw [alloc_size]; have := HB1.out.size; omega))); clear hv2 hb2)
    | (go_at_call 63; refine (order_any _ _ a 9223372036854775808 _ _ _ (HV.out.below HB2.out HB0.out) HV2.out (by omega) (Nat.le_trans n64 (by decide))).mono ?_; rintro e w3 ⟨rfl, m3, rfl⟩))
  go_ret2
  exact ⟨rfl, below_drewN HB2.out _⟩
set_option maxRecDepth 100000 in
set_option maxHeartbeats 4000000 in
theorem int63YesP (v : Value) (a : Nat) (B : Nat) (w : World) (h : Bg w B v a) (g1 : (digs a).length ≤ 100) (hB : B ≤ w.heap.size) (hf : a ≤ 9223372036854775807) :
    Calls Tryd.prog 58 #[v, .bool false] w (yes63 a false w) := by
  have HV := Lib.hid h
  have HB0 := Lib.hid hB
  have t1 := ordZ_no hf
  obtain ⟨A, c1, rfl, hc1, hx⟩ := h
  obtain ⟨n, hn⟩ : ∃ n, (digs a).length = n := ⟨_, rfl⟩
  rw [hn] at hc1 g1 hx HV ⊢
  have HX := Lib.hid hx
  have HN := Lib.hid hn
  have HF := Lib.hid hf
  have HT : Hid (a / 10000 ^ n = 0) := Lib.hid (by rw [← hn]; exact Nat.div_eq_of_lt (digs_lt a))
  clear hB hf hx hn
  go_enter Tryd.func58, Tryd.ntmps58
  go_wp2_with (first
    | (go_at_call 38; refine (size63 _).mono ?_; rintro e w1 ⟨v1, rfl, hv1, hb1⟩; have HV1 := Lib.hid hv1; have HB1 := Lib.hid hb1; clear hv1 hb1)
    | (go_at_call 63; refine (order_any _ _ a 9223372036854775807 _ _ _ (HV.out.below HB1.out HB0.out) HV1.out (by rw [HN.out]; omega) (Nat.le_trans n63 (by decide))).mono ?_; rintro e w3 ⟨rfl, m3, rfl⟩))
  have HB9 : Hid (Below w.heap.size w (w1.drewN m3)) := Lib.hid (below_drewN HB1.out _)
  clear t1
  generalize w1.drewN m3 = w9 at *
  go_loop [7, 8] (fun x i => ∃ k q : Nat, k ≤ n ∧ i = .int .i64 ((k : Int) - 1) ∧ a / 10000 ^ k = q ∧ x = .int .i64 ((q : Int))) (fun _ i => (intOf i + 1).toNat)
  case atStart => exact ⟨n, 0, Nat.le_refl _, rfl, HT.out, rfl⟩
  case round =>
    obtain ⟨k, q, hk, rfl, hq, rfl⟩ := hrel
    have HQ := Lib.hid hq
    clear hq
    rcases k with _ | j
    · have e : q = a := by have := HQ.out; rw [Nat.pow_zero, Nat.div_one] at this; exact this.symm
      subst e
      go_wp2
      go_ret2
      exact ⟨rfl, HB9.out⟩
    · rw [show (((j + 1 : Nat) : Int) - 1) = (j : Int) by omega]
      obtain ⟨g, hA, hg, hcell⟩ := HX.out (by omega)
      subst hA
      have ca : w9.cell? ⟨g, j, none⟩ = some (.int .i64 (ix (digs a) j)) := by
        rw [HB9.out.cell (by have := HB0.out; simp; omega)]
        exact hcell j (by omega)
      clear hcell
      obtain ⟨r, hr⟩ : ∃ r, a / 10000 ^ j = r := ⟨_, rfl⟩
      have hd := div_succ a j
      rw [hr, HQ.out] at hd
      have hle : r ≤ 9223372036854775807 := by rw [← hr]; exact Nat.le_trans (Nat.div_le_self _ _) HF.out
      obtain ⟨d, hdd⟩ : ∃ d, ix (digs a) j = d := ⟨_, rfl⟩
      rw [hdd] at hd ca
      have b1 : 10000 * (q : Int) + (d : Int) ≤ 9223372036854775807 := by omega
      have HR := Lib.hid hr
      have HE : Hid (10000 * (q : Int) + (d : Int) = (r : Int)) := Lib.hid (by omega)
      clear hr hd hdd hle
      go_wp2
      go_round
      case rel => exact ⟨j, r, by omega, rfl, HR.out, val1 HE.out⟩
      case measure => simp [intOf]
set_option maxRecDepth 100000 in
set_option maxHeartbeats 4000000 in
theorem int63YesN (v : Value) (a : Nat) (B : Nat) (w : World) (h : Bg w B v a) (g1 : (digs a).length ≤ 100) (hB : B ≤ w.heap.size) (hf : a ≤ 9223372036854775808) :
    Calls Tryd.prog 58 #[v, .bool true] w (yes63 a true w) := by
  have HV := Lib.hid h
  have HB0 := Lib.hid hB
  have t1 := ordZ_no hf
  obtain ⟨A, c1, rfl, hc1, hx⟩ := h
  obtain ⟨n, hn⟩ : ∃ n, (digs a).length = n := ⟨_, rfl⟩
  rw [hn] at hc1 g1 hx HV ⊢
  have HX := Lib.hid hx
  have HN := Lib.hid hn
  have HF := Lib.hid hf
  have HT : Hid (a / 10000 ^ n = 0) := Lib.hid (by rw [← hn]; exact Nat.div_eq_of_lt (digs_lt a))
  clear hB hf hx hn
  go_enter Tryd.func58, Tryd.ntmps58
  go_wp2_with (first
    | (go_at_call 38; refine (size63 _).mono ?_; rintro e w1 ⟨v1, rfl, hv1, hb1⟩; have HV1 := Lib.hid hv1; have HB1 := Lib.hid hb1; clear hv1 hb1)
    | (go_at_call 62; refine (plus63 v1 w1 HV1.out).mono ?_; rintro e w2 ⟨v2, rfl, hv2, hb2⟩; have HV2 := Lib.hid hv2; have HB2 := Lib.hid ((HB1.out.alloc HB1.out.size (.cells #[.int .i64 1] 3)).trans (hb2.mono (by rw [alloc_size]; have := HB1.out.size; omega))); clear hv2 hb2)
    | (go_at_call 63; refine (order_any _ _ a 9223372036854775808 _ _ _ (HV.out.below HB2.out HB0.out) HV2.out (by rw [HN.out]; omega) (Nat.le_trans n64 (by decide))).mono ?_; rintro e w3 ⟨rfl, m3, rfl⟩))
  have HB9 : Hid (Below w.heap.size w (w2.drewN m3)) := Lib.hid (below_drewN HB2.out _)
  clear t1
  generalize w2.drewN m3 = w9 at *
  go_loop [7, 8] (fun x i => ∃ k q : Nat, k ≤ n ∧ i = .int .i64 ((k : Int) - 1) ∧ a / 10000 ^ k = q ∧ x = .int .i64 (-(q : Int))) (fun _ i => (intOf i + 1).toNat)
  case atStart => exact ⟨n, 0, Nat.le_refl _, rfl, HT.out, rfl⟩
  case round =>
    obtain ⟨k, q, hk, rfl, hq, rfl⟩ := hrel
    have HQ := Lib.hid hq
    clear hq
    rcases k with _ | j
    · have e : q = a := by have := HQ.out; rw [Nat.pow_zero, Nat.div_one] at this; exact this.symm
      subst e
      go_wp2
      go_ret2
      exact ⟨rfl, HB9.out⟩
    · rw [show (((j + 1 : Nat) : Int) - 1) = (j : Int) by omega]
      obtain ⟨g, hA, hg, hcell⟩ := HX.out (by omega)
      subst hA
      have ca : w9.cell? ⟨g, j, none⟩ = some (.int .i64 (ix (digs a) j)) := by
        rw [HB9.out.cell (by have := HB0.out; simp; omega)]
        exact hcell j (by omega)
      clear hcell
      obtain ⟨r, hr⟩ : ∃ r, a / 10000 ^ j = r := ⟨_, rfl⟩
      have hd := div_succ a j
      rw [hr, HQ.out] at hd
      have hle : r ≤ 9223372036854775808 := by rw [← hr]; exact Nat.le_trans (Nat.div_le_self _ _) HF.out
      obtain ⟨d, hdd⟩ : ∃ d, ix (digs a) j = d := ⟨_, rfl⟩
      rw [hdd] at hd ca
      have b1 : 10000 * (q : Int) + (d : Int) ≤ 9223372036854775808 := by omega
      have HR := Lib.hid hr
      have HE : Hid (10000 * -(q : Int) - (d : Int) = -(r : Int)) := Lib.hid (by omega)
      clear hr hd hdd hle
      go_wp2
      go_round
      case rel => exact ⟨j, r, by omega, rfl, HR.out, val1 HE.out⟩
      case measure => simp [intOf]
end Go.Proofs.YtjighmmfaedgbaaDoor.RatW
