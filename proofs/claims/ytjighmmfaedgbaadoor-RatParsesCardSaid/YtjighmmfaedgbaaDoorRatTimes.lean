/-
  What the reference's 'times' returns.
-/
import Derived.Test.YtjighmmfaedgbaaDoorRatSub
import Derived.Test.YtjighmmfaedgbaaDoorRatProd
import Derived.StillTailTactics
namespace Go.Proofs.YtjighmmfaedgbaaDoor.RatW
open Go Go.RowKit Go.Proofs.YtjighmmfaedgbaaDoor.RatM

/-- A row of these digits, in block G. -/
def rowD (w : World) (G : Nat) (T : Nat) (ds : List Nat) : Prop := w.rowIs G 3 T (fun j => .int .i64 (ix ds j))
theorem rowD.cell {w : World} {G T : Nat} {ds : List Nat} (h : rowD w G T ds) {i : Nat} (hi : i < T) : w.cell? ⟨G, i, none⟩ = some (.int .i64 (ix ds i)) := World.rowIs.cell h hi
theorem rowD.drew {w : World} {G T : Nat} {ds : List Nat} (h : rowD w G T ds) : rowD w.drew G T ds := h
theorem rowD.set {w : World} {G T : Nat} {ds : List Nat} (h : rowD w G T ds) (hl : ds.length = T) {i : Nat} (hi : i < T) (x : Nat) : rowD (w.setCell ⟨G, i, none⟩ (.int .i64 x)) G T (ds.set i x) :=
  (World.rowIs.set h i (.int .i64 x)).congr fun j hj => by
    rw [ix_set (by omega)]
    by_cases e : j = i <;> simp [e]
set_option maxRecDepth 100000 in
set_option maxHeartbeats 4000000 in
theorem times_any (u v : Value) (a b : Nat) (B : Nat) (w : World) (h : Bg w B u a) (h' : Bg w B v b) (g1 : (digs a).length ≤ 20) (g2 : (digs b).length ≤ 20) (hB : B ≤ w.heap.size) :
    Calls Tryd.prog 43 #[u, v] w (tBig w (a * b)) := by
  obtain ⟨A, c1, rfl, hc1, hx⟩ := h
  obtain ⟨A', c2, rfl, hc2, hx'⟩ := h'
  obtain ⟨n, hn⟩ : ∃ n, (digs a).length = n := ⟨_, rfl⟩
  obtain ⟨m, hm⟩ : ∃ m, (digs b).length = m := ⟨_, rfl⟩
  rw [hn] at hc1 g1 hx ⊢
  rw [hm] at hc2 g2 hx' ⊢
  have HX := Lib.hid hx
  have HX' := Lib.hid hx'
  have HN := Lib.hid hn
  have HM := Lib.hid hm
  have HB0 := Lib.hid hB
  clear hx hx' hn hm hB
  have hmk := run_make_row' (P := Tryd.prog) 50 3 (.int .i64 0) 8 Tryd.underlying50 infoInt rfl .i64 .i64 (n + m + 1) (by omega) (by omega)
  have e1 : (((n + m + 1 : Nat) : Int)) = (n : Int) + (m : Int) + 1 := by omega
  rw [e1] at hmk
  clear e1
  go_enter Tryd.func43, Tryd.ntmps43
  go_wp2
  clear hmk
  have RS : Hid (rowD (w.alloc (.cells (madeCells #[.int .i64 0] (n + m + 1)) 3)) w.heap.size (n + m + 1) (List.replicate (n + m + 1) 0)) :=
    Lib.hid ((World.rowIs_made w (.int .i64 0) (n + m + 1) 3).congr fun j _ => by rw [ix_zeros]; rfl)
  go_loopw [6, 7] (fun i _ wr => ∃ (k : Nat) (ds : List Nat), k ≤ n ∧ i = .int .i64 k ∧ outerRel a b (n + m + 1) k ds ∧ rowD wr w.heap.size (n + m + 1) ds ∧ Below w.heap.size w wr) (fun i _ _ => n - (intOf i).toNat)
  case atStart => exact ⟨0, _, Nat.zero_le _, rfl, outer_start a b (n + m + 1), RS.out, (Below.refl _ _).alloc (Nat.le_refl _) _⟩
  case round =>
    obtain ⟨i, ds, hi, rfl, hrel, hrow, hbel⟩ := hrel
    have HR := Lib.hid hrel
    have HW := Lib.hid hrow
    have HB := Lib.hid hbel
    clear hrel hrow hbel
    by_cases hlt : i < n
    · go_wp2
      obtain ⟨wo, rfl⟩ : ∃ wo : World, wo = wr := ⟨_, rfl⟩
      go_loopw [7] (fun kk wr => ∃ (k : Nat) (ds : List Nat), k ≤ m ∧ kk = .int .i64 k ∧ timesRel a b (n + m + 1) i k ds ∧ rowD wr w.heap.size (n + m + 1) ds ∧ Below w.heap.size w wr) (fun kk _ => m - (intOf kk).toNat)
      case atStart => exact ⟨0, ds, Nat.zero_le _, rfl, outer_inner HR.out, HW.out, HB.out⟩
      case round =>
        obtain ⟨k, ds, hk, rfl, hrel, hrow, hbel⟩ := hrel
        clear HR HW HB
        have HR := Lib.hid hrel
        have HW := Lib.hid hrow
        have HB := Lib.hid hbel
        clear hrel hrow hbel
        by_cases hlk : k < m
        · obtain ⟨g, hA, hg, hcell⟩ := HX.out (by omega)
          obtain ⟨g', hA', hg', hcell'⟩ := HX'.out (by omega)
          subst hA hA'
          have ca : wr.cell? ⟨g, i, none⟩ = some (.int .i64 (ix (digs a) i)) := by
            rw [HB.out.cell (by have := HB0.out; simp; omega)]
            exact hcell i hlt
          have cb : wr.cell? ⟨g', k, none⟩ = some (.int .i64 (ix (digs b) k)) := by
            rw [HB.out.cell (by have := HB0.out; simp; omega)]
            exact hcell' k hlk
          clear hcell hcell'
          have co := HW.out.cell (i := i + k) (by omega)
          have fo : wr.frozen? ⟨w.heap.size, i + k, none⟩ = false := World.rowIs.frozen HW.out _
          obtain ⟨q, hq⟩ : ∃ q, ix (digs a) i * ix (digs b) k = q := ⟨_, rfl⟩
          obtain ⟨x, hx⟩ : ∃ x, ix ds (i + k) + q = x := ⟨_, rfl⟩
          have TS := times_step HR.out (by omega : i + k + 1 < n + m + 1) (x := x) (by rw [hq, hx])
          have hx1 : x ≤ 100000000 := TS.1
          have HTS := Lib.hid TS.2
          clear TS
          have hq' : ((ix (digs a) i : Int)) * (ix (digs b) k : Int) = (q : Int) := by rw [← Int.natCast_mul, hq]
          have i0 : (0 : Int) ≤ (i : Int) := by omega
          have i1 : (i : Int) < (n : Int) := by omega
          have k0 : (0 : Int) ≤ (k : Int) := by omega
          have k1 : (k : Int) < (m : Int) := by omega
          have s0 : IntKind.i64.wrap ((i : Int) + (k : Int)) = (i : Int) + (k : Int) := IntWalk.i64_in _ (by omega)
          have s1 : (0 : Int) ≤ (i : Int) + (k : Int) := by omega
          have s2 : ((i : Int) + (k : Int)).toNat = i + k := by omega
          have s3 : (i : Int) + (k : Int) < (n : Int) + (m : Int) + 1 := by omega
          have s3' : i + k < n + m + 1 := by omega
          have s4 : IntKind.i64.wrap ((ix (digs a) i : Int) * (ix (digs b) k : Int)) = (q : Int) := by rw [hq']; exact IntWalk.i64_in _ (by omega)
          have s5 : IntKind.i64.wrap ((ix ds (i + k) : Int) + (q : Int)) = (x : Int) := by rw [← hx]; exact IntWalk.i64_in _ (by omega)
          have HQ := Lib.hid hq
          have HXX := Lib.hid hx
          clear hq hx hq'
          go_wp2
          go_still_tail 21, (by kernel_rfl)
          go_wp2
          have hl := HR.out.1
          have R1 : rowD (wr.setCell ⟨w.heap.size, i + k, none⟩ (.int .i64 x)).drew w.heap.size (n + m + 1) (ds.set (i + k) x) := (HW.out.set hl (by omega) x).drew
          have B1 : Below w.heap.size w (wr.setCell ⟨w.heap.size, i + k, none⟩ (.int .i64 x)).drew := (HB.out.setCell (Nat.le_refl _) _).drew
          have hl1 : (ds.set (i + k) x).length = n + m + 1 := by simp [hl]
          have v1 : ix (ds.set (i + k) x) (i + k) = x := by rw [ix_set (by omega), if_pos rfl]
          have v2 : ix (ds.set (i + k) x) (i + k + 1) = ix ds (i + k + 1) := by rw [ix_set (by omega), if_neg (by omega)]
          have HR1 := Lib.hid R1
          have HB1 := Lib.hid B1
          have HL1 := Lib.hid hl1
          have HV1 := Lib.hid v1
          have HV2 := Lib.hid v2
          have hy0 : ix ds (i + k + 1) < 10000 := HR.out.2.1 _ (by omega)
          obtain ⟨y, hy⟩ : ∃ y, ix ds (i + k + 1) + x / 10000 = y := ⟨_, rfl⟩
          rw [hy] at HTS
          have hy1 : y ≤ 100000 := by omega
          have HY := Lib.hid hy
          clear R1 B1 hl hl1 v1 v2 ca cb co fo s4 s5 hy
          generalize (wr.setCell ⟨w.heap.size, i + k, none⟩ (.int .i64 x)).drew = w2 at *
          have co := HR1.out.cell (i := i + k) (by omega)
          have cn := HR1.out.cell (i := i + k + 1) (by omega)
          rw [HV1.out] at co
          rw [HV2.out] at cn
          have fo : w2.frozen? ⟨w.heap.size, i + k + 1, none⟩ = false := World.rowIs.frozen HR1.out _
          have t0 : IntKind.i64.wrap ((i : Int) + (k : Int) + 1) = (i : Int) + (k : Int) + 1 := IntWalk.i64_in _ (by omega)
          have t1 : (0 : Int) ≤ (i : Int) + (k : Int) + 1 := by omega
          have t2 : ((i : Int) + (k : Int) + 1).toNat = i + k + 1 := by omega
          have t3 : (i : Int) + (k : Int) + 1 < (n : Int) + (m : Int) + 1 := by omega
          have t3' : i + k + 1 < n + m + 1 := by omega
          have t5 : (ix ds (i + k + 1) : Int) + (x : Int) / 10000 = (y : Int) := by have := HY.out; omega
          have fo2 : w2.frozen? ⟨w.heap.size, i + k, none⟩ = false := World.rowIs.frozen HR1.out _
          have HR2 := Lib.hid ((HR1.out.set HL1.out (i := i + k + 1) (by omega) y).set (by rw [List.length_set]; exact HL1.out) (i := i + k) (by omega) (x % 10000))
          have HB2 := Lib.hid ((HB1.out.setCell (p := ⟨w.heap.size, i + k + 1, none⟩) (Nat.le_refl _) (.int .i64 y)).setCell (p := ⟨w.heap.size, i + k, none⟩) (Nat.le_refl _) (.int .i64 (x % 10000 : Nat)))
          go_still_tail 21, (by kernel_rfl)
          go_wp2
          go_roundw
          case rel => exact ⟨k + 1, _, by omega, by go_num, HTS.out, HR2.out, HB2.out.drew⟩
          case measure => simp [intOf]; omega
        · obtain rfl : m = k := by omega
          have HO := Lib.hid (inner_outer (by rw [HM.out]; exact HR.out))
          go_wp2
          go_roundw
          case rel => exact ⟨i + 1, ds, by omega, by go_num, HO.out, HW.out, HB.out⟩
          case measure => simp [intOf]; omega
    · obtain rfl : n = i := by omega
      have HE := Lib.hid (outer_end (by rw [HN.out]; exact HR.out))
      have hdl : ds.length = n + m + 1 := HR.out.1
      have RT : Hid (Rd wr wr.heap.size (.slice (some ⟨w.heap.size, 0, none⟩) (n + m + 1) (n + m + 1)) ds) := Lib.hid (Rd.of_row HW.out hdl (Nat.le_refl _) (fun j _ => rfl) (World.rowIs.lt HW.out))
      have hd1 : ds.length ≤ 100 := by omega
      clear hdl
      have PL := Lib.hid (plus_any (.slice (some ⟨w.heap.size, 0, none⟩) (n + m + 1) (n + m + 1)) (.slice none 0 0) ds [] wr.heap.size wr RT.out (Rd.nil _ _) HE.out.1 (by intro d hd; cases hd) hd1 (by simp) (Nat.le_refl _))
      have hlen : (digs (a * b)).length ≤ 1000 := Nat.le_trans (digs_mul a b) (by rw [HN.out, HM.out]; omega)
      have e0 : vd ds + vd [] = a * b := by rw [HE.out.2]; rfl
      rw [e0] at PL
      clear e0
      go_wp2_with (first
        | (go_at_call 62; refine PL.out.mono ?_; rintro e w1 ⟨v1, rfl, hv1, hb1⟩; have HV1 := Lib.hid hv1; have HB1 := Lib.hid hb1; clear hv1 hb1)
        | (go_at_call 65; refine (trim_any _ _ _ _ HV1.out hlen).mono ?_; rintro e w' ⟨v', rfl, hv, rfl⟩; have HV := Lib.hid hv; clear hv))
      go_ret
      exact ⟨_, rfl, by rw [Bg, ← digs_trim]; exact HV.out, HB.out.trans (HB1.out.mono HB.out.size)⟩
end Go.Proofs.YtjighmmfaedgbaaDoor.RatW
