/-
  What the reference's 'divide' returns.
-/
import Derived.Test.YtjighmmfaedgbaaDoorRatTimes
import Derived.Laws.AppendOwnNone
namespace Go.Proofs.YtjighmmfaedgbaaDoor.RatW
open Go Go.RowKit Go.Proofs.YtjighmmfaedgbaaDoor.RatM

/-- A nil slice of whatever capacity, appended: nothing happens. -/
theorem append_void {w : World} {ops : Array Oper} {rest : List Oper} {o : Oper} {a : Act} {Q : Exit → Act → World → Prop} (hgd : o.guard = none) (s x : Operand)
    (ho : o.op = .call { callee := .builtin .append, args := #[s, x], argTypes := #[50, 50] })
    (base : Nat) (i : TypeInfo) (hi : Tryd.prog.info? 3 = some i) (v : Value) (n c : Nat) (xs : List Value) (hs : a.eval s = v) (hown : w.ownsRow base 3 1 v n xs) (hx : a.eval x = .slice none 0 c)
    (h : wpList Tryd.prog ops Q rest (a.put o.dst v) w) : wpList Tryd.prog ops Q (o :: rest) a w := by
  have hrun : ∀ ty, (Builtin.append_ #[50, 50] ty #[v, .slice none 0 c]).run Tryd.prog w = .ok v w := by
    intro ty
    have hu : (underlying 50).run Tryd.prog w = .ok (.slice 3) w := run_underlying Tryd.underlying50 w
    rcases hown.2 with ⟨rfl, rfl⟩ | ⟨g, cap, cur, rfl, _, _, hnc, _⟩
    · simp [Builtin.append_, hu, sizeOf, typeInfo, hi, Builtin.lenOf, Builtin.firstCells]
    · simp [Builtin.append_, hu, sizeOf, typeInfo, hi, Builtin.lenOf, Builtin.firstCells, hnc, storeCells]
  refine wpList_plain hgd fun K hK => ?_
  unfold Oper.wp
  simp [execOp, ho, resolve, invoke, builtin, hs, hx, hrun, Result.andThen]
  exact hK _ _ h
/-- 'append(out, l...)' of two lists of digits. -/
theorem append_digits {w : World} {ops : Array Oper} {rest : List Oper} {o : Oper} {a : Act} {Q : Exit → Act → World → Prop} (hgd : o.guard = none) (s x : Operand)
    (ho : o.op = .call { callee := .builtin .append, args := #[s, x], argTypes := #[50, 50] })
    (base : Nat) (i : TypeInfo) (hi : Tryd.prog.info? 3 = some i) (hz : i.zero = some (.int .i64 0)) (hsize : i.size = 1) (hby : i.bytes = 8)
    (u v : Value) (n B : Nat) (l m : List Nat) (hs : a.eval s = u) (_hn : l.length = n) (hown : w.ownsRow base 3 1 u n (l.map dv)) (hx : a.eval x = v) (hr : Rd w B v m) (hnm : n + m.length ≤ 1000) (hbase : base ≤ w.heap.size)
    (h : ∀ v' w', w'.ownsRow base 3 1 v' (n + m.length) ((l ++ m).map dv) → w.grownBy w' u.ownBlock → wpList Tryd.prog ops Q rest (a.put o.dst v') w') : wpList Tryd.prog ops Q (o :: rest) a w := by
  obtain ⟨A, c, rfl, hc, hcell⟩ := hr
  cases A with
  | none =>
    have hm : m.length = 0 := by
      rcases Nat.eq_zero_or_pos m.length with e | e
      · exact e
      · obtain ⟨g, hA, _⟩ := hcell e
        cases hA
    have : m = [] := List.eq_nil_of_length_eq_zero hm
    subst this
    exact append_void hgd s x ho base i hi u n c _ hs hown hx (by rw [List.append_nil] at h; exact h u w hown (World.grownBy.refl w _))
  | some ad =>
    refine wpList_append_own _ hgd s x 50 ho base 3 i (.int .i64 0) 1 8 Tryd.underlying50 hi hz hsize hby rfl (by decide) u n _ hs hown ad m.length c (m.map dv) hx (by simp) ?_ ?_ (by unfold maxLen; omega) (by omega) hbase ?_
    · intro j y hj
      rw [List.getElem?_map] at hj
      by_cases hl : j < m.length
      · obtain ⟨g, hA, _, hcl⟩ := hcell (by omega)
        have hA' := Option.some.inj hA
        subst hA'
        rw [ix_get hl] at hj
        simp at hj
        subst hj
        have := hcl j hl
        have e : (⟨g, 0, none⟩ : Addr).add j = ⟨g, j, none⟩ := by unfold Addr.add; by_cases h0 : j = 0 <;> simp [h0]
        rw [e]
        exact this
      · rw [List.getElem?_eq_none (by omega)] at hj; cases hj
    · intro y hy
      obtain ⟨d, _, rfl⟩ := List.mem_map.1 hy
      rfl
    · intro v' w' h1 h2 _
      rw [← List.map_append] at h1
      exact h v' w' h1 h2
theorem size_any (x : Int) (w : World) (h0 : -9223372036854775808 ≤ x) (h1 : x ≤ 9223372036854775807) : Calls Tryd.prog 38 #[.int .i64 x] w (tBig w x.natAbs) := by
  have hx : x.natAbs ≤ 9223372036854775808 := by omega
  have hl : (digs x.natAbs).length ≤ 100 := Nat.le_trans (digs_i64 hx) (by omega)
  rcases Int.natAbs_eq x with h | h
  · have := sizePos_any x.natAbs w (by omega) hl
    rw [← h] at this
    exact this
  · have := sizeNeg_any x.natAbs w (by omega) hl
    rw [← h] at this
    exact this
theorem digs_small {n : Nat} (h : n ≤ 9999) : (digs n).length ≤ 20 := Nat.le_trans (digs_len_le (k := 1) (by omega)) (by omega)
theorem lit_block {B g n c : Nat} (h : B ≤ g) : ∀ k, (Value.slice (some ⟨g, 0, none⟩) n c).ownBlock = some k → B ≤ k := by
  intro k hk
  have : g = k := by simpa [Value.ownBlock] using hk
  omega
def tDiv (w : World) (q r : Nat) (e : Ending) (w' : World) : Prop := ∃ u v, e = .returned (.tuple #[u, v]) ∧ Bg w' w'.heap.size u q ∧ Bg w' w'.heap.size v r ∧ Below w.heap.size w w'
theorem Bg.nil (w : World) (B : Nat) : Bg w B (.slice none 0 0) 0 := by unfold Bg; rw [digs_zero]; exact Rd.nil w B
set_option maxRecDepth 100000 in
set_option maxHeartbeats 4000000 in
theorem divide_any (u v : Value) (a b : Nat) (B : Nat) (w : World) (h : Bg w B u a) (h' : Bg w B v b) (g1 : (digs a).length ≤ 100) (g2 : (digs b).length ≤ 19) (hb0 : 0 < b) (hB : B ≤ w.heap.size) :
    Calls Tryd.prog 57 #[u, v] w (tDiv w (a / b) (a % b)) := by
  obtain ⟨i0, hi, hz0, hz1, hz2⟩ := info_parts infoInt
  have RB := Lib.hid h'
  clear h'
  obtain ⟨A, c1, rfl, hc1, hx⟩ := h
  obtain ⟨n, hn⟩ : ∃ n, (digs a).length = n := ⟨_, rfl⟩
  rw [hn] at hc1 g1 hx ⊢
  have HX := Lib.hid hx
  have HN := Lib.hid hn
  have HB0 := Lib.hid hB
  have HP := Lib.hid hb0
  clear hx hn hB hb0
  have hmk := run_make_row' (P := Tryd.prog) 50 3 (.int .i64 0) 8 Tryd.underlying50 infoInt rfl .i64 .i64 n (by omega) (by omega)
  go_enter Tryd.func57, Tryd.ntmps57
  go_wp2
  clear hmk
  have RS : Hid (rowD (w.alloc (.cells (madeCells #[.int .i64 0] n) 3)) w.heap.size n (quoL (a / b) n n)) :=
    Lib.hid ((World.rowIs_made w (.int .i64 0) n 3).congr fun j hj => by rw [quoL_start _ _ hj]; rfl)
  go_loopw [7, 8, 9, 10, 11, 12] (fun r i _ _ _ _ wr => ∃ (k : Nat), k ≤ n ∧ i = .int .i64 ((k : Int) - 1) ∧ Bg wr wr.heap.size r (left a b k) ∧ rowD wr w.heap.size n (quoL (a / b) n k) ∧ Below w.heap.size w wr) (fun _ i _ _ _ _ _ => (intOf i + 1).toNat)
  case atStart => exact ⟨n, Nat.le_refl _, rfl, by rw [← HN.out, left_top]; exact Bg.nil _ _, RS.out, (Below.refl _ _).alloc (Nat.le_refl _) _⟩
  case round =>
    obtain ⟨k, hk, rfl, hrest, hrow, hbel⟩ := hrel
    have HR := Lib.hid hrest
    have HW := Lib.hid hrow
    have HB := Lib.hid hbel
    clear hrest hrow hbel RS
    rcases k with _ | j
    · have RT : Hid (Rd wr wr.heap.size (.slice (some ⟨w.heap.size, 0, none⟩) n n) (quoL (a / b) n 0)) := Lib.hid (Rd.of_row HW.out (quoL_len _ _ _) (Nat.le_refl _) (fun j _ => rfl) (World.rowIs.lt HW.out))
      have hl0 : (quoL (a / b) n 0).length ≤ 1000 := by rw [quoL_len]; omega
      have hq : Hid (trimL (quoL (a / b) n 0) = digs (a / b)) := Lib.hid (quoL_end (by rw [← HN.out]; exact digs_mono (Nat.div_le_self _ _)))
      go_wp2_with (go_at_call 65; refine (trim_any _ _ _ _ RT.out hl0).mono ?_; rintro e w' ⟨v', rfl, hv, rfl⟩; have HV := Lib.hid hv; clear hv)
      go_ret2
      exact ⟨_, _, rfl, by rw [Bg, ← hq.out]; exact HV.out, by rw [← left_zero]; exact HR.out, HB.out⟩
    · rw [show (((j + 1 : Nat) : Int) - 1) = (j : Int) by omega]
      obtain ⟨g, hA, hg, hcell⟩ := HX.out (by omega)
      subst hA
      have ca : wr.cell? ⟨g, j, none⟩ = some (.int .i64 (ix (digs a) j)) := by
        rw [HB.out.cell (by have := HB0.out; simp; omega)]
        exact hcell j (by omega)
      clear hcell
      obtain ⟨N, hN⟩ : ∃ N, ix (digs a) j + 10000 * left a b (j + 1) = N := ⟨_, rfl⟩
      have ST := Lib.hid (left_step HP.out hN)
      have NL := Lib.hid (next_list hN)
      have hl1 : (digs (left a b (j + 1))).length ≤ 19 := Nat.le_trans (digs_mono (Nat.le_of_lt (Nat.mod_lt _ HP.out))) g2
      have hl2 : (digs N).length ≤ 20 := Nat.le_trans ST.out.2.2.2 (by omega)
      have j0 : (0 : Int) ≤ (j : Int) := by omega
      have j1 : (j : Int) < (n : Int) := by omega
      clear hN
      go_wp2_with (first
        | (at_builtin; refine append_digits rfl _ _ rfl wr.heap.size i0 hi hz0 hz1 hz2 (.slice (some ⟨wr.heap.size, 0, none⟩) 1 1) _ 1 wr.heap.size [ix (digs a) j] (digs (left a b (j + 1))) rfl rfl (World.ownsRow_lit wr #[dv (ix (digs a) j)] 1 (Nat.le_refl _) (by unfold maxLen; omega) rfl) rfl (Rd.below HR.out ((Below.refl _ _).alloc (Nat.le_refl _) _) (Nat.le_refl _)) (by omega) (by rw [alloc_size]; omega) ?_; intro v2 w2 hown2 hgrow2; have HO2 := Lib.hid hown2; have HG2 := Lib.hid hgrow2; clear hown2 hgrow2)
        | (go_at_call 65; refine (trimS_any _ _ w2.heap.size _ (Rd.of_own HO2.out _ (Nat.le_refl _)) (by simp; omega)).mono ?_; rintro e w' ⟨v3, rfl, hv3, rfl, ho3⟩; have HV3 := Lib.hid hv3; have HO3 := Lib.hid ho3; clear hv3 ho3))
      have HNB : Hid (Bg w2 w2.heap.size v3 N) := Lib.hid (by rw [Bg, ← NL.out]; exact HV3.out)
      have HBW : Hid (Below w.heap.size w w2) := Lib.hid ((HB.out.alloc HB.out.size _).grown HG2.out (by rw [alloc_size]; have := HB.out.size; omega) (lit_block HB.out.size))
      have HW2 : Hid (rowD w2 w.heap.size n (quoL (a / b) n (j + 1))) := Lib.hid ((World.rowIs.alloc HW.out _).of_block (HG2.out.block _ (by have := World.rowIs.lt HW.out; rw [alloc_size]; omega) (by have := World.rowIs.lt HW.out; simp [Value.ownBlock]; omega)))
      have hrow2 : w.heap.size < w2.heap.size := World.rowIs.lt HW2.out
      have hrow1 := World.rowIs.lt HW.out
      have HF : Hid (v3.ownBlock ≠ some w.heap.size) := Lib.hid (fun e => by have := own_block_ge HO2.out _ (HO3.out.symm.trans e); omega)
      obtain ⟨q, hq⟩ : ∃ q, N / b = q := ⟨_, rfl⟩
      have ST1 := ST.out
      rw [hq] at ST1
      have HST := Lib.hid ST1
      have hq9 : q ≤ 9999 := ST1.1
      have HQ := Lib.hid hq
      clear ST ST1 hq
      obtain ⟨wo, rfl⟩ : ∃ wo : World, wo = wr := ⟨_, rfl⟩
      go_loopw [10, 11, 12] (fun lo hi _ wi => ∃ l h : Nat, lo = .int .i64 l ∧ hi = .int .i64 h ∧ l ≤ q ∧ q ≤ h ∧ h ≤ 9999 ∧ Below w2.heap.size w2 wi) (fun lo hi _ _ => (intOf hi - intOf lo).toNat)
      case atStart => exact ⟨0, 9999, rfl, rfl, Nat.zero_le _, hq9, Nat.le_refl _, Below.refl _ _⟩
      case round =>
        obtain ⟨l, h, rfl, rfl, h1, h2, h3, hbi⟩ := hrel
        have HBI := Lib.hid hbi
        clear hbi
        by_cases hlt : l < h
        · obtain ⟨mid, hmid⟩ : ∃ mid, (l + h + 1) / 2 = mid := ⟨_, rfl⟩
          obtain ⟨m1, m2, m3, m4⟩ := half_le HP.out HQ.out hmid hlt
          have e1 : ((l : Int) + (h : Int) + 1) / 2 = (mid : Int) := by omega
          have HM1 := Lib.hid m1
          have HM2 := Lib.hid m2
          have hm9 : (digs mid).length ≤ 20 := digs_small (by omega)
          have hbm : (digs (b * mid)).length ≤ 1000 := Nat.le_trans (digs_mul _ _) (by omega)
          clear m1 m2 hmid
          by_cases hle : b * mid ≤ N
          · have t1 : ordZ (b * mid) N ≤ 0 := by unfold ordZ; split <;> (try split) <;> omega
            have hq1 := HM1.out hle
            clear hle
            go_wp2_with (first
              | (go_at_call 38; refine (sizePos_any mid _ (by omega) (by omega)).mono ?_; rintro e w4 ⟨v4, rfl, hv4, hb4⟩; have HV4 := Lib.hid hv4; have HB4 := Lib.hid hb4; clear hv4 hb4)
              | (go_at_call 43; refine (times_any _ _ b mid w4.heap.size _ (((RB.out.below HBW.out HB0.out).below HBI.out (by have := HB0.out; omega)).below HB4.out (by have := HB0.out; have := HBI.out.size; omega) |>.more (by have := HB0.out; have := HBI.out.size; have := HB4.out.size; omega)) HV4.out (by omega) hm9 (Nat.le_refl _)).mono ?_; rintro e w5 ⟨v5, rfl, hv5, hb5⟩; have HV5 := Lib.hid hv5; have HB5 := Lib.hid hb5; clear hv5 hb5)
              | (go_at_call 63; refine (order_any _ _ (b * mid) N _ _ _ HV5.out (((HNB.out.below HBI.out (Nat.le_refl _)).below HB4.out HBI.out.size).below HB5.out (Nat.le_trans HBI.out.size HB4.out.size)) hbm (by omega)).mono ?_; rintro e w6 ⟨rfl, m6, rfl⟩))
            go_roundw
            case rel => exact ⟨mid, h, rfl, rfl, hq1, h2, h3, below_drewN ((HBI.out.trans (HB4.out.mono HBI.out.size)).trans (HB5.out.mono (Nat.le_trans HBI.out.size HB4.out.size))) _⟩
            case measure => simp [intOf]; omega
          · have t1 : ¬ ordZ (b * mid) N ≤ 0 := by unfold ordZ; split <;> (try split) <;> omega
            have hq1 := HM2.out hle
            clear hle
            go_wp2_with (first
              | (go_at_call 38; refine (sizePos_any mid _ (by omega) (by omega)).mono ?_; rintro e w4 ⟨v4, rfl, hv4, hb4⟩; have HV4 := Lib.hid hv4; have HB4 := Lib.hid hb4; clear hv4 hb4)
              | (go_at_call 43; refine (times_any _ _ b mid w4.heap.size _ (((RB.out.below HBW.out HB0.out).below HBI.out (by have := HB0.out; omega)).below HB4.out (by have := HB0.out; have := HBI.out.size; omega) |>.more (by have := HB0.out; have := HBI.out.size; have := HB4.out.size; omega)) HV4.out (by omega) hm9 (Nat.le_refl _)).mono ?_; rintro e w5 ⟨v5, rfl, hv5, hb5⟩; have HV5 := Lib.hid hv5; have HB5 := Lib.hid hb5; clear hv5 hb5)
              | (go_at_call 63; refine (order_any _ _ (b * mid) N _ _ _ HV5.out (((HNB.out.below HBI.out (Nat.le_refl _)).below HB4.out HBI.out.size).below HB5.out (Nat.le_trans HBI.out.size HB4.out.size)) hbm (by omega)).mono ?_; rintro e w6 ⟨rfl, m6, rfl⟩))
            go_roundw
            case rel => exact ⟨l, mid - 1, rfl, by go_num, h1, hq1, by omega, below_drewN ((HBI.out.trans (HB4.out.mono HBI.out.size)).trans (HB5.out.mono (Nat.le_trans HBI.out.size HB4.out.size))) _⟩
            case measure => simp [intOf]; omega
        · obtain rfl : q = l := by omega
          have hqd : (digs q).length ≤ 20 := digs_small hq9
          have hbq : b * q ≤ N := by rw [← HQ.out]; exact Nat.mul_div_le N b
          have HBQ := Lib.hid hbq
          clear hbq
          have HW3 : Hid (rowD wr w.heap.size n (quoL (a / b) n (j + 1))) := Lib.hid (World.rowIs.of_block HW2.out (HBI.out.block _ hrow2))
          have fo : wr.frozen? ⟨w.heap.size, j, none⟩ = false := World.rowIs.frozen HW3.out _
          have co := HW3.out.cell (i := j) (by omega)
          have HW4 : Hid (rowD (wr.setCell ⟨w.heap.size, j, none⟩ (.int .i64 q)) w.heap.size n (quoL (a / b) n j)) := Lib.hid ((HW3.out.set (quoL_len _ _ _) (i := j) (by omega) q).congr fun i hi => by rw [quoL_next _ _ _ HST.out.2.2.1 hi])
          have HB5 : Hid (Below w.heap.size w (wr.setCell ⟨w.heap.size, j, none⟩ (.int .i64 q))) := Lib.hid ((HBW.out.trans (HBI.out.mono (Nat.le_of_lt hrow2))).setCell (Nat.le_refl _) _)
          have hbm : (digs N).length ≤ 100 := by omega
          have HSZ : w2.heap.size ≤ (wr.setCell ⟨w.heap.size, j, none⟩ (.int .i64 q)).heap.size := Nat.le_trans HBI.out.size (by simp [World.setCell])
          go_wp2_with (first
            | (go_at_call 38; refine (sizePos_any q _ (by omega) (by omega)).mono ?_; rintro e w6 ⟨v6, rfl, hv6, hb6⟩; have HV6 := Lib.hid hv6; have HB6 := Lib.hid hb6; clear hv6 hb6)
            | (go_at_call 43; refine (times_any _ _ b q w6.heap.size _ (((RB.out.below HB5.out HB0.out).below HB6.out (Nat.le_trans HB0.out HB5.out.size)).more (Nat.le_trans HB0.out (Nat.le_trans HB5.out.size HB6.out.size))) HV6.out (by omega) hqd (Nat.le_refl _)).mono ?_; rintro e w7 ⟨v7, rfl, hv7, hb7⟩; have HV7 := Lib.hid hv7; have HB7 := Lib.hid hb7; clear hv7 hb7)
            | (go_at_call 64; refine (minus_any _ _ N (b * q) w7.heap.size _ ((((HNB.out.below HBI.out (Nat.le_refl _)).setFar HF.out j (.int .i64 q)).below HB6.out HSZ).below HB7.out (Nat.le_trans HSZ HB6.out.size) |>.more (Nat.le_trans HSZ (Nat.le_trans HB6.out.size HB7.out.size))) HV7.out HBQ.out hbm (Nat.le_refl _)).mono ?_; rintro e w8 ⟨v8, rfl, hv8, hb8⟩; have HV8 := Lib.hid hv8; have HB8 := Lib.hid hb8; clear hv8 hb8))
          have HT := Lib.hid ((HB6.out.trans (HB7.out.mono HB6.out.size)).trans (HB8.out.mono (Nat.le_trans HB6.out.size HB7.out.size)))
          go_roundw
          case rel => exact ⟨j, by omega, rfl, by rw [HST.out.2.1]; exact HV8.out, World.rowIs.of_block HW4.out (HT.out.block _ (Nat.lt_of_lt_of_le hrow2 HSZ)), HB5.out.trans (HT.out.mono HB5.out.size)⟩
          case measure => simp [intOf]
end Go.Proofs.YtjighmmfaedgbaaDoor.RatW
