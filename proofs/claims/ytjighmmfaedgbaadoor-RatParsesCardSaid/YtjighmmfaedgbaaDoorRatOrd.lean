/-
  What the reference's 'order', 'size', 'plus' and 'minus' return.
-/
import Derived.Test.YtjighmmfaedgbaaDoorRatBig
import Derived.Test.YtjighmmfaedgbaaDoorRatDivM
namespace Go.Proofs.YtjighmmfaedgbaaDoor.RatW
open Go Go.RowKit Go.Proofs.YtjighmmfaedgbaaDoor.RatM

/-- A number of any size, as the reference holds it. -/
def Bg (w : World) (B : Nat) (v : Value) (n : Nat) : Prop := Rd w B v (digs n)
theorem Bg.below {w w' : World} {B C : Nat} {v : Value} {n : Nat} (h : Bg w B v n) (hb : Below C w w') (hB : B ≤ C) : Bg w' B v n := Rd.below h hb hB
theorem Bg.more {w : World} {B B' : Nat} {v : Value} {n : Nat} (h : Bg w B v n) (hB : B ≤ B') : Bg w B' v n := Rd.more h hB
theorem bcell {W w1 : World} (hb : Below W.heap.size W w1) : (∀ b o, b < W.heap.size → w1.cell? ⟨b, o, none⟩ = W.cell? ⟨b, o, none⟩) ∧ (∀ b o, b < W.heap.size → w1.frozen? ⟨b, o, none⟩ = W.frozen? ⟨b, o, none⟩) :=
  ⟨fun b o h => hb.cell (p := ⟨b, o, none⟩) h, fun b o h => hb.frozen (p := ⟨b, o, none⟩) h⟩
theorem below_drewN {B : Nat} {a w : World} (h : Below B a w) (n : Nat) : Below B a (w.drewN n) := ⟨h.os, h.tape, h.output, h.size, h.block⟩
theorem alloc_size (w : World) (o : Obj) : (w.alloc o).heap.size = w.heap.size + 1 := by simp
theorem alloc_cell (w : World) (o : Array Value) (t : TypeId) (i : Nat) (v : Value) (h : o[i]? = some v) : (w.alloc (.cells o t)).cell? ⟨w.heap.size, i, none⟩ = some v := by
  have hb : (w.alloc (.cells o t)).heap[w.heap.size]? = some (.cells o t) := Go.Deep.blk_alloc_new _ _
  exact (cell_of_row _ _ i o t (0, 0) hb).trans h
theorem dr2 (w : World) (m n : Nat) : ∃ k, (w.drewN m).drewN n = w.drewN k := ⟨_, World.drewN_drewN _ _ _⟩
theorem dr3 (w : World) (m n p : Nat) : ∃ k, ((w.drewN m).drewN n).drewN p = w.drewN k := ⟨m + (n + p), by rw [World.drewN_drewN, World.drewN_drewN]⟩
theorem infoInt : (Tryd.prog.info? 3).map (fun i => (i.zero, i.size, i.bytes)) = some (some (.int .i64 0), 1, 8) := by kernel_rfl

/-! ### order -/
def ordZ (a b : Nat) : Int := if a < b then -1 else if a = b then 0 else 1
theorem ord_lt {a b : Nat} (h : a < b) : (-1 : Int) = ordZ a b := by unfold ordZ; rw [if_pos h]
theorem ord_eq {a b : Nat} (h : a = b) : (0 : Int) = ordZ a b := by unfold ordZ; rw [if_neg (by omega), if_pos h]
theorem ord_gt {a b : Nat} (h : b < a) : (1 : Int) = ordZ a b := by unfold ordZ; rw [if_neg (by omega), if_neg (by omega)]
theorem top_lt {a b k : Nat} (h : a / 10000 ^ (k + 1) = b / 10000 ^ (k + 1)) (hd : ix (digs a) k < ix (digs b) k) : a < b := by
  have h1 := div_succ a k
  have h2 := div_succ b k
  have : a / 10000 ^ k < b / 10000 ^ k := by omega
  rcases Nat.lt_or_ge a b with g | g
  · exact g
  · have := Nat.div_le_div_right (c := 10000 ^ k) g
    omega
def tOrd (a b : Nat) (w : World) (e : Ending) (w' : World) : Prop := e = .returned (.int .i64 (ordZ a b)) ∧ ∃ m, w' = w.drewN m
set_option maxHeartbeats 1000000 in
theorem order_any (u v : Value) (a b B C : Nat) (w : World) (h : Bg w B u a) (h' : Bg w C v b) (hl : (digs a).length ≤ 1000) (_hl' : (digs b).length ≤ 1000) :
    Calls Tryd.prog 63 #[u, v] w (tOrd a b w) := by
  obtain ⟨A, c, rfl, hc, hx⟩ := h
  obtain ⟨A', c', rfl, hc', hx'⟩ := h'
  have HX := Lib.hid hx
  have HX' := Lib.hid hx'
  clear hx hx'
  rcases Nat.lt_trichotomy (digs a).length (digs b).length with g | g | g
  · have F := Lib.hid (ord_lt (digs_len_lt g))
    go_enter Tryd.func63, Tryd.ntmps63
    go_wp2
    go_ret
    exact ⟨ret1 F.out, 0, rfl⟩
  · obtain ⟨n, hn⟩ : ∃ n, (digs a).length = n := ⟨_, rfl⟩
    rw [← g, hn]
    rw [hn] at hc g hl
    have HN := Lib.hid hn
    have HN' := Lib.hid g
    clear hn g hc'
    have HT : Hid (a / 10000 ^ n = b / 10000 ^ n) := Lib.hid (by
      have h1 := digs_lt a
      have h2 := digs_lt b
      rw [HN.out] at h1
      rw [← HN'.out] at h2
      rw [Nat.div_eq_of_lt h1, Nat.div_eq_of_lt h2])
    go_enter Tryd.func63, Tryd.ntmps63
    go_wp2
    go_loopw [5] (fun i wr => ∃ k : Nat, k ≤ n ∧ i = .int .i64 ((k : Int) - 1) ∧ a / 10000 ^ k = b / 10000 ^ k ∧ ∃ m, wr = w.drewN m) (fun i _ => (intOf i + 1).toNat)
    case atStart => exact ⟨n, Nat.le_refl _, rfl, HT.out, 0, rfl⟩
    case round =>
      obtain ⟨k, hk, rfl, hq, m, rfl⟩ := hrel
      have HQ := Lib.hid hq
      clear hq
      rcases k with _ | j
      · have F := Lib.hid (ord_eq (a := a) (b := b) (by have := HQ.out; simpa using this))
        go_wp2
        go_ret
        exact ⟨ret1 F.out, m, rfl⟩
      · obtain ⟨g, hA, hg, hcell⟩ := HX.out (by rw [HN.out]; omega)
        obtain ⟨g', hA', hg', hcell'⟩ := HX'.out (by rw [← HN'.out]; omega)
        subst hA hA'
        have c1 := hcell j (by rw [HN.out]; omega)
        have c2 := hcell' j (by rw [← HN'.out]; omega)
        clear hcell hcell'
        rw [show (((j + 1 : Nat) : Int) - 1) = (j : Int) by omega]
        have j0 : (0 : Int) ≤ (j : Int) := by omega
        have j1 : (j : Int) < (n : Int) := by omega
        rcases Nat.lt_trichotomy (ix (digs a) j) (ix (digs b) j) with d | d | d
        · have F := Lib.hid (ord_lt (top_lt HQ.out d))
          go_wp2
          go_quiet (fail)
          go_wp2
          go_ret
          exact ⟨ret1 F.out, dr2 _ _ _⟩

        · have HQ1 := Lib.hid (show a / 10000 ^ j = b / 10000 ^ j by rw [div_succ a j, div_succ b j, HQ.out, d])
          have d1 : decide (ix (digs a) j < ix (digs b) j) = false := by simp; omega
          have d2 : decide (ix (digs b) j < ix (digs a) j) = false := by simp; omega
          clear d
          go_wp2
          go_quiet (fail)
          go_wp2
          go_quiet (fail)
          go_wp2
          go_roundw
          case rel => exact ⟨j, by omega, rfl, HQ1.out, _, rfl⟩
          case measure => simp [intOf]
        · have F := Lib.hid (ord_gt (top_lt HQ.out.symm d))
          have d1 : decide (ix (digs a) j < ix (digs b) j) = false := by simp; omega
          go_wp2
          go_quiet (fail)
          go_wp2
          go_quiet (fail)
          go_wp2
          go_ret
          exact ⟨ret1 F.out, dr3 _ _ _ _⟩

  · have F := Lib.hid (ord_gt (digs_len_lt g))
    go_enter Tryd.func63, Tryd.ntmps63
    go_wp2
    go_ret
    exact ⟨ret1 F.out, 0, rfl⟩
end Go.Proofs.YtjighmmfaedgbaaDoor.RatW
