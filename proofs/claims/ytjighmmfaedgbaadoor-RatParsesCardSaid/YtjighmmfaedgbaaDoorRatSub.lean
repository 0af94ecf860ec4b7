/-
  What the reference's 'minus' returns.
-/
import Derived.Test.YtjighmmfaedgbaaDoorRatSum
namespace Go.Proofs.YtjighmmfaedgbaaDoor.RatW
open Go Go.RowKit Go.Proofs.YtjighmmfaedgbaaDoor.RatM

theorem quiet_left {P : Program} {f : FuncId} {args : Array Value} {w : World} {n : Nat} {v : Value}
    (h : Calls P f args (w.drewN n) fun e w' => e = .returned v ∧ w.drewN n = w') : Calls P f args (w.drewN n) fun e w'' => e = .returned v ∧ ∃ m, w'' = w.drewN m :=
  h.mono fun _ _ ⟨he, hm⟩ => ⟨he, n, hm.symm⟩
theorem ownsRow_drewN {w : World} {base : Nat} {e : TypeId} {size n : Nat} {v : Value} {xs : List Value} (h : w.ownsRow base e size v n xs) {m : Nat} : (w.drewN m).ownsRow base e size v n xs := h
theorem Rd.drewN {w : World} {B : Nat} {v : Value} {ds : List Nat} (h : Rd w B v ds) (n : Nat) : Rd (w.drewN n) B v ds := h
def minusRel (a b k c : Nat) (l : List Nat) : Prop := c ≤ 1 ∧ l.length = k ∧ low l ∧ vd l + b % 10000 ^ k = a % 10000 ^ k + 10000 ^ k * c
theorem minusRel_start (a b : Nat) : minusRel a b 0 0 [] := ⟨by omega, rfl, by intro d hd; (cases hd), by simp [vd, Nat.mod_one]⟩
theorem minusRel_no {a b k c n : Nat} {l : List Nat} (h : minusRel a b k c l) (hn : ix (digs a) k = ix (digs b) k + c + n) : minusRel a b (k + 1) 0 (l ++ [n]) := by
  obtain ⟨a1, a2, a3, a4⟩ := h
  have b1 := ix_low (low_digs a) k
  have := minus_step_no a2 a4 (by omega)
  rw [show ix (digs a) k - ix (digs b) k - c = n by omega] at this
  exact ⟨by omega, by simp [a2], low_snoc a3 (by omega), this⟩
theorem minusRel_yes {a b k c n : Nat} {l : List Nat} (h : minusRel a b k c l) (hn : ix (digs a) k + 10000 = ix (digs b) k + c + n) (hlt : ix (digs a) k < ix (digs b) k + c) : minusRel a b (k + 1) 1 (l ++ [n]) := by
  obtain ⟨a1, a2, a3, a4⟩ := h
  have := minus_step_yes a2 a4 hlt (by omega)
  rw [show ix (digs a) k + 10000 - ix (digs b) k - c = n by omega] at this
  exact ⟨by omega, by simp [a2], low_snoc a3 (by omega), this⟩
set_option maxRecDepth 100000 in
set_option maxHeartbeats 2000000 in
theorem minus_any (u v : Value) (a b : Nat) (B : Nat) (w : World) (h : Bg w B u a) (h' : Bg w B v b) (hba : b ≤ a) (g1 : (digs a).length ≤ 100) (hB : B ≤ w.heap.size) :
    Calls Tryd.prog 64 #[u, v] w (tBig w (a - b)) := by
  obtain ⟨i0, hi, hz0, hz1, hz2⟩ := info_parts infoInt
  have R1 := Lib.hid h
  have R2 := Lib.hid h'
  have g2 : (digs b).length ≤ 100 := Nat.le_trans (digs_mono hba) g1
  obtain ⟨A, c1, rfl, hc1, hx⟩ := h
  obtain ⟨A', c2, rfl, hc2, hx'⟩ := h'
  clear hx'
  obtain ⟨n, hn⟩ : ∃ n, (digs a).length = n := ⟨_, rfl⟩
  rw [hn] at hc1 g1 hx
  have HX := Lib.hid hx
  have HN := Lib.hid hn
  have HB0 := Lib.hid hB
  have HBA := Lib.hid hba
  have HG2 := Lib.hid g2
  rw [hn] at R1 ⊢
  clear hx hB hn hba g2
  go_enter Tryd.func64, Tryd.ntmps64
  go_wp2
  go_loopw [5, 6, 7, 8] (fun v c i _ wr => ∃ (k cc : Nat) (l : List Nat), k ≤ n ∧ i = .int .i64 k ∧ c = .int .i64 cc ∧ minusRel a b k cc l ∧ wr.ownsRow w.heap.size 3 1 v k (l.map dv) ∧ Below w.heap.size w wr) (fun _ _ i _ _ => n - (intOf i).toNat)
  case atStart => exact ⟨0, 0, [], Nat.zero_le _, rfl, rfl, minusRel_start _ _, World.ownsRow_nil _ _ _ _, Below.refl _ _⟩
  case round =>
    obtain ⟨k, cc, l, hk, rfl, rfl, hrel, hown, hbel⟩ := hrel
    have k2 : cc ≤ 1 := hrel.1
    have HR := Lib.hid hrel
    have HO := Lib.hid hown
    have HB := Lib.hid hbel
    clear hrel hown hbel
    by_cases hlt : k < n
    · have R2' := Lib.hid (Rd.below R2.out HB.out HB0.out)
      obtain ⟨p1, p2⟩ := low_pos (low_digs a) k
      obtain ⟨p3, p4⟩ := low_pos (low_digs b) k
      obtain ⟨g, hA, hg, hcell⟩ := HX.out (by omega)
      subst hA
      have hcl : wr.cell? ⟨g, k, none⟩ = some (.int .i64 (ix (digs a) k)) := by
        rw [HB.out.cell (by have := HB0.out; simp; omega)]
        exact hcell k hlt
      clear hcell
      have j0 : (0 : Int) ≤ (k : Int) := by omega
      have j1 : (k : Int) < (n : Int) := by omega
      have hk2 : k ≤ 1000 := by omega
      have AT := Lib.hid (fun W' => at_any _ (digs b) B k (wr.drewN W') (R2'.out.drewN W') (by have := HG2.out; omega) hk2)
      have w1 : IntKind.i64.wrap ((ix (digs a) k : Int) - (ix (digs b) k : Int)) = (ix (digs a) k : Int) - (ix (digs b) k : Int) := IntWalk.i64_in _ (by omega)
      have w2 : IntKind.i64.wrap ((ix (digs a) k : Int) - (ix (digs b) k : Int) - (cc : Int)) = (ix (digs a) k : Int) - (ix (digs b) k : Int) - (cc : Int) := IntWalk.i64_in _ (by omega)
      by_cases hbor : ix (digs b) k + cc ≤ ix (digs a) k
      · obtain ⟨q, hq⟩ : ∃ q, ix (digs a) k = ix (digs b) k + cc + q := ⟨ix (digs a) k - ix (digs b) k - cc, by omega⟩
        have NX := Lib.hid (minusRel_no HR.out hq)
        have hq' : (ix (digs a) k : Int) - (ix (digs b) k : Int) - (cc : Int) = (q : Int) := by omega
        rw [hq'] at w2
        clear hq hbor
        go_wp2
        go_quiet ((go_at_call 81; exact quiet_left (AT.out _)))
        clear w1 w2
        go_wp2_with (at_builtin; refine wpList_append_own _ rfl _ _ 50 rfl w.heap.size 3 i0 (.int .i64 0) 1 8 Tryd.underlying50 hi hz0 hz1 hz2 rfl (by decide) _ k _ rfl ((ownsRow_drewN HO.out).alloc _) ⟨wr.heap.size, 0, none⟩ 1 1 [dv q] rfl rfl news_one one_cell (by unfold maxLen; omega) (by omega) (by have := HB.out.size; rw [alloc_size]; show w.heap.size ≤ wr.heap.size + 1; omega) ?_; intro v' w3 hown' hgrow _; have HO' := Lib.hid hown'; have HG := Lib.hid hgrow; clear hown' hgrow)
        go_roundw
        case rel => exact ⟨k + 1, 0, l ++ [q], by omega, by go_num, rfl, NX.out, by rw [List.map_append]; exact HO'.out, (((below_drewN HB.out _).alloc HB.out.size _).grown HG.out (by rw [alloc_size]; have := HB.out.size; show w.heap.size ≤ wr.heap.size + 1; omega) (own_block_ge HO.out))⟩
        case measure => simp [intOf]; omega
      · obtain ⟨q, hq⟩ : ∃ q, ix (digs a) k + 10000 = ix (digs b) k + cc + q := ⟨ix (digs a) k + 10000 - ix (digs b) k - cc, by omega⟩
        have NX := Lib.hid (minusRel_yes HR.out hq (by omega))
        have hq' : (ix (digs a) k : Int) - (ix (digs b) k : Int) - (cc : Int) = (q : Int) - 10000 := by omega
        have q1 : (q : Int) - 10000 < 0 := by omega
        have q2 : (q : Int) - 10000 + 10000 = (q : Int) := by omega
        rw [hq'] at w2
        clear hq hbor
        go_wp2
        go_quiet ((go_at_call 81; exact quiet_left (AT.out _)))
        clear w1 w2
        go_wp2_with (at_builtin; refine wpList_append_own _ rfl _ _ 50 rfl w.heap.size 3 i0 (.int .i64 0) 1 8 Tryd.underlying50 hi hz0 hz1 hz2 rfl (by decide) _ k _ rfl ((ownsRow_drewN HO.out).alloc _) ⟨wr.heap.size, 0, none⟩ 1 1 [dv q] rfl rfl news_one one_cell (by unfold maxLen; omega) (by omega) (by have := HB.out.size; rw [alloc_size]; show w.heap.size ≤ wr.heap.size + 1; omega) ?_; intro v' w3 hown' hgrow _; have HO' := Lib.hid hown'; have HG := Lib.hid hgrow; clear hown' hgrow)
        go_roundw
        case rel => exact ⟨k + 1, 1, l ++ [q], by omega, by go_num, rfl, NX.out, by rw [List.map_append]; exact HO'.out, (((below_drewN HB.out _).alloc HB.out.size _).grown HG.out (by rw [alloc_size]; have := HB.out.size; show w.heap.size ≤ wr.heap.size + 1; omega) (own_block_ge HO.out))⟩
        case measure => simp [intOf]; omega
    · obtain rfl : n = k := by omega
      have HE := Lib.hid (minus_end HR.out.2.1 HR.out.2.2.1 HBA.out HN.out HR.out.2.2.2)
      have RT := Lib.hid (Rd.of_own HO.out wr.heap.size (Nat.le_refl _))
      have hlen : l.length ≤ 1000 := by have := HR.out.2.1; omega
      go_wp2_with (go_at_call 65; refine (trim_any _ l _ _ RT.out hlen).mono ?_; rintro e w' ⟨v', rfl, hv, rfl⟩; have HV := Lib.hid hv; clear hv)
      go_ret
      exact ⟨_, rfl, by rw [Bg, ← HE.out, ← trim_digs HR.out.2.2.1]; exact HV.out, HB.out⟩
end Go.Proofs.YtjighmmfaedgbaaDoor.RatW
