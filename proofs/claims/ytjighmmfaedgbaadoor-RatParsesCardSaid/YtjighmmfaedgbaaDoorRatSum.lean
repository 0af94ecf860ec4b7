/-
  What the reference's 'plus' and 'minus' return.
-/
import Derived.Test.YtjighmmfaedgbaaDoorRatSize
namespace Go.Proofs.YtjighmmfaedgbaaDoor.RatW
open Go Go.RowKit Go.Proofs.YtjighmmfaedgbaaDoor.RatM

theorem low_pos {l : List Nat} (h : low l) (k : Nat) : 0 ≤ (ix l k : Int) ∧ (ix l k : Int) ≤ 9999 := by have := ix_low h k; omega
/-- The relation of the loop of 'plus'. -/
def plusRel (l1 l2 : List Nat) (M k c : Nat) (l : List Nat) : Prop :=
  k ≤ M + 1 ∧ c ≤ 1 ∧ (k = M + 1 → c = 0) ∧ l.length = k ∧ low l ∧ vd l + 10000 ^ k * c = vd l1 % 10000 ^ k + vd l2 % 10000 ^ k
theorem plusRel_start (l1 l2 : List Nat) (M : Nat) : plusRel l1 l2 M 0 0 [] := ⟨by omega, by omega, by omega, rfl, by intro d hd; (cases hd), by simp [vd, Nat.mod_one]⟩
theorem plusRel_next {l1 l2 l : List Nat} {M k c n : Nat} (h1 : low l1) (h2 : low l2) (g1 : l1.length ≤ M) (g2 : l2.length ≤ M) (hn : ix l1 k + ix l2 k + c = n) (h : plusRel l1 l2 M k c l) (hk : k ≤ M) :
    plusRel l1 l2 M (k + 1) (n / 10000) (l ++ [n % 10000]) := by
  obtain ⟨a1, a2, a3, a4, a5, a6⟩ := h
  have b1 := ix_low h1 k
  have b2 := ix_low h2 k
  subst hn
  refine ⟨by omega, by omega, fun e => ?_, by simp [a4], low_snoc a5 (by omega), plus_step h1 h2 a4 a6⟩
  rw [ix_out (show l1.length ≤ k by omega), ix_out (show l2.length ≤ k by omega)]
  omega
set_option maxRecDepth 100000 in
set_option maxHeartbeats 2000000 in
theorem plus_any (u v : Value) (l1 l2 : List Nat) (B : Nat) (w : World) (h : Rd w B u l1) (h' : Rd w B v l2) (q1 : low l1) (q2 : low l2) (g1 : l1.length ≤ 100) (g2 : l2.length ≤ 100) (hB : B ≤ w.heap.size) :
    Calls Tryd.prog 62 #[u, v] w (tBig w (vd l1 + vd l2)) := by
  obtain ⟨i0, hi, hz0, hz1, hz2⟩ := info_parts infoInt
  have R1 := Lib.hid h
  have R2 := Lib.hid h'
  obtain ⟨A, c1, rfl, hc1, hx⟩ := h
  obtain ⟨A', c2, rfl, hc2, hx'⟩ := h'
  clear hx hx'
  have HB0 := Lib.hid hB
  have Q1 := Lib.hid q1
  have Q2 := Lib.hid q2
  clear q1 q2 hB
  go_enter Tryd.func62, Tryd.ntmps62
  go_wp2
  go_loopw [5, 6, 7, 8] (fun v c i _ wr => ∃ (k cc : Nat) (l : List Nat), i = .int .i64 k ∧ c = .int .i64 cc ∧ plusRel l1 l2 100 k cc l ∧ wr.ownsRow w.heap.size 3 1 v k (l.map dv) ∧ Below w.heap.size w wr) (fun _ _ i _ _ => 101 - (intOf i).toNat)
  case atStart => exact ⟨0, 0, [], rfl, rfl, plusRel_start _ _ _, World.ownsRow_nil _ _ _ _, Below.refl _ _⟩
  case round =>
    obtain ⟨k, cc, l, rfl, rfl, hrel, hown, hbel⟩ := hrel
    have k1 : k ≤ 101 := hrel.1
    have k2 : cc ≤ 1 := hrel.2.1
    have k3 := hrel.2.2.1
    have HR := Lib.hid hrel
    have HO := Lib.hid hown
    have HB := Lib.hid hbel
    clear hrel hown hbel
    have R1' := Lib.hid (R1.out.below HB.out HB0.out)
    have R2' := Lib.hid (R2.out.below HB.out HB0.out)
    obtain ⟨p1, p2⟩ := low_pos Q1.out k
    obtain ⟨p3, p4⟩ := low_pos Q2.out k
    by_cases hgo : k < l1.length ∨ k < l2.length ∨ 0 < cc
    · have hk : k ≤ 100 := by omega
      obtain ⟨n, hn⟩ : ∃ n, ix l1 k + ix l2 k + cc = n := ⟨_, rfl⟩
      have n1 : n ≤ 100000 := by omega
      have NX := Lib.hid (plusRel_next Q1.out Q2.out g1 g2 hn HR.out hk)
      have hn' : ((ix l1 k : Int) + (ix l2 k : Int) + (cc : Int)) = (n : Int) := by omega
      clear hn k3
      have hcase : k < l1.length ∨ (decide (k < l1.length) = false ∧ k < l2.length) ∨ (decide (k < l1.length) = false ∧ decide (k < l2.length) = false ∧ 0 < cc) := by
        by_cases a : k < l1.length
        · exact .inl a
        · by_cases b : k < l2.length
          · exact .inr (.inl ⟨by simp; omega, b⟩)
          · exact .inr (.inr ⟨by simp; omega, by simp; omega, by omega⟩)
      clear hgo
      rcases hcase with h1 | ⟨h1, h2⟩ | ⟨h1, h2, h3⟩
      all_goals
        go_wp2_with (first
          | (go_at_call 81; ((with_reducible refine (at_any _ l1 _ k _ R1'.out (by omega) (by omega)).mono ?_); rintro e w' ⟨rfl, rfl⟩))
          | (go_at_call 81; ((with_reducible refine (at_any _ l2 _ k _ R2'.out (by omega) (by omega)).mono ?_); rintro e w' ⟨rfl, rfl⟩))
          | (at_builtin; refine wpList_append_own _ rfl _ _ 50 rfl w.heap.size 3 i0 (.int .i64 0) 1 8 Tryd.underlying50 hi hz0 hz1 hz2 rfl (by decide) _ k _ rfl (HO.out.alloc _) ⟨wr.heap.size, 0, none⟩ 1 1 [dv (n % 10000)] rfl rfl news_one one_cell (by unfold maxLen; omega) (by omega) (by have := HB.out.size; rw [alloc_size]; omega) ?_; intro v' w3 hown' hgrow _; have HO' := Lib.hid hown'; have HG := Lib.hid hgrow; clear hown' hgrow))
        go_roundw
        case rel => exact ⟨k + 1, n / 10000, l ++ [n % 10000], by go_num, by go_num, NX.out, by rw [List.map_append]; exact HO'.out, ((HB.out.alloc HB.out.size _).grown HG.out (by rw [alloc_size]; have := HB.out.size; omega) (own_block_ge HO.out))⟩
        case measure => simp [intOf]; omega
    · have h1 : decide (k < l1.length) = false := by simp; omega
      have h2 : decide (k < l2.length) = false := by simp; omega
      have h3 : cc = 0 := by omega
      subst h3
      have HE := Lib.hid (plus_end Q1.out Q2.out (k := k) (by omega) (by omega) HR.out.2.2.2.2.2)
      have RT := Lib.hid (Rd.of_own HO.out wr.heap.size (Nat.le_refl _))
      have hlen : l.length ≤ 1000 := by have := HR.out.2.2.2.1; omega
      clear k3 hgo
      go_wp2_with (go_at_call 65; refine (trim_any _ l _ _ RT.out hlen).mono ?_; rintro e w' ⟨v', rfl, hv, rfl⟩; have HV := Lib.hid hv; clear hv)
      go_ret
      exact ⟨_, rfl, by rw [Bg, ← HE.out, ← trim_digs HR.out.2.2.2.2.1]; exact HV.out, HB.out⟩
end Go.Proofs.YtjighmmfaedgbaaDoor.RatW
