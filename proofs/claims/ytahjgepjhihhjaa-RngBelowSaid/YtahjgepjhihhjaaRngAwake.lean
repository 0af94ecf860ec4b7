/-
  What 'awake' of the statements about package rng returns.
-/
import Derived.Test.YtahjgepjhihhjaaRngShufR
namespace Go.Proofs.Ytahjgepjhihhjaa.RngW
open Go Go.RowKit Go.Proofs.Ytahjgepjhihhjaa.HashM Go.Proofs.Ytahjgepjhihhjaa.HashW Go.Proofs.Ytahjgepjhihhjaa.RngM

theorem aw_new : ∃ K, ∀ w, Calls Try.prog 12 #[.int .u64 7] w (tRv w K 0) := ⟨fin 7, fun w => newCode 7 w⟩
theorem aw_below (K : UInt64) (w : World) : Calls Try.prog 19 #[rv K 0, .int .i64 1] w (tBe w ⟨0, K, 1, 0⟩) := by
  have h := belowCode K 0 ((1 : Nat) : Int) w
  rw [belR_yes (by decide) (by decide), belX_one, belC_one] at h
  exact h
theorem pk_one {x : Int} (h0 : 0 ≤ x) (h : x < 3) : pk [0, 3, 0] x = 1 := by
  rw [pk_next (by omega), pk_here (by omega)]
theorem tot_three : totW mx [0, 3, 0] = ((3 : Nat) : Int) := by decide +kernel
abbrev three (w : World) : World := w.alloc (.cells #[.int .i64 0, .int .i64 3, .int .i64 0] 3)
theorem three_at (w : World) : IntsAt (three w) (.slice (some ⟨w.heap.size, 0, none⟩) 3 3) [0, 3, 0] := by
  refine ⟨_, 3, rfl, by decide, by decide, fun i hi => ?_, fun _ => ⟨w.heap.size, 0, rfl, by simp, fun i hi => ?_⟩⟩
  · match i, hi with
    | 0, _ => exact (by decide : (-9223372036854775808 : Int) ≤ 0 ∧ (0 : Int) ≤ 9223372036854775807)
    | 1, _ => exact (by decide : (-9223372036854775808 : Int) ≤ 3 ∧ (3 : Int) ≤ 9223372036854775807)
    | 2, _ => exact (by decide : (-9223372036854775808 : Int) ≤ 0 ∧ (0 : Int) ≤ 9223372036854775807)
    | n + 3, h => exact absurd h (by simp)
  · match i, hi with
    | 0, _ => exact (alloc_cells w #[.int .i64 0, .int .i64 3, .int .i64 0] 3 0 _ rfl).1
    | 1, _ => exact (alloc_cells w #[.int .i64 0, .int .i64 3, .int .i64 0] 3 1 _ rfl).1
    | 2, _ => exact (alloc_cells w #[.int .i64 0, .int .i64 3, .int .i64 0] 3 2 _ rfl).1
    | n + 3, h => exact absurd h (by simp)
theorem aw_weight (K : UInt64) : ∃ C, ∀ (w : World) (g : Nat), w.heap.size = g → Calls Try.prog 21 #[rv K 0, .slice (some ⟨g, 0, none⟩) 3 3] (three w) (tBe (three w) ⟨1, K, C, 0⟩) := by
  refine ⟨belC K 0 3, fun w g hg => ?_⟩
  subst hg
  have h := weightCode K 0 [0, 3, 0] _ _ (three_at w)
  have hx : belX K 0 3 < 3 := Nat.mod_lt _ (by decide)
  rw [wgtR_yes tot_three (by decide), pk_one (by omega) (by omega)] at h
  exact h
/-- An empty list, and one of one element. -/
def tOne (w : World) (n : Nat) (K : UInt64) (e : Ending) (w' : World) : Prop := ∃ g, e = .returned (.tuple #[.slice (some ⟨g, 0, none⟩) n n, rv K 0, .int .i64 0]) ∧ Below w.heap.size w w'
theorem aw_shuf0 (K : UInt64) (w : World) : Calls Try.prog 23 #[rv K 0, .int .i64 0] w (tOne w 0 K) := by
  have h := shufCode K 0 0 w (by decide)
  rw [shf_zero] at h
  exact h.mono fun e w' ⟨g, he, _, _, hb⟩ => ⟨g, he, hb⟩
theorem aw_shuf1 (K : UInt64) (w : World) : Calls Try.prog 23 #[rv K 0, .int .i64 1] w (tOne w 1 K) := by
  have h := shufCode K 0 1 w (by decide)
  rw [shf_zero] at h
  exact h.mono fun e w' ⟨g, he, _, _, hb⟩ => ⟨g, he, hb⟩
theorem two_new {w w5 : World} {x y : Value} {t : TypeId} (h : Below (w.alloc (.cells #[x, y] t)).heap.size (w.alloc (.cells #[x, y] t)) w5) : Two w5 w.heap.size x y := (Two.new w x y t).stay h
theorem below_new {w w5 : World} {o : Obj} (h : Below (w.alloc o).heap.size (w.alloc o) w5) : Below w.heap.size w w5 :=
  ((Below.refl _ w).alloc (Nat.le_refl _) o).then_ h
def tBool (w : World) (b : Bool) (e : Ending) (w' : World) : Prop := e = .returned (.bool b) ∧ Below w.heap.size w w'
set_option maxRecDepth 100000 in
set_option maxHeartbeats 16000000 in
theorem awake_any (w : World) :
    Calls Try.prog 18 #[] w (tBool w true) := by
  obtain ⟨K, hK⟩ := aw_new
  obtain ⟨C, hC⟩ := aw_weight K
  have HK := Lib.hid hK
  have HC := Lib.hid hC
  clear hK hC
  go_enter Try.func18, Try.ntmps18
  go_wp2_with (first
    | (go_at_call 12; ((with_reducible refine (HK.out _).mono ?_); rintro e w1 ⟨rfl, hb⟩; have B1 := Lib.hid hb; clear hb))
    | (go_at_call 19; ((with_reducible refine (aw_below K _).mono ?_); rintro e w2 ⟨rfl, hb⟩; have T1 := Lib.hid (two_new hb); obtain ⟨_, c0, c1, _, _⟩ := T1.out; have B2 := Lib.hid (Below.then_ B1.out (below_new hb)); clear hb))
    | (go_at_call 21; ((with_reducible refine (HC.out _ _ (by simp)).mono ?_); rintro e w3 ⟨rfl, hb⟩; have N3 := Lib.hid (two_new (below_new hb)); have T1 := Lib.hid (T1.out.stay (below_new (below_new hb))); obtain ⟨_, c0, c1, _, _⟩ := T1.out; have B3 := Lib.hid (Below.then_ B2.out (below_new (below_new hb))); clear hb))
    | (go_at_call 23; ((with_reducible refine (aw_shuf0 K _).mono ?_); rintro e w4 ⟨g4, rfl, hb⟩; have N3 := Lib.hid (N3.out.stay (below_new hb)); have T1 := Lib.hid (T1.out.stay (below_new hb)); obtain ⟨_, c0, c1, _, _⟩ := T1.out; have B4 := Lib.hid (Below.then_ B3.out (below_new hb)); clear hb))
    | (go_at_call 23; ((with_reducible refine (aw_shuf1 K _).mono ?_); rintro e w5 ⟨g5, rfl, hb⟩; have N3 := Lib.hid (N3.out.stay (below_new hb)); have T1 := Lib.hid (T1.out.stay (below_new hb)); have N4 := Lib.hid (two_new hb); obtain ⟨_, c0, c1, _, _⟩ := T1.out; obtain ⟨_, d0, d1, _, _⟩ := N3.out; obtain ⟨_, e0, e1, _, _⟩ := N4.out; have B5 := Lib.hid (Below.then_ B4.out (below_new hb)); clear hb)))
  go_ret
  exact ⟨rfl, B5.out.alloc B5.out.size _⟩
end Go.Proofs.Ytahjgepjhihhjaa.RngW
