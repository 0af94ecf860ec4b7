/-
  What the closure of package rng returns that takes numbers from a stream until one is at most the given one.
-/
import Derived.Test.YtahjgepjhihhjaaRngStream
namespace Go.Proofs.Ytahjgepjhihhjaa.RngW
open Go Go.RowKit Go.Proofs.Ytahjgepjhihhjaa.HashM Go.Proofs.Ytahjgepjhihhjaa.HashW Go.Proofs.Ytahjgepjhihhjaa.RngM

theorem V_le {a b : UInt64} : V a ≤ V b ↔ a ≤ b := by
  unfold V
  rw [UInt64.le_iff_toNat_le]
  omega
theorem tk_round {k g c c' : UInt64} {j : Nat} (h : ¬ mix k c' ≤ g) (hj : j < 64) (hx : tk k g (63 - j) c' = tk k g 63 c) : j + 1 < 64 ∧ tk k g (63 - (j + 1)) (c' + 1) = tk k g 63 c ∨ j + 1 = 64 ∧ tk k g 63 c = (mix k c', c' + 1) := by
  by_cases h1 : j + 1 < 64
  · refine .inl ⟨h1, ?_⟩
    rw [← hx, show 63 - j = (63 - (j + 1)) + 1 by omega, tk_go k g c' _ h]
  · refine .inr ⟨by omega, ?_⟩
    rw [← hx, show 63 - j = 0 by omega, tk_zero]
/-- What the closure hands back: the number, and the stream behind it in its block. -/
def tTk (w : World) (br : Nat) (k x c : UInt64) (e : Ending) (w' : World) : Prop :=
  e = .returned (.int .u64 (V x)) ∧ Two w' br (.int .u64 (V k)) (.int .u64 (V c)) ∧ Upd br w w'
set_option maxRecDepth 100000 in
set_option maxHeartbeats 8000000 in
theorem takeCode (g k c : UInt64) (bs br : Nat) (w : World) (hs : w.cell? ⟨bs, 0, none⟩ = some (.pointer (some ⟨br, 0, none⟩))) (hbs : bs < w.heap.size) (hr : Two w br (.int .u64 (V k)) (.int .u64 (V c))) (hn : bs ≠ br) :
    Calls Try.prog 35 #[.int .u64 (V g), .pointer (some ⟨bs, 0, none⟩)] w (tTk w br k (tk k g 63 c).1 (tk k g 63 c).2) := by
  have HR := Lib.hid hr
  have HS := Lib.hid hs
  have HN := Lib.hid hn
  clear hr hs
  go_enter Try.func35, Try.ntmps35
  go_wp2
  go_loopw [4, 5] (fun x i wr => ∃ j : Nat, i = .int .i64 j ∧ ∃ X c' : UInt64, x = .int .u64 (V X) ∧ j ≤ 64 ∧ Two wr br (.int .u64 (V k)) (.int .u64 (V c')) ∧ Upd br w wr ∧ (j < 64 ∧ tk k g (63 - j) c' = tk k g 63 c ∨ j = 64 ∧ tk k g 63 c = (X, c'))) (fun _ i _ => 64 - (intOf i).toNat)
  case atStart => exact ⟨0, rfl, 0, c, rfl, by omega, HR.out, Upd.refl _ _, .inl ⟨by omega, rfl⟩⟩
  case round =>
    obtain ⟨j, rfl, X, c', rfl, hj, hT, hU, hX⟩ := hrel
    have HT := Lib.hid hT
    have HU := Lib.hid hU
    have cs := (hU.cell hbs hn).trans HS.out
    have HBS := Lib.hid (Nat.lt_of_lt_of_le hbs hU.size)
    clear hT hU
    by_cases hlt : j < 64
    · have HX : Hid (tk k g (63 - j) c' = tk k g 63 c) := Lib.hid (by rcases hX with h | h; exact h.2; omega)
      clear hX
      have HC := Lib.hid (fun w => nextCode k c' w)
      obtain ⟨_, c0, c1, f0, f1⟩ := HT.out
      by_cases hm : mix k c' ≤ g
      · have hle : V (mix k c') ≤ V g := V_le.2 hm
        have HM := Lib.hid hm
        clear hm
        go_wp2
        go_region_with (first | (go_at_call 10; refine (HC.out wr.drew).mono ?_; rintro e w1 ⟨rfl, hb1⟩; have HB1 : Hid (Below wr.heap.size wr w1) := Lib.hid ((Below.refl _ wr).drew.trans hb1); have S1 := (HB1.out.cell (p := ⟨bs, 0, none⟩) HBS.out).trans cs; have T1 := Lib.hid (HT.out.stay HB1.out); have L1 := (((Upd.refl br w1).set 0 (.int .u64 (V k))).set 1 (.int .u64 (V (c' + 1)))).cell (g := bs) (o := 0) (Nat.lt_of_lt_of_le HBS.out HB1.out.size) HN.out; rw [S1] at L1; obtain ⟨_, d0, d1, q0, q1⟩ := T1.out; clear hb1))
        all_goals
          go_wp2
          go_ret
          refine ⟨?_, ?_, ?_⟩
          · show Ending.returned (.int .u64 (V (mix k c'))) = _
            rw [← HX.out, tk_stop k g c' _ HM.out]
          · rw [← HX.out, tk_stop k g c' _ HM.out]; exact T1.out.put _ _
          · exact ((HU.out.trans (Upd.of HB1.out)).set 0 _).set 1 _
      · have hle : ¬ V (mix k c') ≤ V g := fun h => hm (V_le.1 h)
        have HM := Lib.hid hm
        clear hm
        go_wp2
        go_region_with (first | (go_at_call 10; refine (HC.out wr.drew).mono ?_; rintro e w1 ⟨rfl, hb1⟩; have HB1 : Hid (Below wr.heap.size wr w1) := Lib.hid ((Below.refl _ wr).drew.trans hb1); have S1 := (HB1.out.cell (p := ⟨bs, 0, none⟩) HBS.out).trans cs; have T1 := Lib.hid (HT.out.stay HB1.out); have L1 := (((Upd.refl br w1).set 0 (.int .u64 (V k))).set 1 (.int .u64 (V (c' + 1)))).cell (g := bs) (o := 0) (Nat.lt_of_lt_of_le HBS.out HB1.out.size) HN.out; rw [S1] at L1; obtain ⟨_, d0, d1, q0, q1⟩ := T1.out; clear hb1))
        all_goals
          go_wp2
          go_roundw
          case rel => exact ⟨j + 1, by go_num, mix k c', c' + 1, rfl, by omega, T1.out.put _ _, ((HU.out.trans (Upd.of HB1.out)).set 0 _).set 1 _, tk_round HM.out hlt HX.out⟩
          case measure => simp [intOf]; omega
    · obtain rfl : j = 64 := by omega
      have HX : Hid (tk k g 63 c = (X, c')) := Lib.hid (by rcases hX with h | h; omega; exact h.2)
      clear hX
      go_wp2
      go_ret
      exact ⟨by show Ending.returned (.int .u64 (V X)) = _; rw [HX.out], by rw [HX.out]; exact HT.out, HU.out⟩
theorem takenCode (g k c : UInt64) (bs br : Nat) (w : World) (hs : w.cell? ⟨bs, 0, none⟩ = some (.pointer (some ⟨br, 0, none⟩))) (hbs : bs < w.heap.size) (hr : Two w br (.int .u64 (V k)) (.int .u64 (V c))) (hn : bs ≠ br) :
    Calls Try.prog 35 #[.int .u64 (V g), .pointer (some ⟨bs, 0, none⟩)] w (tTk w br k (tkX k g c) (tkC k g c)) := takeCode g k c bs br w hs hbs hr hn
end Go.Proofs.Ytahjgepjhihhjaa.RngW
