/-
  The law RngStreams, walked.
-/
import Derived.Test.YtahjgepjhihhjaaRngOpen
import Derived.Lib.QuietBelow
import Derived.Deep.QuietTactic
import Derived.BigQuiet
namespace Go.Proofs.Ytahjgepjhihhjaa.RngW
open Go Go.RowKit Go.«Sort» Go.Proofs.Ytahjgepjhihhjaa.HashM Go.Proofs.Ytahjgepjhihhjaa.HashW Go.Proofs.Ytahjgepjhihhjaa.RngM

theorem q_of {P : Program} {f : FuncId} {args : Array Value} {v : Value} (h : ∀ w, Calls P f args w fun e w' => e = .returned v ∧ Below w.heap.size w w') (w : World) (d : Nat) (os : Array Obj) :
    Calls P f args (grow (redrawn w d) os) fun e w'' => e = .returned v ∧ ∃ p : Regrown, w'' = grow (redrawn w p.d) p.os := Calls.regrown_of (h _)
set_option maxRecDepth 100000 in
set_option maxHeartbeats 16000000 in
theorem streams_raw (k c X F D Y : UInt64) (s : ByteArray) (n : Int) (w : World)
    (h1 : ∀ w, Calls Try.prog 10 #[rv k c] w fun e w' => e = .returned (.tuple #[.int .u64 (V X), rv k (c + 1)]) ∧ Below w.heap.size w w')
    (h2 : ∀ w, Calls Try.prog 11 #[rv k c] w fun e w' => e = .returned (.tuple #[.int .u64 (V X), rv k (c + 1)]) ∧ Below w.heap.size w w')
    (hN : ∀ w, Calls Try.prog 12 #[.int .u64 (V k)] w fun e w' => e = .returned (rv F 0) ∧ Below w.heap.size w w')
    (hNR : ∀ w, Calls Try.prog 13 #[.int .u64 (V k)] w fun e w' => e = .returned (rv F 0) ∧ Below w.heap.size w w')
    (hC : ∀ w, Calls Try.prog 14 #[rv k c, .string s] w fun e w' => e = .returned (rv D 0) ∧ Below w.heap.size w w')
    (hCR : ∀ w, Calls Try.prog 15 #[rv k c, .string s] w fun e w' => e = .returned (rv D 0) ∧ Below w.heap.size w w')
    (hS : ∀ w, Calls Try.prog 16 #[rv k c, .int .i64 n] w fun e w' => e = .returned (rv k Y) ∧ Below w.heap.size w w')
    (hSR : ∀ w, Calls Try.prog 17 #[rv k c, .int .i64 n] w fun e w' => e = .returned (rv k Y) ∧ Below w.heap.size w w')
    (hA : ∀ w, Calls Try.prog 18 #[] w fun e w' => e = .returned (.bool true) ∧ Below w.heap.size w w') :
    Calls Try.prog 3 #[rv k c, .string s, .int .i64 n] w (tBool w true) := by
  have H1 := Lib.hid h1
  have H2 := Lib.hid h2
  have HN := Lib.hid (q_of hN)
  have HNR := Lib.hid (q_of hNR)
  have HC := Lib.hid (q_of hC)
  have HCR := Lib.hid (q_of hCR)
  have HS := Lib.hid (q_of hS)
  have HSR := Lib.hid (q_of hSR)
  have HA := Lib.hid (q_of hA)
  clear h1 h2 hN hNR hC hCR hS hSR hA
  go_enter Try.func3, Try.ntmps3
  go_wp2_with (first
    | (go_at_call 10; ((with_reducible refine (H1.out _).mono ?_); rintro e w1 ⟨rfl, hq⟩; have T1 := Lib.hid (two_new hq); obtain ⟨_, c0, c1, _, _⟩ := T1.out; have B1 := Lib.hid (below_new hq); clear hq))
    | (go_at_call 11; ((with_reducible refine (H2.out _).mono ?_); rintro e w2 ⟨rfl, hq⟩; have T1 := Lib.hid (T1.out.stay (below_new hq)); have N1 := Lib.hid (two_new hq); have B2 := Lib.hid (Below.then_ B1.out (below_new hq)); clear hq)))
  obtain ⟨w3, hw3⟩ : ∃ w3, w2.alloc (.cells #[.int .u64 (V k), .int .u64 (V (c + 1))] 24) = w3 := ⟨_, rfl⟩
  have D1 : Two w3 w.heap.size (.int .u64 (V k)) (.int .u64 (V c)) := by rw [← hw3]; exact T1.out.alloc _
  have D2 : Two w3 w1.heap.size (.int .u64 (V k)) (.int .u64 (V (c + 1))) := by rw [← hw3]; exact N1.out.alloc _
  have D3 : Two w3 w2.heap.size (.int .u64 (V k)) (.int .u64 (V (c + 1))) := by rw [← hw3]; exact Two.new w2 _ _ _
  have B3 : Hid (Below w.heap.size w w3) := Lib.hid (by rw [← hw3]; exact B2.out.alloc B2.out.size _)
  rw [hw3]
  clear hw3
  have k0 := cell_regrown D1.c0
  have k1 := cell_regrown D1.c1
  have k2 := cell_regrown D2.c0
  have k3 := cell_regrown D2.c1
  have k4 := cell_regrown D3.c0
  have k5 := cell_regrown D3.c1
  refine wp_region_quiet_below (by kernel_rfl) (by kernel_rfl) ?_
  repeat (first | go_big_quiet_step (first | exact HN.out _ _ _ | exact HNR.out _ _ _ | exact HC.out _ _ _ | exact HCR.out _ _ _ | exact HS.out _ _ _ | exact HSR.out _ _ _ | exact HA.out _ _ _) | quiet_step (first | exact HN.out _ _ _ | exact HNR.out _ _ _ | exact HC.out _ _ _ | exact HCR.out _ _ _ | exact HS.out _ _ _ | exact HSR.out _ _ _ | exact HA.out _ _ _))
  refine wpQuiet_nil ?_
  intro w4 hw'
  obtain ⟨pq, hw''⟩ := hw'
  have HX : Hid (Below w3.heap.size w3 w4) := Lib.hid (by rw [hw'']; exact below_regrown _ _ _)
  clear hw'' k0 k1 k2 k3 k4 k5
  go_wp2
  go_ret
  exact ⟨rfl, B3.out.trans (HX.out.mono B3.out.size)⟩
theorem streams_any (k c : UInt64) (s : ByteArray) (n : Int) (w : World) (hs : s.size ≤ 140737488351232) (n0 : -9223372036854775808 ≤ n) (n1 : n ≤ 9223372036854775807) :
    Calls Try.prog 3 #[rv k c, .string s, .int .i64 n] w (tBool w true) :=
  streams_raw k c (mix k c) (fin k) (kid k s) (skp c n) s n w (nextCode k c) (nextRef k c) (newCode k) (newRef k) (fun w => childCode k c s w hs) (fun w => childRef k c s w hs) (fun w => skipCode k c n w n0 n1) (fun w => skipRef k c n w n0 n1) awake_any
end Go.Proofs.Ytahjgepjhihhjaa.RngW
