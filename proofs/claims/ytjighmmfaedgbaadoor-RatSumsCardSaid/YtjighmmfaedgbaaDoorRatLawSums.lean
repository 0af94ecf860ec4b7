/-
  The walk of RatSums.
-/
import Derived.Test.YtjighmmfaedgbaaDoorRatSumR
import Derived.Test.YtjighmmfaedgbaaDoorRatAwake
import Derived.Lib.QuietBelow
namespace Go.Proofs.YtjighmmfaedgbaaDoor.RatW
open Go Go.RowKit Go.«Sort» Go.Proofs.YtjighmmfaedgbaaDoor.RatM

theorem awake_q (w : World) (h : Tab w) (d : Nat) (os : Array Obj) :
    Calls Tryd.prog 14 #[] (grow (redrawn w d) os) fun e w'' => e = .returned (.bool true) ∧ ∃ p : Regrown, w'' = grow (redrawn w p.d) p.os :=
  Calls.regrown_of (show Calls Tryd.prog 14 #[] (grow (redrawn w d) os) (fun e w' => e = .returned (.bool true) ∧ Below (grow (redrawn w d) os).heap.size (grow (redrawn w d) os) w') from awake_any _ (h.later (below_regrown w d os)))
set_option maxRecDepth 100000 in
set_option maxHeartbeats 8000000 in
theorem ratSums_long (n : Nat) (p : Option Addr) (cap : Nat) (w : World) (hn : 30 < n) (ht : Tab w) :
    Calls Tryd.prog 8 #[.slice p n cap] w (tBool w true) := by
  have HT := Lib.hid ht
  clear ht
  have h1 : (30 : Int) < (n : Int) := by omega
  go_enter Tryd.func8, Tryd.ntmps8
  go_wp2_with (go_at_call 14; ((with_reducible refine (awake_any _ HT.out).mono ?_); rintro e w1 ⟨rfl, hb⟩; have HB := Lib.hid hb; clear hb))
  go_ret
  exact ⟨rfl, HB.out⟩
set_option maxRecDepth 100000 in
set_option maxHeartbeats 16000000 in
theorem ratSums_zero (N D : Nat → Int) (p : Option Addr) (cap : Nat) (w : World) (h : RatsAt w (.slice p 0 cap) 0 N D) (ht : Tab w) :
    Calls Tryd.prog 8 #[.slice p 0 cap] w (tBool w true) := by
  have HT := Lib.hid ht
  clear ht
  have hs : sumF N D 0 0 0 1 = (0, 1, 0) := rfl
  have CA : ∀ w', Below w.heap.size w w' → Calls Tryd.prog 27 #[.slice p 0 cap] w' fun e w'' => e = .returned (.tuple #[.agg #[.int .i64 0, .int .i64 1], .int .i64 0]) ∧ Below w'.heap.size w' w'' := fun w' hb => by
    have q := sumCode 0 N D _ w' (h.later hb) (by omega)
    rw [hs] at q
    exact q
  have CR : ∀ w', Below w.heap.size w w' → Calls Tryd.prog 28 #[.slice p 0 cap] w' fun e w'' => e = .returned (.tuple #[.agg #[.int .i64 0, .int .i64 1], .int .i64 0]) ∧ Below w'.heap.size w' w'' := fun w' hb => by
    have q := sumRef 0 N D _ w' (h.later hb) (by omega)
    rw [hs] at q
    exact q
  have CA := Lib.hid CA
  have CR := Lib.hid CR
  clear hs h
  go_enter Tryd.func8, Tryd.ntmps8
  go_wp2_with (first
    | (go_at_call 27; ((with_reducible refine (CA.out _ (Below.refl _ _)).mono ?_); rintro e w1 ⟨rfl, hb⟩; have B1 := Lib.hid hb; clear hb))
    | (go_at_call 28; ((with_reducible refine (CR.out _ (B1.out.alloc B1.out.size _)).mono ?_); rintro e w2 ⟨rfl, hb⟩; have N1 := Lib.hid (two_new hb); have B2 := Lib.hid (Below.then_ B1.out (below_new hb)); clear hb)))
  obtain ⟨w3, hw3⟩ : ∃ w3, w2.alloc (.cells #[.int .i64 0, .int .i64 1] 23) = w3 := ⟨_, rfl⟩
  have D1 : Two w3 w1.heap.size (.int .i64 0) (.int .i64 1) := by rw [← hw3]; exact N1.out.alloc _
  have D2 : Two w3 w2.heap.size (.int .i64 0) (.int .i64 1) := by rw [← hw3]; exact Two.new w2 _ _ _
  have B3 : Hid (Below w.heap.size w w3) := Lib.hid (by rw [← hw3]; exact B2.out.alloc B2.out.size _)
  rw [hw3]
  clear hw3
  go_region_held3 (fun w' => w'.cell? ⟨w1.heap.size, 0, none⟩ = some (.int .i64 0) ∧ w'.cell? ⟨w1.heap.size, 1, none⟩ = some (.int .i64 1) ∧ w'.cell? ⟨w2.heap.size, 0, none⟩ = some (.int .i64 0) ∧ w'.cell? ⟨w2.heap.size, 1, none⟩ = some (.int .i64 1)) (first | assumption | exact s4 D1.drew D2.drew | fail)
    (first
      | (go_at_call 29; ((with_reducible refine (ofCode _ _ _).mono ?_); rintro e wx ⟨rfl, hb⟩; have HX : Hid (Below w3.heap.size w3 wx) := Lib.hid (by first | exact below_drew hb | exact Below.then_ HX.out hb); have K := s4 (D1.stay HX.out) (D2.stay HX.out); clear hb))
      | (go_at_call 14; ((with_reducible refine (awake_any _ (by first | exact (HT.out.later B3.out).later HX.out | exact (HT.out.later B3.out).later (Below.refl _ _).drew)).mono ?_); rintro e wx ⟨rfl, hb⟩; have HX : Hid (Below w3.heap.size w3 wx) := Lib.hid (by first | exact below_drew hb | exact Below.then_ HX.out hb); have K := s4 (D1.stay HX.out) (D2.stay HX.out); clear hb)))
  all_goals
    go_wp2
    go_ret
    exact ⟨rfl, B3.out.trans (HX.out.mono B3.out.size)⟩
set_option maxRecDepth 100000 in
set_option maxHeartbeats 16000000 in
theorem ratSums_some (n : Nat) (N D : Nat → Int) (p : Option Addr) (cap : Nat) (w : World) (h : RatsAt w (.slice p n cap) n N D) (hn : n ≤ 30) (h0 : 0 < n) (ht : Tab w) :
    Calls Tryd.prog 8 #[.slice p n cap] w (tBool w true) := by
  have HT := Lib.hid ht
  clear ht
  obtain ⟨x, y, k, hs⟩ : ∃ x y k, sumF N D n 0 0 1 = (x, y, k) := ⟨_, _, _, rfl⟩
  have CA : ∀ w', Below w.heap.size w w' → Calls Tryd.prog 27 #[.slice p n cap] w' fun e w'' => e = .returned (.tuple #[.agg #[.int .i64 x, .int .i64 y], .int .i64 k]) ∧ Below w'.heap.size w' w'' := fun w' hb => by
    have q := sumCode n N D _ w' (h.later hb) hn
    rw [hs] at q
    exact q
  have CR : ∀ w', Below w.heap.size w w' → Calls Tryd.prog 28 #[.slice p n cap] w' fun e w'' => e = .returned (.tuple #[.agg #[.int .i64 x, .int .i64 y], .int .i64 k]) ∧ Below w'.heap.size w' w'' := fun w' hb => by
    have q := sumRef n N D _ w' (h.later hb) hn
    rw [hs] at q
    exact q
  have CA := Lib.hid CA
  have CR := Lib.hid CR
  clear hs h
  have h1 : ¬ (30 : Int) < (n : Int) := by omega
  have h2 : (0 : Int) < (n : Int) := by omega
  have h3 : decide ((0 : Int) < (n : Int)) = true := decide_eq_true h2
  go_enter Tryd.func8, Tryd.ntmps8
  go_wp2_with (first
    | (go_at_call 27; ((with_reducible refine (CA.out _ (Below.refl _ _)).mono ?_); rintro e w1 ⟨rfl, hb⟩; have B1 := Lib.hid hb; clear hb))
    | (go_at_call 28; ((with_reducible refine (CR.out _ (B1.out.alloc B1.out.size _)).mono ?_); rintro e w2 ⟨rfl, hb⟩; have N1 := Lib.hid (two_new hb); have B2 := Lib.hid (Below.then_ B1.out (below_new hb)); clear hb)))
  obtain ⟨w3, hw3⟩ : ∃ w3, w2.alloc (.cells #[.int .i64 x, .int .i64 y] 23) = w3 := ⟨_, rfl⟩
  have D1 : Two w3 w1.heap.size (.int .i64 x) (.int .i64 y) := by rw [← hw3]; exact N1.out.alloc _
  have D2 : Two w3 w2.heap.size (.int .i64 x) (.int .i64 y) := by rw [← hw3]; exact Two.new w2 _ _ _
  have B3 : Hid (Below w.heap.size w w3) := Lib.hid (by rw [← hw3]; exact B2.out.alloc B2.out.size _)
  rw [hw3]
  clear hw3
  have k0 := cell_regrown D1.c0
  have k1 := cell_regrown D1.c1
  have k2 := cell_regrown D2.c0
  have k3 := cell_regrown D2.c1
  have cW := awake_q w3 (HT.out.later B3.out)
  refine wp_region_quiet_below (by kernel_rfl) (by kernel_rfl) ?_
  repeat (first | go_big_quiet_step (exact cW _ _) | quiet_step (exact cW _ _))
  refine wpQuiet_nil ?_
  intro w4 hw'
  obtain ⟨pq, hw''⟩ := hw'
  have HX : Hid (Below w3.heap.size w3 w4) := Lib.hid (by rw [hw'']; exact below_regrown _ _ _)
  clear hw'' k0 k1 k2 k3 cW
  go_wp2
  go_ret
  exact ⟨rfl, B3.out.trans (HX.out.mono B3.out.size)⟩
theorem ratSums_any (n : Nat) (N D : Nat → Int) (v : Value) (w : World) (h : RatsAt w v n N D) (ht : Tab w) :
    Calls Tryd.prog 8 #[v] w (tBool w true) := by
  have h' := h
  obtain ⟨p, cap, rfl, _⟩ := h'
  by_cases hn : n ≤ 30
  · rcases Nat.eq_zero_or_pos n with rfl | h0
    · exact ratSums_zero N D p cap w h ht
    · exact ratSums_some n N D p cap w h hn h0 ht
  · exact ratSums_long n p cap w (by omega) ht
end Go.Proofs.YtjighmmfaedgbaaDoor.RatW
