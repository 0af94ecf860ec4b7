/-
  What Skip, Next, New and Child of package rng return, and those of its reference.
-/
import Derived.Test.YtahjgepjhihhjaaRngTwo
namespace Go.Proofs.Ytahjgepjhihhjaa.RngW
open Go Go.RowKit Go.Proofs.Ytahjgepjhihhjaa.HashM Go.Proofs.Ytahjgepjhihhjaa.HashW Go.Proofs.Ytahjgepjhihhjaa.RngM

/-- A stream is returned. -/
def tRv (w : World) (k c : UInt64) (e : Ending) (w' : World) : Prop := e = .returned (rv k c) ∧ Below w.heap.size w w'
/-- The count behind n numbers. -/
def skp (c : UInt64) (n : Int) : UInt64 := c + UInt64.ofNat n.toNat
theorem skp_one (c : UInt64) : skp c 1 = c + 1 := rfl
theorem skp_neg {c : UInt64} {n : Int} (h : n < 0) : skp c n = c := by
  unfold skp
  rw [Int.toNat_of_nonpos (by omega)]
  exact UInt64.add_zero c
theorem skpV (c : UInt64) (n : Nat) (h : n ≤ 9223372036854775807) : IntKind.u64.wrap (V c + (n : Int)) = V (skp c n) := by
  have e : (n : Int) = V (UInt64.ofNat n) := by
    unfold V
    rw [UInt64.toNat_ofNat_of_lt' (by show _ < 2 ^ 64; omega)]
  rw [e, addV]
  unfold skp
  rw [← e, Int.toNat_natCast]
theorem wrapV (c : UInt64) : IntKind.u64.wrap (V c) = V c := by
  unfold V
  have := UInt64.toNat_lt c
  rw [IntKind.wrap_u64]
  omega
set_option maxRecDepth 100000 in
theorem skipCode (k c : UInt64) (n : Int) (w : World) (n0 : -9223372036854775808 ≤ n) (n1 : n ≤ 9223372036854775807) :
    Calls Try.prog 16 #[rv k c, .int .i64 n] w (tRv w k (skp c n)) := by
  by_cases h : n < 0
  · rw [skp_neg h]
    have HW := wrapV c
    go_enter Try.func16, Try.ntmps16
    go_wp2
    refine bodyPost_ret (v := rv k c) (by simp [results, Try.results16, go_sem]) rfl ?_
    exact ⟨rfl, ((Below.refl _ _).alloc (Nat.le_refl _) _).alloc (by simp) _⟩
  · obtain ⟨m, rfl⟩ := Int.eq_ofNat_of_zero_le (show 0 ≤ n by omega)
    have HV := skpV c m (by omega)
    go_enter Try.func16, Try.ntmps16
    go_wp2
    refine bodyPost_ret (v := rv k (skp c m)) (by simp [results, Try.results16, go_sem]) rfl ?_
    exact ⟨rfl, ((Below.refl _ _).alloc (Nat.le_refl _) _).alloc (by simp) _⟩
set_option maxRecDepth 100000 in
theorem skipRef (k c : UInt64) (n : Int) (w : World) (n0 : -9223372036854775808 ≤ n) (n1 : n ≤ 9223372036854775807) :
    Calls Try.prog 17 #[rv k c, .int .i64 n] w (tRv w k (skp c n)) := by
  by_cases h : n < 0
  · rw [skp_neg h]
    go_enter Try.func17, Try.ntmps17
    go_wp2
    refine bodyPost_ret (v := rv k c) (by simp [results, Try.results17, go_sem]) rfl ?_
    exact ⟨rfl, ((Below.refl _ _).alloc (Nat.le_refl _) _).alloc (by simp) _⟩
  · obtain ⟨m, rfl⟩ := Int.eq_ofNat_of_zero_le (show 0 ≤ n by omega)
    have HV := skpV c m (by omega)
    go_enter Try.func17, Try.ntmps17
    go_wp2
    refine bodyPost_ret (v := rv k (skp c m)) (by simp [results, Try.results17, go_sem]) rfl ?_
    exact ⟨rfl, ((Below.refl _ _).alloc (Nat.le_refl _) _).alloc (by simp) _⟩

/-- A number and the stream behind it are returned. -/
def tNx (w : World) (k c : UInt64) (e : Ending) (w' : World) : Prop := e = .returned (.tuple #[.int .u64 (V (mix k c)), rv k (c + 1)]) ∧ Below w.heap.size w w'
theorem skip1 (k c : UInt64) (w : World) : Calls Try.prog 16 #[rv k c, .int .i64 1] w (tRv w k (c + 1)) := by
  have := skipCode k c 1 w (by omega) (by omega)
  rwa [skp_one] at this
set_option maxRecDepth 100000 in
set_option maxHeartbeats 4000000 in
theorem nextCode (k c : UInt64) (w : World) : Calls Try.prog 10 #[rv k c] w (tNx w k c) := by
  obtain ⟨W0, hW0⟩ : ∃ W0, (w.alloc (.cells #[.int .u64 (V k), .int .u64 (V c)] 24)).alloc (.cells #[.int .u64 0, .int .u64 0] 24) = W0 := ⟨_, rfl⟩
  have H2 : Hid (Two W0 w.heap.size (.int .u64 (V k)) (.int .u64 (V c))) := Lib.hid (by rw [← hW0]; exact (Two.new _ _ _ _).alloc _)
  have H3 : Hid (Two W0 (w.heap.size + 1) (.int .u64 0) (.int .u64 0)) := Lib.hid (by rw [← hW0]; exact Two.at_ (by simp) _ _ _)
  have HBW : Hid (Below w.heap.size w W0) := Lib.hid (by rw [← hW0]; exact ((Below.refl _ _).alloc (Nat.le_refl _) _).alloc (by simp) _)
  have HW := Lib.hid hW0
  clear hW0
  have HS := Lib.hid (fun w => skip1 k c w)
  have HM := Lib.hid (fun w => mixCode k c w)
  go_enter Try.func10, Try.ntmps10
  go_wp2
  rw [HW.out]
  have c0 := H2.out.c0
  have c1 := H2.out.c1
  go_region_held3 (fun w' => w'.cell? ⟨w.heap.size, 0, none⟩ = some (.int .u64 (V k)) ∧ w'.cell? ⟨w.heap.size, 1, none⟩ = some (.int .u64 (V c))) (first | assumption | exact ⟨c0, c1⟩ | exact ((S2.far (by omega)).far (by omega)).cells)
    (first
      | (go_at_call 26; ((with_reducible refine (HM.out _).mono ?_); rintro e w' ⟨rfl, rfl⟩))
      | (go_at_call 16; refine (HS.out W0.drew).mono ?_; rintro e w1 ⟨rfl, hb1⟩; have HB1 : Hid (Below W0.heap.size W0 w1) := Lib.hid ((Below.refl _ W0).drew.trans hb1); have S1 := (H2.out.stay HB1.out).cells; have S2 := H2.out.stay HB1.out; obtain ⟨_, d0, d1, q0, q1⟩ := H3.out.stay HB1.out; clear hb1))
  all_goals
    go_wp2
    refine bodyPost_ret (v := .tuple #[.int .u64 (V (mix k c)), rv k (c + 1)]) (by simp [results, Try.results10, go_sem, d0, d1]) rfl ?_
    exact ⟨rfl, ((HBW.out.trans (HB1.out.mono HBW.out.size)).setCell (by simp) _).setCell (by simp) _⟩
set_option maxRecDepth 100000 in
set_option maxHeartbeats 4000000 in
theorem nextRef (k c : UInt64) (w : World) : Calls Try.prog 11 #[rv k c] w (tNx w k c) := by
  obtain ⟨W0, hW0⟩ : ∃ W0, (w.alloc (.cells #[.int .u64 (V k), .int .u64 (V c)] 24)).alloc (.cells #[.int .u64 0, .int .u64 0] 24) = W0 := ⟨_, rfl⟩
  have H2 : Hid (Two W0 w.heap.size (.int .u64 (V k)) (.int .u64 (V c))) := Lib.hid (by rw [← hW0]; exact (Two.new _ _ _ _).alloc _)
  have H3 : Hid (Two W0 (w.heap.size + 1) (.int .u64 0) (.int .u64 0)) := Lib.hid (by rw [← hW0]; exact Two.at_ (by simp) _ _ _)
  have HBW : Hid (Below w.heap.size w W0) := Lib.hid (by rw [← hW0]; exact ((Below.refl _ _).alloc (Nat.le_refl _) _).alloc (by simp) _)
  have HW := Lib.hid hW0
  clear hW0
  have HM := Lib.hid (fun w => mixRef k c w)
  have HA := add1 c
  go_enter Try.func11, Try.ntmps11
  go_wp2
  rw [HW.out]
  have c0 := H2.out.c0
  have c1 := H2.out.c1
  obtain ⟨_, d0, d1, q0, q1⟩ := H3.out
  go_region_held3 (fun w' => w'.cell? ⟨w.heap.size, 0, none⟩ = some (.int .u64 (V k)) ∧ w'.cell? ⟨w.heap.size, 1, none⟩ = some (.int .u64 (V c))) (first | assumption | exact ⟨c0, c1⟩ | exact ((H2.out.far (by omega)).far (by omega)).drew.cells | exact ((H2.out.drew.far (by omega)).far (by omega)).cells)
    (first
      | (go_at_call 27; ((with_reducible refine (HM.out _).mono ?_); rintro e w' ⟨rfl, rfl⟩)))
  all_goals
    go_wp2
    refine bodyPost_ret (v := .tuple #[.int .u64 (V (mix k c)), rv k (c + 1)]) (by simp [results, Try.results11, go_sem, d0, d1]) rfl ?_
    exact ⟨rfl, ((HBW.out.setCell (by simp) _).setCell (by simp) _).drew⟩

/-! ### New, Child -/
set_option maxRecDepth 100000 in
theorem newCode (s : UInt64) (w : World) : Calls Try.prog 12 #[.int .u64 (V s)] w (tRv w (fin s) 0) := by
  have HF := Lib.hid (fun w => finCode s w)
  go_enter Try.func12, Try.ntmps12
  go_wp2_with (go_at_call 28; ((with_reducible refine (HF.out _).mono ?_); rintro e w' ⟨rfl, rfl⟩))
  refine bodyPost_ret (v := rv (fin s) 0) (by simp [results, Try.results12, go_sem]; rfl) rfl ?_
  exact ⟨rfl, (Below.refl _ _).alloc (Nat.le_refl _) _⟩
set_option maxRecDepth 100000 in
theorem newRef (s : UInt64) (w : World) : Calls Try.prog 13 #[.int .u64 (V s)] w (tRv w (fin s) 0) := by
  have HF := Lib.hid (fun w => finRef s w)
  go_enter Try.func13, Try.ntmps13
  go_wp2_with (go_at_call 29; ((with_reducible refine (HF.out _).mono ?_); rintro e w' ⟨rfl, rfl⟩))
  refine bodyPost_ret (v := rv (fin s) 0) (by simp [results, Try.results13, go_sem]; rfl) rfl ?_
  exact ⟨rfl, (Below.refl _ _).alloc (Nat.le_refl _) _⟩
/-- The key of the stream below k with the name s. -/
def kid (k : UInt64) (s : ByteArray) : UInt64 := mix k (hashL s.data.toList)
set_option maxRecDepth 100000 in
set_option maxHeartbeats 4000000 in
theorem childCode (k c : UInt64) (s : ByteArray) (w : World) (hs : s.size ≤ 140737488351232) : Calls Try.prog 14 #[rv k c, .string s] w (tRv w (kid k s) 0) := by
  obtain ⟨W0, hW0⟩ : ∃ W0, (w.alloc (.cells #[.int .u64 (V k), .int .u64 (V c)] 24)).alloc (.cells #[.int .u64 0, .int .u64 0] 24) = W0 := ⟨_, rfl⟩
  have H2 : Hid (Two W0 w.heap.size (.int .u64 (V k)) (.int .u64 (V c))) := Lib.hid (by rw [← hW0]; exact (Two.new _ _ _ _).alloc _)
  have H3 : Hid (Two W0 (w.heap.size + 1) (.int .u64 0) (.int .u64 0)) := Lib.hid (by rw [← hW0]; exact Two.at_ (by simp) _ _ _)
  have HBW : Hid (Below w.heap.size w W0) := Lib.hid (by rw [← hW0]; exact ((Below.refl _ _).alloc (Nat.le_refl _) _).alloc (by simp) _)
  have HW := Lib.hid hW0
  clear hW0
  have HH := Lib.hid (fun w => hashCode s w hs)
  obtain ⟨h, hh⟩ : ∃ h, hashL s.data.toList = h := ⟨_, rfl⟩
  have HM := Lib.hid (fun w => mixCode k h w)
  rw [hh] at HH
  have HK : Hid (kid k s = mix k h) := Lib.hid (by unfold kid; rw [hh])
  clear hh
  go_enter Try.func14, Try.ntmps14
  go_wp2
  rw [HW.out]
  have c0 := H2.out.c0
  obtain ⟨_, d0, d1, q0, q1⟩ := H3.out
  go_region_held3 (fun w' => w'.cell? ⟨w.heap.size, 0, none⟩ = some (.int .u64 (V k))) (first | assumption | exact c0 | exact ((H2.out.far (by omega)).far (by omega)).drew.c0 | exact ((H2.out.drew.far (by omega)).far (by omega)).c0)
    (first
      | (go_at_call 30; ((with_reducible refine (HH.out _).mono ?_); rintro e w' ⟨rfl, rfl⟩))
      | (go_at_call 26; ((with_reducible refine (HM.out _).mono ?_); rintro e w' ⟨rfl, rfl⟩)))
  all_goals
    go_wp2
    refine bodyPost_ret (v := rv (mix k h) 0) (by simp [results, Try.results14, go_sem, d0, d1]; rfl) rfl ?_
    exact ⟨by rw [HK.out], ((HBW.out.setCell (by simp) _).setCell (by simp) _).drew⟩
set_option maxRecDepth 100000 in
set_option maxHeartbeats 4000000 in
theorem childRef (k c : UInt64) (s : ByteArray) (w : World) (hs : s.size ≤ 140737488351232) : Calls Try.prog 15 #[rv k c, .string s] w (tRv w (kid k s) 0) := by
  obtain ⟨W0, hW0⟩ : ∃ W0, (w.alloc (.cells #[.int .u64 (V k), .int .u64 (V c)] 24)).alloc (.cells #[.int .u64 0, .int .u64 0] 24) = W0 := ⟨_, rfl⟩
  have H2 : Hid (Two W0 w.heap.size (.int .u64 (V k)) (.int .u64 (V c))) := Lib.hid (by rw [← hW0]; exact (Two.new _ _ _ _).alloc _)
  have H3 : Hid (Two W0 (w.heap.size + 1) (.int .u64 0) (.int .u64 0)) := Lib.hid (by rw [← hW0]; exact Two.at_ (by simp) _ _ _)
  have HBW : Hid (Below w.heap.size w W0) := Lib.hid (by rw [← hW0]; exact ((Below.refl _ _).alloc (Nat.le_refl _) _).alloc (by simp) _)
  have HW := Lib.hid hW0
  clear hW0
  have HH := Lib.hid (fun w => hashRef s w hs)
  obtain ⟨h, hh⟩ : ∃ h, hashL s.data.toList = h := ⟨_, rfl⟩
  have HM := Lib.hid (fun w => mixRef k h w)
  rw [hh] at HH
  have HK : Hid (kid k s = mix k h) := Lib.hid (by unfold kid; rw [hh])
  clear hh
  go_enter Try.func15, Try.ntmps15
  go_wp2
  rw [HW.out]
  have c0 := H2.out.c0
  obtain ⟨_, d0, d1, q0, q1⟩ := H3.out
  go_region_held3 (fun w' => w'.cell? ⟨w.heap.size, 0, none⟩ = some (.int .u64 (V k))) (first | assumption | exact c0 | exact ((H2.out.far (by omega)).far (by omega)).drew.c0 | exact ((H2.out.drew.far (by omega)).far (by omega)).c0)
    (first
      | (go_at_call 31; ((with_reducible refine (HH.out _).mono ?_); rintro e w' ⟨rfl, rfl⟩))
      | (go_at_call 27; ((with_reducible refine (HM.out _).mono ?_); rintro e w' ⟨rfl, rfl⟩)))
  all_goals
    go_wp2
    refine bodyPost_ret (v := rv (mix k h) 0) (by simp [results, Try.results15, go_sem, d0, d1]; rfl) rfl ?_
    exact ⟨by rw [HK.out], ((HBW.out.setCell (by simp) _).setCell (by simp) _).drew⟩
end Go.Proofs.Ytahjgepjhihhjaa.RngW
