/-
  What 'rejection', 'below' and 'Below' of package rng return.
-/
import Derived.Test.YtahjgepjhihhjaaRngTake
namespace Go.Proofs.Ytahjgepjhihhjaa.RngW
open Go Go.RowKit Go.Proofs.Ytahjgepjhihhjaa.HashM Go.Proofs.Ytahjgepjhihhjaa.HashW Go.Proofs.Ytahjgepjhihhjaa.RngM

/-- The closure over the stream whose pointer lies in block bs. -/
abbrev clo (bs : Nat) : Value := .func (.func 35) #[] #[.pointer (some ⟨bs, 0, none⟩)]
/-- The world in which the pointer to the stream lies in a block of its own. -/
abbrev ptrW (br : Nat) (w : World) : World := w.alloc (.cells #[.pointer (some ⟨br, 0, none⟩)] 51)
theorem rejectCode (br : Nat) (w : World) :
    Calls Try.prog 33 #[.pointer (some ⟨br, 0, none⟩)] w fun e w' => e = .returned (clo w.heap.size) ∧ w' = ptrW br w := by
  have hmf : ∀ (fn : Fn) (first cap : Array Value) (w : World), (Instr.makeFunc fn first cap).run Try.prog w = .ok (.func fn first cap) w := fun _ _ _ _ => rfl
  go_enter Try.func33, Try.ntmps33
  go_wp2
  go_ret
  exact ⟨rfl, rfl⟩
theorem negV {n : Nat} (h : 0 < n) (h2 : n ≤ 4611686018427387904) : IntKind.u64.wrap (-(n : Int)) = ((18446744073709551616 - n : Nat) : Int) := by
  rw [IntKind.wrap_u64]; omega
theorem wrapN {n : Nat} (h2 : n ≤ 4611686018427387904) : IntKind.u64.wrap (n : Int) = (n : Int) := by
  rw [IntKind.wrap_u64]; omega
theorem remN (a b : Nat) : (a : Int).tmod (b : Int) = ((a % b : Nat) : Int) := (Int.ofNat_tmod _ _).symm
theorem not_xor (x : UInt64) : (18446744073709551615 : UInt64) ^^^ x = ~~~ x := by
  apply UInt64.toBitVec_inj.1
  simp only [UInt64.toBitVec_xor, UInt64.toBitVec_not]
  exact BitVec.allOnes_xor
theorem not_nat (x : UInt64) : (~~~ x).toNat = 18446744073709551615 - x.toNat := by
  rw [UInt64.toNat_not]; rfl
theorem lastV {n : Nat} (h : 0 < n) (h2 : n ≤ 4611686018427387904) : bits .xor .u64 (if IntKind.u64.signed = true then -1 else IntKind.u64.max) (restN n : Int) = V (lastN n) := by
  have hr := restN_lt h
  have e : (restN n : Int) = V (UInt64.ofNat (restN n)) := by
    unfold V
    rw [UInt64.toNat_ofNat_of_lt' (by show _ < 2 ^ 64; omega)]
  rw [e]
  show bits .xor .u64 (V 18446744073709551615) (V (UInt64.ofNat (restN n))) = _
  rw [xorV, not_xor]
  congr 1
  apply UInt64.toNat_inj.1
  rw [not_nat, lastN_nat, UInt64.toNat_ofNat_of_lt' (by show _ < 2 ^ 64; omega)]
theorem remV (x : UInt64) (n : Nat) : (V x).tmod (n : Int) = ((x.toNat % n : Nat) : Int) := remN _ _
/-- Below a number: what 'below' hands back, and the stream behind it in its block. -/
def tBl (w : World) (br : Nat) (k : UInt64) (x : Nat) (c : UInt64) (e : Ending) (w' : World) : Prop :=
  e = .returned (.int .i64 x) ∧ Two w' br (.int .u64 (V k)) (.int .u64 (V c)) ∧ Upd br w w'
set_option maxRecDepth 100000 in
set_option maxHeartbeats 4000000 in
theorem belowRaw (k g c' X : UInt64) (n a r m bs br : Nat) (w : World) (h : 0 < n) (h2 : n ≤ 4611686018427387904) (e1 : IntKind.u64.wrap (-(n : Int)) = (a : Int)) (e3 : (a : Int).tmod (n : Int) = (r : Int))
    (e4 : bits .xor .u64 (if IntKind.u64.signed = true then -1 else IntKind.u64.max) (r : Int) = V g) (e5 : (V X).tmod (n : Int) = (m : Int)) (e6 : m ≤ 4611686018427387904)
    (ht : Calls Try.prog 35 #[.int .u64 (V g), .pointer (some ⟨bs, 0, none⟩)] w (tTk w br k X c')) :
    Calls Try.prog 32 #[clo bs, .int .i64 n] w (tBl w br k m c') := by
  have e2 := wrapN h2
  have HT := Lib.hid ht
  clear ht
  go_enter Try.func32, Try.ntmps32
  go_wp2_with (go_at_call 35; refine HT.out.mono ?_; rintro e w1 ⟨rfl, t1, u1⟩; have T1 := Lib.hid t1; have U1 := Lib.hid u1; clear t1 u1)
  go_ret
  exact ⟨rfl, T1.out, U1.out⟩
theorem belowIn (k c : UInt64) (n bs br : Nat) (w : World) (h : 0 < n) (h2 : n ≤ 4611686018427387904) (hs : w.cell? ⟨bs, 0, none⟩ = some (.pointer (some ⟨br, 0, none⟩))) (hbs : bs < w.heap.size) (hr : Two w br (.int .u64 (V k)) (.int .u64 (V c))) (hn : bs ≠ br) :
    Calls Try.prog 32 #[clo bs, .int .i64 n] w (tBl w br k (belX k c n) (belC k c n)) :=
  belowRaw k (lastN n) (tkC k (lastN n) c) (tkX k (lastN n) c) n (18446744073709551616 - n) (restN n) ((tkX k (lastN n) c).toNat % n) bs br w h h2 (negV h h2) (by rw [remN, rest_code h2]) (lastV h h2) (remV _ _) (Nat.le_trans (Nat.le_of_lt (Nat.mod_lt _ h)) h2)
    (takenCode (lastN n) k c bs br w hs hbs hr hn)
/-- What Below returns: the number, the stream and the error. -/
structure BR where
  x : Nat
  k : UInt64
  c : UInt64
  e : Int
noncomputable def belR (k c : UInt64) (n : Int) : BR := if 1 ≤ n ∧ n ≤ 4611686018427387904 then ⟨belX k c n.toNat, k, belC k c n.toNat, 0⟩ else ⟨0, 0, 0, 1⟩
abbrev bv (r : BR) : Value := .tuple #[.int .i64 r.x, rv r.k r.c, .int .i64 r.e]
def tBe (w : World) (r : BR) (e : Ending) (w' : World) : Prop := e = .returned (bv r) ∧ Below w.heap.size w w'
theorem belR_no {k c : UInt64} {n : Int} (h : ¬ (1 ≤ n ∧ n ≤ 4611686018427387904)) : belR k c n = ⟨0, 0, 0, 1⟩ := by unfold belR; rw [if_neg h]
theorem belR_yes {k c : UInt64} {n : Nat} (h : 0 < n) (h2 : n ≤ 4611686018427387904) : belR k c n = ⟨belX k c n, k, belC k c n, 0⟩ := by unfold belR; rw [if_pos (by omega)]; rfl
theorem V0 : V 0 = 0 := rfl
set_option maxRecDepth 100000 in
set_option maxHeartbeats 4000000 in
theorem belowCode (k c : UInt64) (n : Int) (w : World) :
    Calls Try.prog 19 #[rv k c, .int .i64 n] w (tBe w (belR k c n)) := by
  by_cases hn : 1 ≤ n ∧ n ≤ 4611686018427387904
  · obtain ⟨m, rfl⟩ := Int.eq_ofNat_of_zero_le (show 0 ≤ n by omega)
    have h1 : 0 < m := by omega
    have h2 : m ≤ 4611686018427387904 := by omega
    rw [belR_yes h1 h2]
    have hp := fun bs br w => belowIn k c m bs br w h1 h2
    generalize belX k c m = px at *
    generalize belC k c m = pc at *
    clear hn
    obtain ⟨W0, hW0⟩ : ∃ W0, (w.alloc (.cells #[.int .u64 (V k), .int .u64 (V c)] 24)).alloc (.cells #[.int .u64 0, .int .u64 0] 24) = W0 := ⟨_, rfl⟩
    have H2 : Hid (Two W0 w.heap.size (.int .u64 (V k)) (.int .u64 (V c))) := Lib.hid (by rw [← hW0]; exact (Two.new _ _ _ _).alloc _)
    have H3 : Hid (Two W0 (w.heap.size + 1) (.int .u64 0) (.int .u64 0)) := Lib.hid (by rw [← hW0]; exact Two.at_ (by simp) _ _ _)
    have HBW : Hid (Below w.heap.size w W0) := Lib.hid (by rw [← hW0]; exact ((Below.refl _ _).alloc (Nat.le_refl _) _).alloc (by simp) _)
    have HZ : Hid (W0.heap.size = w.heap.size + 2) := Lib.hid (by rw [← hW0]; simp)
    have HW := Lib.hid hW0
    clear hW0
    have hs : (ptrW w.heap.size W0).cell? ⟨W0.heap.size, 0, none⟩ = some (.pointer (some ⟨w.heap.size, 0, none⟩)) := (alloc_cells W0 #[.pointer (some ⟨w.heap.size, 0, none⟩)] 51 0 _ rfl).1
    have HP := Lib.hid (hp W0.heap.size w.heap.size (ptrW w.heap.size W0) hs (by simp) (H2.out.alloc _) (by have := HZ.out; omega))
    have HR := Lib.hid (rejectCode w.heap.size W0)
    have H3' := Lib.hid (H3.out.alloc (.cells #[.pointer (some ⟨w.heap.size, 0, none⟩)] 51))
    clear hs hp
    go_enter Try.func19, Try.ntmps19
    go_wp2_with (first
      | (rw [HW.out]; (go_at_call 33; ((with_reducible refine HR.out.mono ?_); rintro e w1 ⟨rfl, rfl⟩)))
      | (go_at_call 32; ((with_reducible refine HP.out.mono ?_); rintro e w1 ⟨rfl, t1, u1⟩; obtain ⟨_, c0, c1, _, _⟩ := t1; obtain ⟨_, d0, d1, q0, q1⟩ := H3'.out.upd u1 (by omega); have U1 := Lib.hid u1; clear u1)))
    go_region
    all_goals
      go_wp2
      refine bodyPost_ret (v := bv ⟨px, k, pc, 0⟩) (by simp [results, Try.results19, go_sem, d0, d1]) rfl ?_
      exact ⟨rfl, ((((HBW.out.trans (((Below.refl _ _).alloc (Nat.le_refl _) _).mono HBW.out.size)).trans (U1.out.below (Nat.le_refl _) (by simp; have := HZ.out; omega))).setCell (by simp) _).setCell (by simp) _).drew⟩
  · rw [belR_no hn]
    by_cases hl : n < 1
    · go_enter Try.func19, Try.ntmps19
      go_wp2
      refine bodyPost_ret (v := bv ⟨0, 0, 0, 1⟩) (by simp [results, Try.results19, go_sem, V0]) rfl ?_
      exact ⟨rfl, ((Below.refl _ _).alloc (Nat.le_refl _) _).alloc (by simp) _⟩
    · have hg : 4611686018427387904 < n := by omega
      go_enter Try.func19, Try.ntmps19
      go_wp2
      refine bodyPost_ret (v := bv ⟨0, 0, 0, 1⟩) (by simp [results, Try.results19, go_sem, V0]) rfl ?_
      exact ⟨rfl, ((Below.refl _ _).alloc (Nat.le_refl _) _).alloc (by simp) _⟩
end Go.Proofs.Ytahjgepjhihhjaa.RngW
