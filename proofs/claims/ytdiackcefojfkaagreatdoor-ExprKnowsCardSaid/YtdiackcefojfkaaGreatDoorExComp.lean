/-
  What the code's truth, inside and computed return. Written by gen_excomp.py.
-/
import Derived.Test.YtdiackcefojfkaaGreatDoorExSig
namespace Go.Proofs.YtdiackcefojfkaaGreatDoor.ExW
open Go Go.RowKit Go.Proofs.YtdiackcefojfkaaGreatDoor.NumM Go.Proofs.YtdiackcefojfkaaGreatDoor.LexW Go.Proofs.YtdiackcefojfkaaGreatDoor.LexM Go.Proofs.YtdiackcefojfkaaGreatDoor.ExM

/-- A row of integers in memory. -/
structure IntsAt (w : World) (b off : Nat) (l : List Int) : Prop where
  lt : b < w.heap.size
  cell : ∀ i v, l[i]? = some v → w.cell? ⟨b, off + i, none⟩ = some (.int .i64 v)
theorem IntsAt.later {w w' : World} {b off : Nat} {l : List Int} (h : IntsAt w b off l) (hb : Below w.heap.size w w') : IntsAt w' b off l :=
  ⟨Nat.lt_of_lt_of_le h.lt hb.size, fun i v hi => (hb.cell (p := ⟨b, off + i, none⟩) h.lt).trans (h.cell i v hi)⟩
theorem IntsAt.tail {w : World} {b off : Nat} {a : Int} {l : List Int} (h : IntsAt w b off (a :: l)) : IntsAt w b (off + 1) l :=
  ⟨h.lt, fun i v hi => by have := h.cell (i + 1) v (by simpa using hi); rwa [show off + (i + 1) = off + 1 + i by omega] at this⟩
theorem truth_any (x : Bool) (w : World) : Calls Tryz.prog 88 #[.bool x] w fun e w' => e = .returned (.int .i64 (tr x)) ∧ w = w' := by
  cases x
  all_goals
    go_enter Tryz.func88, Tryz.ntmps88
    go_wp2
    go_ret
    exact ⟨rfl, rfl⟩
theorem ins_drop {n : Int} {l : List Int} {k : Nat} {a b : Int} (ha : l[k]? = some a) (hb : l[k + 1]? = some b) : insB n (l.drop k) = ((decide (a ≤ n) && decide (n ≤ b)) || insB n (l.drop (k + 2))) := by
  obtain ⟨h1, e1⟩ := List.getElem?_eq_some_iff.1 ha
  obtain ⟨h2, e2⟩ := List.getElem?_eq_some_iff.1 hb
  rw [List.drop_eq_getElem_cons h1, List.drop_eq_getElem_cons h2, e1, e2, insB]
set_option maxRecDepth 100000 in
set_option maxHeartbeats 2000000 in
theorem inside_any (n : Int) (l : List Int) (b off cap : Nat) (w : World) (h : IntsAt w b off l) (hl : l.length ≤ 100) (h2 : l.length % 2 = 0) (_hc : l.length ≤ cap) :
    Calls Tryz.prog 96 #[.int .i64 n, .slice (some ⟨b, off, none⟩) l.length cap] w fun e w' => e = .returned (.bool (insB n l)) ∧ w = w' := by
  have HI := Lib.hid h
  obtain ⟨N, hN⟩ : ∃ N, l.length = N := ⟨_, rfl⟩
  have HN := Lib.hid hN
  rw [hN] at hl h2 ⊢
  clear h hN
  go_enter Tryz.func96, Tryz.ntmps96
  go_wp2
  go_loop [5] (fun i => ∃ k : Nat, k ≤ N ∧ k % 2 = 0 ∧ i = .int .i64 k ∧ Hid (insB n l = insB n (l.drop k))) (fun i => N - (intOf i).toNat)
  case atStart => exact ⟨0, Nat.zero_le _, rfl, rfl, Lib.hid rfl⟩
  case round =>
    obtain ⟨k, hk, hk2, rfl, ID⟩ := hrel
    by_cases hlt : k < N
    · have hlt2 : k + 1 < N := by omega
      obtain ⟨a, hak⟩ : ∃ a, l[k]? = some a := ⟨_, List.getElem?_eq_getElem (by rw [HN.out]; exact hlt)⟩
      obtain ⟨c, hck⟩ : ∃ c, l[k + 1]? = some c := ⟨_, List.getElem?_eq_getElem (by rw [HN.out]; exact hlt2)⟩
      have c0 := HI.out.cell k a hak
      have c1 := HI.out.cell (k + 1) c hck
      have ND := Lib.hid (ins_drop (n := n) hak hck)
      have hi2 : (k : Int) + 1 < (N : Int) := by omega
      have hi3 : ((k : Int) + 1).toNat = k + 1 := by omega
      have hi4 : (k : Int) < (N : Int) := by omega
      have HK2 := Lib.hid hk2
      clear hak hck h2 hk2
      by_cases g1 : a ≤ n
      · by_cases g2 : n ≤ c
        · have EE : Hid (true = insB n l) := Lib.hid (by rw [ID.out, ND.out, decide_eq_true g1, decide_eq_true g2]; rfl)
          go_wp2
          go_ret
          exact ⟨retb EE.out, rfl⟩
        · have ID2 : Hid (insB n l = insB n (l.drop (k + 2))) := Lib.hid (by rw [ID.out, ND.out, decide_eq_false g2]; simp)
          go_wp2
          go_round
          case rel => exact ⟨k + 2, by omega, by have := HK2.out; omega, by rw [show ((k + 2 : Nat) : Int) = (k : Int) + 2 by omega], ID2⟩
          case measure => simp [intOf]; omega
      · have ID2 : Hid (insB n l = insB n (l.drop (k + 2))) := Lib.hid (by rw [ID.out, ND.out, decide_eq_false g1]; simp)
        go_wp2
        go_round
        case rel => exact ⟨k + 2, by omega, by have := HK2.out; omega, by rw [show ((k + 2 : Nat) : Int) = (k : Int) + 2 by omega], ID2⟩
        case measure => simp [intOf]; omega
    · have EE : Hid (false = insB n l) := Lib.hid (by rw [ID.out, List.drop_of_length_le (by rw [HN.out]; omega)]; rfl)
      go_wp2
      go_ret
      exact ⟨retb EE.out, rfl⟩
theorem ofInt16 (a : Nat) (ha : a < 65536) : (BitVec.ofInt 64 (a : Int)).toNat = a := ofInt_u64 a (by omega)
theorem i64_and {a b : Int} (h1 : 0 ≤ a) (h2 : a ≤ 65535) (h3 : 0 ≤ b) (h4 : b ≤ 65535) : bits .and .i64 a b = ((a.toNat &&& b.toNat : Nat) : Int) := by
  obtain ⟨A, rfl⟩ := Int.eq_ofNat_of_zero_le h1
  obtain ⟨B, rfl⟩ := Int.eq_ofNat_of_zero_le h3
  have hx : A &&& B ≤ 65535 := and_range (by omega)
  show IntKind.i64.wrap ((BitVec.ofInt 64 (A : Int) &&& BitVec.ofInt 64 (B : Int)).toNat : Int) = _
  rw [BitVec.toNat_and, ofInt16 A (by omega), ofInt16 B (by omega), IntKind.wrap_i64]
  simp only [Int.toNat_natCast]
  omega
theorem i64_or {a b : Int} (h1 : 0 ≤ a) (h2 : a ≤ 65535) (h3 : 0 ≤ b) (h4 : b ≤ 65535) : bits .or .i64 a b = ((a.toNat ||| b.toNat : Nat) : Int) := by
  obtain ⟨A, rfl⟩ := Int.eq_ofNat_of_zero_le h1
  obtain ⟨B, rfl⟩ := Int.eq_ofNat_of_zero_le h3
  have hx : A ||| B ≤ 65535 := or_range (by omega) (by omega)
  show IntKind.i64.wrap ((BitVec.ofInt 64 (A : Int) ||| BitVec.ofInt 64 (B : Int)).toNat : Int) = _
  rw [BitVec.toNat_or, ofInt16 A (by omega), ofInt16 B (by omega), IntKind.wrap_i64]
  simp only [Int.toNat_natCast]
  omega
theorem i64_xor {a b : Int} (h1 : 0 ≤ a) (h2 : a ≤ 65535) (h3 : 0 ≤ b) (h4 : b ≤ 65535) : bits .xor .i64 a b = ((a.toNat ^^^ b.toNat : Nat) : Int) := by
  obtain ⟨A, rfl⟩ := Int.eq_ofNat_of_zero_le h1
  obtain ⟨B, rfl⟩ := Int.eq_ofNat_of_zero_le h3
  have hx : A ^^^ B ≤ 65535 := xor_range (by omega) (by omega)
  show IntKind.i64.wrap ((BitVec.ofInt 64 (A : Int) ^^^ BitVec.ofInt 64 (B : Int)).toNat : Int) = _
  rw [BitVec.toNat_xor, ofInt16 A (by omega), ofInt16 B (by omega), IntKind.wrap_i64]
  simp only [Int.toNat_natCast]
  omega
set_option maxRecDepth 100000 in
set_option maxHeartbeats 2000000 in
theorem comp4 (a : Int) (b : Nat) (w : World) (h : IntsAt w b 0 [a]) : Calls Tryz.prog 69 #[.int .i64 4, .slice (some ⟨b, 0, none⟩) 1 33] w (tInt (opS 4 [a]) w) := by
  have c0 : w.cell? ⟨b, 0, none⟩ = some (.int .i64 a) := by simpa using h.cell 0 a rfl
  have TC : Hid (∀ x W, Calls Tryz.prog 88 #[.bool x] W fun e w' => e = .returned (.int .i64 (tr x)) ∧ W = w') := Lib.hid fun x W => truth_any x W
  have EE : Hid (opS 4 [a] = tr (decide (a = 0))) := Lib.hid (by simp [opS, ix])
  clear h
  go_enter Tryz.func69, Tryz.ntmps69
  go_wp2_with (go_at_call 88; ((with_reducible refine (TC.out _ _).mono ?_); rintro e w1 ⟨rfl, rfl⟩))
  go_ret
  exact tInt_mk (by rw [EE.out]; rfl) (Below.refl _ _)
set_option maxRecDepth 100000 in
set_option maxHeartbeats 2000000 in
theorem comp5 (a : Int) (b : Nat) (w : World) (h : IntsAt w b 0 [a]) : Calls Tryz.prog 69 #[.int .i64 5, .slice (some ⟨b, 0, none⟩) 1 33] w (tInt (opS 5 [a]) w) := by
  have c0 : w.cell? ⟨b, 0, none⟩ = some (.int .i64 a) := by simpa using h.cell 0 a rfl
  have WC : Hid (∀ x W, Calls Tryz.prog 89 #[.int .i64 x] W fun e w' => e = .returned (.int .i64 (65535 - x % 65536)) ∧ W = w') := Lib.hid fun x W => WordW.invCode x W
  have EE : Hid (opS 5 [a] = 65535 - a % 65536) := Lib.hid (by simp [opS, ix])
  clear h
  go_enter Tryz.func69, Tryz.ntmps69
  go_wp2_with (go_at_call 89; ((with_reducible refine (WC.out _ _).mono ?_); rintro e w1 ⟨rfl, rfl⟩))
  go_ret
  exact tInt_mk (by rw [EE.out]) (Below.refl _ _)
set_option maxRecDepth 100000 in
set_option maxHeartbeats 2000000 in
theorem comp6 (a : Int) (b : Nat) (w : World) (h : IntsAt w b 0 [a]) : Calls Tryz.prog 69 #[.int .i64 6, .slice (some ⟨b, 0, none⟩) 1 33] w (tInt (opS 6 [a]) w) := by
  have c0 : w.cell? ⟨b, 0, none⟩ = some (.int .i64 a) := by simpa using h.cell 0 a rfl
  have WC : Hid (∀ x W, Calls Tryz.prog 90 #[.int .i64 x] W fun e w' => e = .returned (.int .i64 (-x % 65536)) ∧ W = w') := Lib.hid fun x W => WordW.negCode x W
  have EE : Hid (opS 6 [a] = -a % 65536) := Lib.hid (by simp [opS, ix])
  clear h
  go_enter Tryz.func69, Tryz.ntmps69
  go_wp2_with (go_at_call 90; ((with_reducible refine (WC.out _ _).mono ?_); rintro e w1 ⟨rfl, rfl⟩))
  go_ret
  exact tInt_mk (by rw [EE.out]) (Below.refl _ _)
set_option maxRecDepth 100000 in
set_option maxHeartbeats 2000000 in
theorem comp25 (a : Int) (b : Nat) (w : World) (h : IntsAt w b 0 [a]) : Calls Tryz.prog 69 #[.int .i64 25, .slice (some ⟨b, 0, none⟩) 1 33] w (tInt (opS 25 [a]) w) := by
  have c0 : w.cell? ⟨b, 0, none⟩ = some (.int .i64 a) := by simpa using h.cell 0 a rfl
  have WC : Hid (∀ x W, Calls Tryz.prog 91 #[.int .i64 x] W fun e w' => e = .returned (.int .i64 (onesM x)) ∧ ∃ m, w' = W.drewN m) := Lib.hid fun x W => WordW.onesCode x W
  have EE : Hid (opS 25 [a] = onesM a) := Lib.hid (by simp [opS, ix])
  clear h
  go_enter Tryz.func69, Tryz.ntmps69
  go_wp2_with (go_at_call 91; ((with_reducible refine (WC.out _ _).mono ?_); rintro e w1 ⟨rfl, m, rfl⟩))
  go_ret
  exact tInt_mk (by rw [EE.out]) (drewB (Below.refl _ _))
set_option maxRecDepth 100000 in
set_option maxHeartbeats 2000000 in
theorem comp7 (a c : Int) (b : Nat) (w : World) (h : IntsAt w b 0 [a, c]) : Calls Tryz.prog 69 #[.int .i64 7, .slice (some ⟨b, 0, none⟩) 2 33] w (tInt (opS 7 [a, c]) w) := by
  have c0 : w.cell? ⟨b, 0, none⟩ = some (.int .i64 a) := by simpa using h.cell 0 a rfl
  have c1 : w.cell? ⟨b, 1, none⟩ = some (.int .i64 c) := by simpa using h.cell 1 c rfl
  have WC : Hid (∀ x y W, Calls Tryz.prog 87 #[.int .i64 x, .int .i64 y] W fun e w' => e = .returned (.int .i64 ((x + y) % 65536)) ∧ W = w') := Lib.hid fun x y W => WordW.addCode x y W
  have EE : Hid (opS 7 [a, c] = (a + c) % 65536) := Lib.hid (by simp [opS, ix])
  clear h
  go_enter Tryz.func69, Tryz.ntmps69
  go_wp2
  go_quiet ((go_at_call 87; exact quietL (WC.out _ _ _)))
  go_wp2
  go_ret
  exact tInt_mk (by rw [EE.out]) (drewB (Below.refl _ _))
set_option maxRecDepth 100000 in
set_option maxHeartbeats 2000000 in
theorem comp8 (a c : Int) (b : Nat) (w : World) (h : IntsAt w b 0 [a, c]) : Calls Tryz.prog 69 #[.int .i64 8, .slice (some ⟨b, 0, none⟩) 2 33] w (tInt (opS 8 [a, c]) w) := by
  have c0 : w.cell? ⟨b, 0, none⟩ = some (.int .i64 a) := by simpa using h.cell 0 a rfl
  have c1 : w.cell? ⟨b, 1, none⟩ = some (.int .i64 c) := by simpa using h.cell 1 c rfl
  have WC : Hid (∀ x y W, Calls Tryz.prog 92 #[.int .i64 x, .int .i64 y] W fun e w' => e = .returned (.int .i64 ((x - y) % 65536)) ∧ W = w') := Lib.hid fun x y W => WordW.subCode x y W
  have EE : Hid (opS 8 [a, c] = (a - c) % 65536) := Lib.hid (by simp [opS, ix])
  clear h
  go_enter Tryz.func69, Tryz.ntmps69
  go_wp2
  go_quiet ((go_at_call 92; exact quietL (WC.out _ _ _)))
  go_wp2
  go_ret
  exact tInt_mk (by rw [EE.out]) (drewB (Below.refl _ _))
set_option maxRecDepth 100000 in
set_option maxHeartbeats 2000000 in
theorem comp9 (a c : Int) (b : Nat) (w : World) (h : IntsAt w b 0 [a, c]) : Calls Tryz.prog 69 #[.int .i64 9, .slice (some ⟨b, 0, none⟩) 2 33] w (tInt (opS 9 [a, c]) w) := by
  have c0 : w.cell? ⟨b, 0, none⟩ = some (.int .i64 a) := by simpa using h.cell 0 a rfl
  have c1 : w.cell? ⟨b, 1, none⟩ = some (.int .i64 c) := by simpa using h.cell 1 c rfl
  have WC : Hid (∀ x y W, Calls Tryz.prog 93 #[.int .i64 x, .int .i64 y] W fun e w' => e = .returned (.int .i64 (x * y % 65536)) ∧ W = w') := Lib.hid fun x y W => WordW.mulCode x y W
  have EE : Hid (opS 9 [a, c] = a * c % 65536) := Lib.hid (by simp [opS, ix])
  clear h
  go_enter Tryz.func69, Tryz.ntmps69
  go_wp2
  go_quiet ((go_at_call 93; exact quietL (WC.out _ _ _)))
  go_wp2
  go_ret
  exact tInt_mk (by rw [EE.out]) (drewB (Below.refl _ _))
set_option maxRecDepth 100000 in
set_option maxHeartbeats 2000000 in
theorem comp13 (a c : Int) (b : Nat) (w : World) (h : IntsAt w b 0 [a, c]) : Calls Tryz.prog 69 #[.int .i64 13, .slice (some ⟨b, 0, none⟩) 2 33] w (tInt (opS 13 [a, c]) w) := by
  have c0 : w.cell? ⟨b, 0, none⟩ = some (.int .i64 a) := by simpa using h.cell 0 a rfl
  have c1 : w.cell? ⟨b, 1, none⟩ = some (.int .i64 c) := by simpa using h.cell 1 c rfl
  have WC : Hid (∀ x y W, Calls Tryz.prog 94 #[.int .i64 x, .int .i64 y] W fun e w' => e = .returned (.int .i64 (shlM x y)) ∧ W = w') := Lib.hid fun x y W => WordW.shlCode x y W
  have EE : Hid (opS 13 [a, c] = shlM a c) := Lib.hid (by simp [opS, ix])
  clear h
  go_enter Tryz.func69, Tryz.ntmps69
  go_wp2
  go_quiet ((go_at_call 94; exact quietL (WC.out _ _ _)))
  go_wp2
  go_ret
  exact tInt_mk (by rw [EE.out]) (drewB (Below.refl _ _))
set_option maxRecDepth 100000 in
set_option maxHeartbeats 2000000 in
theorem comp14 (a c : Int) (b : Nat) (w : World) (h : IntsAt w b 0 [a, c]) : Calls Tryz.prog 69 #[.int .i64 14, .slice (some ⟨b, 0, none⟩) 2 33] w (tInt (opS 14 [a, c]) w) := by
  have c0 : w.cell? ⟨b, 0, none⟩ = some (.int .i64 a) := by simpa using h.cell 0 a rfl
  have c1 : w.cell? ⟨b, 1, none⟩ = some (.int .i64 c) := by simpa using h.cell 1 c rfl
  have WC : Hid (∀ x y W, Calls Tryz.prog 95 #[.int .i64 x, .int .i64 y] W fun e w' => e = .returned (.int .i64 (shrM x y)) ∧ W = w') := Lib.hid fun x y W => WordW.shrCode x y W
  have EE : Hid (opS 14 [a, c] = shrM a c) := Lib.hid (by simp [opS, ix])
  clear h
  go_enter Tryz.func69, Tryz.ntmps69
  go_wp2
  go_quiet ((go_at_call 95; exact quietL (WC.out _ _ _)))
  go_wp2
  go_ret
  exact tInt_mk (by rw [EE.out]) (drewB (Below.refl _ _))
set_option maxRecDepth 100000 in
set_option maxHeartbeats 2000000 in
theorem comp10 (a c : Int) (b : Nat) (w : World) (h : IntsAt w b 0 [a, c]) (a0 : 0 ≤ a) (a1 : a ≤ 65535) (c0' : 0 ≤ c) (c1' : c ≤ 65535) : Calls Tryz.prog 69 #[.int .i64 10, .slice (some ⟨b, 0, none⟩) 2 33] w (tInt (opS 10 [a, c]) w) := by
  have c0 : w.cell? ⟨b, 0, none⟩ = some (.int .i64 a) := by simpa using h.cell 0 a rfl
  have c1 : w.cell? ⟨b, 1, none⟩ = some (.int .i64 c) := by simpa using h.cell 1 c rfl
  have EE : Hid (opS 10 [a, c] = ((a.toNat &&& c.toNat : Nat) : Int)) := Lib.hid (by simp [opS, ix])
  clear h
  go_enter Tryz.func69, Tryz.ntmps69
  go_wp2
  go_quiet (fail)
  go_wp2
  go_ret
  exact tInt_mk (by rw [EE.out]; exact i64_and a0 a1 c0' c1') (drewB (Below.refl _ _))
set_option maxRecDepth 100000 in
set_option maxHeartbeats 2000000 in
theorem comp11 (a c : Int) (b : Nat) (w : World) (h : IntsAt w b 0 [a, c]) (a0 : 0 ≤ a) (a1 : a ≤ 65535) (c0' : 0 ≤ c) (c1' : c ≤ 65535) : Calls Tryz.prog 69 #[.int .i64 11, .slice (some ⟨b, 0, none⟩) 2 33] w (tInt (opS 11 [a, c]) w) := by
  have c0 : w.cell? ⟨b, 0, none⟩ = some (.int .i64 a) := by simpa using h.cell 0 a rfl
  have c1 : w.cell? ⟨b, 1, none⟩ = some (.int .i64 c) := by simpa using h.cell 1 c rfl
  have EE : Hid (opS 11 [a, c] = ((a.toNat ||| c.toNat : Nat) : Int)) := Lib.hid (by simp [opS, ix])
  clear h
  go_enter Tryz.func69, Tryz.ntmps69
  go_wp2
  go_quiet (fail)
  go_wp2
  go_ret
  exact tInt_mk (by rw [EE.out]; exact i64_or a0 a1 c0' c1') (drewB (Below.refl _ _))
set_option maxRecDepth 100000 in
set_option maxHeartbeats 2000000 in
theorem comp12 (a c : Int) (b : Nat) (w : World) (h : IntsAt w b 0 [a, c]) (a0 : 0 ≤ a) (a1 : a ≤ 65535) (c0' : 0 ≤ c) (c1' : c ≤ 65535) : Calls Tryz.prog 69 #[.int .i64 12, .slice (some ⟨b, 0, none⟩) 2 33] w (tInt (opS 12 [a, c]) w) := by
  have c0 : w.cell? ⟨b, 0, none⟩ = some (.int .i64 a) := by simpa using h.cell 0 a rfl
  have c1 : w.cell? ⟨b, 1, none⟩ = some (.int .i64 c) := by simpa using h.cell 1 c rfl
  have EE : Hid (opS 12 [a, c] = ((a.toNat ^^^ c.toNat : Nat) : Int)) := Lib.hid (by simp [opS, ix])
  clear h
  go_enter Tryz.func69, Tryz.ntmps69
  go_wp2
  go_quiet (fail)
  go_wp2
  go_ret
  exact tInt_mk (by rw [EE.out]; exact i64_xor a0 a1 c0' c1') (drewB (Below.refl _ _))
set_option maxRecDepth 100000 in
set_option maxHeartbeats 2000000 in
theorem comp15 (a c : Int) (b : Nat) (w : World) (h : IntsAt w b 0 [a, c]) : Calls Tryz.prog 69 #[.int .i64 15, .slice (some ⟨b, 0, none⟩) 2 33] w (tInt (opS 15 [a, c]) w) := by
  have c0 : w.cell? ⟨b, 0, none⟩ = some (.int .i64 a) := by simpa using h.cell 0 a rfl
  have c1 : w.cell? ⟨b, 1, none⟩ = some (.int .i64 c) := by simpa using h.cell 1 c rfl
  have TC : Hid (∀ x W, Calls Tryz.prog 88 #[.bool x] W fun e w' => e = .returned (.int .i64 (tr x)) ∧ W = w') := Lib.hid fun x W => truth_any x W
  have EE : Hid (opS 15 [a, c] = tr (decide (a = c))) := Lib.hid (by simp [opS, ix])
  clear h
  go_enter Tryz.func69, Tryz.ntmps69
  go_wp2
  go_quiet ((go_at_call 88; exact quietL (TC.out _ _)))
  go_wp2
  go_ret
  exact tInt_mk (by rw [EE.out] <;> rfl) (drewB (Below.refl _ _))
set_option maxRecDepth 100000 in
set_option maxHeartbeats 2000000 in
theorem comp16 (a c : Int) (b : Nat) (w : World) (h : IntsAt w b 0 [a, c]) : Calls Tryz.prog 69 #[.int .i64 16, .slice (some ⟨b, 0, none⟩) 2 33] w (tInt (opS 16 [a, c]) w) := by
  have c0 : w.cell? ⟨b, 0, none⟩ = some (.int .i64 a) := by simpa using h.cell 0 a rfl
  have c1 : w.cell? ⟨b, 1, none⟩ = some (.int .i64 c) := by simpa using h.cell 1 c rfl
  have TC : Hid (∀ x W, Calls Tryz.prog 88 #[.bool x] W fun e w' => e = .returned (.int .i64 (tr x)) ∧ W = w') := Lib.hid fun x W => truth_any x W
  have EE : Hid (opS 16 [a, c] = tr (!decide (a = c))) := Lib.hid (by simp [opS, ix])
  clear h
  go_enter Tryz.func69, Tryz.ntmps69
  go_wp2
  go_quiet ((go_at_call 88; exact quietL (TC.out _ _)))
  go_wp2
  go_ret
  exact tInt_mk (by rw [EE.out] <;> rfl) (drewB (Below.refl _ _))
set_option maxRecDepth 100000 in
set_option maxHeartbeats 2000000 in
theorem comp17 (a c : Int) (b : Nat) (w : World) (h : IntsAt w b 0 [a, c]) : Calls Tryz.prog 69 #[.int .i64 17, .slice (some ⟨b, 0, none⟩) 2 33] w (tInt (opS 17 [a, c]) w) := by
  have c0 : w.cell? ⟨b, 0, none⟩ = some (.int .i64 a) := by simpa using h.cell 0 a rfl
  have c1 : w.cell? ⟨b, 1, none⟩ = some (.int .i64 c) := by simpa using h.cell 1 c rfl
  have TC : Hid (∀ x W, Calls Tryz.prog 88 #[.bool x] W fun e w' => e = .returned (.int .i64 (tr x)) ∧ W = w') := Lib.hid fun x W => truth_any x W
  have EE : Hid (opS 17 [a, c] = tr (decide (a < c))) := Lib.hid (by simp [opS, ix])
  clear h
  go_enter Tryz.func69, Tryz.ntmps69
  go_wp2
  go_quiet ((go_at_call 88; exact quietL (TC.out _ _)))
  go_wp2
  go_ret
  exact tInt_mk (by rw [EE.out] <;> rfl) (drewB (Below.refl _ _))
set_option maxRecDepth 100000 in
set_option maxHeartbeats 2000000 in
theorem comp18 (a c : Int) (b : Nat) (w : World) (h : IntsAt w b 0 [a, c]) : Calls Tryz.prog 69 #[.int .i64 18, .slice (some ⟨b, 0, none⟩) 2 33] w (tInt (opS 18 [a, c]) w) := by
  have c0 : w.cell? ⟨b, 0, none⟩ = some (.int .i64 a) := by simpa using h.cell 0 a rfl
  have c1 : w.cell? ⟨b, 1, none⟩ = some (.int .i64 c) := by simpa using h.cell 1 c rfl
  have TC : Hid (∀ x W, Calls Tryz.prog 88 #[.bool x] W fun e w' => e = .returned (.int .i64 (tr x)) ∧ W = w') := Lib.hid fun x W => truth_any x W
  have EE : Hid (opS 18 [a, c] = tr (decide (a ≤ c))) := Lib.hid (by simp [opS, ix])
  clear h
  go_enter Tryz.func69, Tryz.ntmps69
  go_wp2
  go_quiet ((go_at_call 88; exact quietL (TC.out _ _)))
  go_wp2
  go_ret
  exact tInt_mk (by rw [EE.out] <;> rfl) (drewB (Below.refl _ _))
set_option maxRecDepth 100000 in
set_option maxHeartbeats 2000000 in
theorem comp19 (a c : Int) (b : Nat) (w : World) (h : IntsAt w b 0 [a, c]) : Calls Tryz.prog 69 #[.int .i64 19, .slice (some ⟨b, 0, none⟩) 2 33] w (tInt (opS 19 [a, c]) w) := by
  have c0 : w.cell? ⟨b, 0, none⟩ = some (.int .i64 a) := by simpa using h.cell 0 a rfl
  have c1 : w.cell? ⟨b, 1, none⟩ = some (.int .i64 c) := by simpa using h.cell 1 c rfl
  have TC : Hid (∀ x W, Calls Tryz.prog 88 #[.bool x] W fun e w' => e = .returned (.int .i64 (tr x)) ∧ W = w') := Lib.hid fun x W => truth_any x W
  have EE : Hid (opS 19 [a, c] = tr (!decide (a = 0) && !decide (c = 0))) := Lib.hid (by simp [opS, ix])
  clear h
  by_cases ha : a = 0
  · by_cases hc : c = 0
    · have EV : Hid (opS 19 [a, c] = tr false) := Lib.hid (by rw [EE.out]; simp [ha, hc])
      clear EE
      subst ha
      subst hc
      go_enter Tryz.func69, Tryz.ntmps69
      go_wp2_with (go_at_call 88; ((with_reducible refine (TC.out _ _).mono ?_); rintro e w1 ⟨rfl, rfl⟩))
      go_ret
      exact tInt_mk EV.out.symm (Below.refl _ _)
    · have EV : Hid (opS 19 [a, c] = tr false) := Lib.hid (by rw [EE.out]; simp [ha, hc])
      clear EE
      subst ha
      have hc1 : (c == 0) = false := by simpa using hc
      have hc2 : (c != 0) = true := by simpa using hc
      clear hc
      go_enter Tryz.func69, Tryz.ntmps69
      go_wp2_with (go_at_call 88; ((with_reducible refine (TC.out _ _).mono ?_); rintro e w1 ⟨rfl, rfl⟩))
      go_ret
      exact tInt_mk EV.out.symm (Below.refl _ _)
  · by_cases hc : c = 0
    · have EV : Hid (opS 19 [a, c] = tr false) := Lib.hid (by rw [EE.out]; simp [ha, hc])
      clear EE
      have ha1 : (a == 0) = false := by simpa using ha
      have ha2 : (a != 0) = true := by simpa using ha
      clear ha
      subst hc
      go_enter Tryz.func69, Tryz.ntmps69
      go_wp2_with (go_at_call 88; ((with_reducible refine (TC.out _ _).mono ?_); rintro e w1 ⟨rfl, rfl⟩))
      go_ret
      exact tInt_mk EV.out.symm (Below.refl _ _)
    · have EV : Hid (opS 19 [a, c] = tr true) := Lib.hid (by rw [EE.out]; simp [ha, hc])
      clear EE
      have ha1 : (a == 0) = false := by simpa using ha
      have ha2 : (a != 0) = true := by simpa using ha
      clear ha
      have hc1 : (c == 0) = false := by simpa using hc
      have hc2 : (c != 0) = true := by simpa using hc
      clear hc
      go_enter Tryz.func69, Tryz.ntmps69
      go_wp2_with (go_at_call 88; ((with_reducible refine (TC.out _ _).mono ?_); rintro e w1 ⟨rfl, rfl⟩))
      go_ret
      exact tInt_mk EV.out.symm (Below.refl _ _)
set_option maxRecDepth 100000 in
set_option maxHeartbeats 2000000 in
theorem comp20 (a c : Int) (b : Nat) (w : World) (h : IntsAt w b 0 [a, c]) : Calls Tryz.prog 69 #[.int .i64 20, .slice (some ⟨b, 0, none⟩) 2 33] w (tInt (opS 20 [a, c]) w) := by
  have c0 : w.cell? ⟨b, 0, none⟩ = some (.int .i64 a) := by simpa using h.cell 0 a rfl
  have c1 : w.cell? ⟨b, 1, none⟩ = some (.int .i64 c) := by simpa using h.cell 1 c rfl
  have TC : Hid (∀ x W, Calls Tryz.prog 88 #[.bool x] W fun e w' => e = .returned (.int .i64 (tr x)) ∧ W = w') := Lib.hid fun x W => truth_any x W
  have EE : Hid (opS 20 [a, c] = tr (!decide (a = 0) || !decide (c = 0))) := Lib.hid (by simp [opS, ix])
  clear h
  by_cases ha : a = 0
  · by_cases hc : c = 0
    · have EV : Hid (opS 20 [a, c] = tr false) := Lib.hid (by rw [EE.out]; simp [ha, hc])
      clear EE
      subst ha
      subst hc
      go_enter Tryz.func69, Tryz.ntmps69
      go_wp2_with (go_at_call 88; ((with_reducible refine (TC.out _ _).mono ?_); rintro e w1 ⟨rfl, rfl⟩))
      go_ret
      exact tInt_mk EV.out.symm (Below.refl _ _)
    · have EV : Hid (opS 20 [a, c] = tr true) := Lib.hid (by rw [EE.out]; simp [ha, hc])
      clear EE
      subst ha
      have hc1 : (c == 0) = false := by simpa using hc
      have hc2 : (c != 0) = true := by simpa using hc
      clear hc
      go_enter Tryz.func69, Tryz.ntmps69
      go_wp2_with (go_at_call 88; ((with_reducible refine (TC.out _ _).mono ?_); rintro e w1 ⟨rfl, rfl⟩))
      go_ret
      exact tInt_mk EV.out.symm (Below.refl _ _)
  · by_cases hc : c = 0
    · have EV : Hid (opS 20 [a, c] = tr true) := Lib.hid (by rw [EE.out]; simp [ha, hc])
      clear EE
      have ha1 : (a == 0) = false := by simpa using ha
      have ha2 : (a != 0) = true := by simpa using ha
      clear ha
      subst hc
      go_enter Tryz.func69, Tryz.ntmps69
      go_wp2_with (go_at_call 88; ((with_reducible refine (TC.out _ _).mono ?_); rintro e w1 ⟨rfl, rfl⟩))
      go_ret
      exact tInt_mk EV.out.symm (Below.refl _ _)
    · have EV : Hid (opS 20 [a, c] = tr true) := Lib.hid (by rw [EE.out]; simp [ha, hc])
      clear EE
      have ha1 : (a == 0) = false := by simpa using ha
      have ha2 : (a != 0) = true := by simpa using ha
      clear ha
      have hc1 : (c == 0) = false := by simpa using hc
      have hc2 : (c != 0) = true := by simpa using hc
      clear hc
      go_enter Tryz.func69, Tryz.ntmps69
      go_wp2_with (go_at_call 88; ((with_reducible refine (TC.out _ _).mono ?_); rintro e w1 ⟨rfl, rfl⟩))
      go_ret
      exact tInt_mk EV.out.symm (Below.refl _ _)
set_option maxRecDepth 100000 in
set_option maxHeartbeats 2000000 in
theorem comp21 (a c : Int) (b : Nat) (w : World) (h : IntsAt w b 0 [a, c]) : Calls Tryz.prog 69 #[.int .i64 21, .slice (some ⟨b, 0, none⟩) 2 33] w (tInt (opS 21 [a, c]) w) := by
  have c0 : w.cell? ⟨b, 0, none⟩ = some (.int .i64 a) := by simpa using h.cell 0 a rfl
  have c1 : w.cell? ⟨b, 1, none⟩ = some (.int .i64 c) := by simpa using h.cell 1 c rfl
  have TC : Hid (∀ x W, Calls Tryz.prog 88 #[.bool x] W fun e w' => e = .returned (.int .i64 (tr x)) ∧ W = w') := Lib.hid fun x W => truth_any x W
  have EE : Hid (opS 21 [a, c] = tr (decide (a = 0) || !decide (c = 0))) := Lib.hid (by simp [opS, ix])
  clear h
  by_cases ha : a = 0
  · by_cases hc : c = 0
    · have EV : Hid (opS 21 [a, c] = tr true) := Lib.hid (by rw [EE.out]; simp [ha, hc])
      clear EE
      subst ha
      subst hc
      go_enter Tryz.func69, Tryz.ntmps69
      go_wp2_with (go_at_call 88; ((with_reducible refine (TC.out _ _).mono ?_); rintro e w1 ⟨rfl, rfl⟩))
      go_ret
      exact tInt_mk EV.out.symm (Below.refl _ _)
    · have EV : Hid (opS 21 [a, c] = tr true) := Lib.hid (by rw [EE.out]; simp [ha, hc])
      clear EE
      subst ha
      have hc1 : (c == 0) = false := by simpa using hc
      have hc2 : (c != 0) = true := by simpa using hc
      clear hc
      go_enter Tryz.func69, Tryz.ntmps69
      go_wp2_with (go_at_call 88; ((with_reducible refine (TC.out _ _).mono ?_); rintro e w1 ⟨rfl, rfl⟩))
      go_ret
      exact tInt_mk EV.out.symm (Below.refl _ _)
  · by_cases hc : c = 0
    · have EV : Hid (opS 21 [a, c] = tr false) := Lib.hid (by rw [EE.out]; simp [ha, hc])
      clear EE
      have ha1 : (a == 0) = false := by simpa using ha
      have ha2 : (a != 0) = true := by simpa using ha
      clear ha
      subst hc
      go_enter Tryz.func69, Tryz.ntmps69
      go_wp2_with (go_at_call 88; ((with_reducible refine (TC.out _ _).mono ?_); rintro e w1 ⟨rfl, rfl⟩))
      go_ret
      exact tInt_mk EV.out.symm (Below.refl _ _)
    · have EV : Hid (opS 21 [a, c] = tr true) := Lib.hid (by rw [EE.out]; simp [ha, hc])
      clear EE
      have ha1 : (a == 0) = false := by simpa using ha
      have ha2 : (a != 0) = true := by simpa using ha
      clear ha
      have hc1 : (c == 0) = false := by simpa using hc
      have hc2 : (c != 0) = true := by simpa using hc
      clear hc
      go_enter Tryz.func69, Tryz.ntmps69
      go_wp2_with (go_at_call 88; ((with_reducible refine (TC.out _ _).mono ?_); rintro e w1 ⟨rfl, rfl⟩))
      go_ret
      exact tInt_mk EV.out.symm (Below.refl _ _)
set_option maxRecDepth 100000 in
set_option maxHeartbeats 2000000 in
theorem comp22 (a c d : Int) (b : Nat) (w : World) (h : IntsAt w b 0 [a, c, d]) : Calls Tryz.prog 69 #[.int .i64 22, .slice (some ⟨b, 0, none⟩) 3 33] w (tInt (opS 22 [a, c, d]) w) := by
  have c0 : w.cell? ⟨b, 0, none⟩ = some (.int .i64 a) := by simpa using h.cell 0 a rfl
  have c1 : w.cell? ⟨b, 1, none⟩ = some (.int .i64 c) := by simpa using h.cell 1 c rfl
  have c2 : w.cell? ⟨b, 2, none⟩ = some (.int .i64 d) := by simpa using h.cell 2 d rfl
  have EE : Hid (opS 22 [a, c, d] = if a = 0 then d else c) := Lib.hid (by simp [opS, ix])
  clear h
  by_cases ha : a = 0
  · rw [if_pos ha] at EE
    subst ha
    go_enter Tryz.func69, Tryz.ntmps69
    go_wp2
    go_ret
    exact tInt_mk (by rw [EE.out]) (Below.refl _ _)
  · rw [if_neg ha] at EE
    have ha2 : (a != 0) = true := by simpa using ha
    clear ha
    go_enter Tryz.func69, Tryz.ntmps69
    go_wp2
    go_ret
    exact tInt_mk (by rw [EE.out]) (Below.refl _ _)
set_option maxRecDepth 100000 in
set_option maxHeartbeats 2000000 in
theorem comp23 (a : Int) (l : List Int) (b : Nat) (w : World) (h : IntsAt w b 0 (a :: l)) (hl : l.length ≤ 32) (h2 : l.length % 2 = 0) :
    Calls Tryz.prog 69 #[.int .i64 23, .slice (some ⟨b, 0, none⟩) (l.length + 1) 33] w (tInt (opS 23 (a :: l)) w) := by
  have c0 : w.cell? ⟨b, 0, none⟩ = some (.int .i64 a) := by simpa using h.cell 0 a rfl
  have EE : Hid (opS 23 (a :: l) = tr (insB a l)) := Lib.hid (by simp [opS, ix])
  have ht := h.tail
  have TC : Hid (∀ x W, Calls Tryz.prog 88 #[.bool x] W fun e w' => e = .returned (.int .i64 (tr x)) ∧ W = w') := Lib.hid fun x W => truth_any x W
  have IC : Hid (∀ n, Calls Tryz.prog 96 #[.int .i64 a, .slice (some ⟨b, 1, none⟩) l.length 32] (w.drewN n) fun e w' => e = .returned (.bool (insB a l)) ∧ w.drewN n = w') := Lib.hid fun n => inside_any a l b 1 32 (w.drewN n) (by simpa using ht.later (drewB (Below.refl _ _))) (by omega) h2 hl
  clear h ht
  generalize insB a l = I at *
  generalize l.length = K at *
  go_enter Tryz.func69, Tryz.ntmps69
  go_wp2
  go_quiet (first | ((go_at_call 88; exact quietL (TC.out _ _))) | ((go_at_call 96; exact quietL (IC.out _))))
  go_wp2
  go_ret
  exact tInt_mk (by rw [EE.out]) (drewB (Below.refl _ _))
end Go.Proofs.YtdiackcefojfkaaGreatDoor.ExW
