/-
  What the reference's 'Parse' of a rational number returns, for every text of at most 1000 bytes: one walk a class.
-/
import Derived.Test.YtjighmmfaedgbaaDoorRatRefP
import Derived.Test.YtjighmmfaedgbaaDoorRatFmtR
import Derived.Test.YtjighmmfaedgbaaDoorRatPar
namespace Go.Proofs.YtjighmmfaedgbaaDoor.RatW
open Go Go.RowKit Go.Proofs.YtjighmmfaedgbaaDoor.RatM Go.Proofs.YtjighmmfaedgbaaDoor.NumM

set_option maxHeartbeats 400000 in
theorem slashRef (s : ByteArray) (w : World) (hs : s.size ≤ 1000) :
    Calls Tryd.prog 53 #[.string s] w fun e w' => e = .returned (.int .i64 (slashL s.data.toList : Nat)) ∧ w = w' := by
  have hl : s.data.toList.length = s.size := by simp
  go_enter Tryd.func53, Tryd.ntmps53
  go_wp2
  go_loop [3] (fun i => ∃ k : Nat, k ≤ s.size ∧ i = .int .i64 k ∧ ∀ j, j < k → s.data.toList[j]? ≠ some 47) (fun i => s.size - (intOf i).toNat)
  case atStart => exact ⟨0, Nat.zero_le _, rfl, fun j hj => absurd hj (Nat.not_lt_zero j)⟩
  case round =>
    obtain ⟨k, hk, rfl, ha⟩ := hrel
    have HA := Lib.hid ha
    have HL := Lib.hid hl
    clear ha hl
    by_cases hlt : k < s.size
    · have hx : s.data.toList[k]? = some s[k] := by
        rw [List.getElem?_eq_getElem (by rw [HL.out]; exact hlt)]; rfl
      by_cases g : s[k].toNat = 47
      · have c1 : ((s[k].toNat : Int) == 47) = true := by simp; omega
        have FIN := Lib.hid (slash_of HA.out (.inr (hx.trans (by rw [show s[k] = 47 from by rw [← UInt8.toNat_inj, g]; rfl]))))
        clear hx g
        go_wp2
        go_ret
        exact ⟨by rw [FIN.out]; rfl, rfl⟩
      · have c1 : ((s[k].toNat : Int) == 47) = false := by simp; omega
        have NX : Hid (∀ j, j < k + 1 → s.data.toList[j]? ≠ some 47) := Lib.hid (fun j hj => by
          by_cases e : j = k
          · rw [e, hx]; intro y; exact g (by rw [Option.some.inj y]; rfl)
          · exact HA.out j (by omega))
        clear hx g
        go_wp2
        go_round
        case rel => exact ⟨k + 1, by omega, by go_num, NX.out⟩
        case measure => simp [intOf]; omega
    · have FIN := Lib.hid (slash_of HA.out (.inl (show k = s.data.toList.length by rw [HL.out]; omega)))
      have e : k = s.size := by omega
      clear hlt hk
      subst e
      go_wp2
      go_ret
      exact ⟨by rw [FIN.out]; rfl, rfl⟩

set_option maxRecDepth 100000 in
set_option maxHeartbeats 8000000 in
theorem parr_a1 (s : ByteArray) (K : Nat) (n d g : Int) (w : World) (hs : s.size ≤ 1000) (hlt : K + 1 < s.size) (hc : ((s[K + 1].toNat : Int) == 45) = true)
    (CS : ∀ w, Calls Tryd.prog 53 #[.string s] w fun E w' => E = .returned (.int .i64 (K : Nat)) ∧ w = w')
    (CT : ∀ w, Calls Tryd.prog 54 #[.string (s.extract 0 K)] w fun E w' => E = .returned (.tuple #[.int .i64 n, .int .i64 5]) ∧ w = w')
    (CB : ∀ w, Calls Tryd.prog 54 #[.string (s.extract (K + 1) s.size)] w fun E w' => E = .returned (.tuple #[.int .i64 d, .int .i64 g]) ∧ w = w') :
    Calls Tryd.prog 33 #[.string s] w (tRes w (0, 0, 5)) := by
  have CS := Lib.hid CS
  have CT := Lib.hid CT
  have CB := Lib.hid CB
  have kb0 : (0 : Int) ≤ (K : Int) := by omega
  have kb1 : (K : Int) ≤ (s.size : Int) := by omega
  have kb2 : (K : Int) ≤ 1000 := by omega
  have kb3 : (K : Int) + 1 ≤ (s.size : Int) := by omega
  have kb4 : ((K : Int) + 1).toNat = K + 1 := by omega
  have kb5 : (K : Int) < (s.size : Int) := by omega
  have kb6 : (K : Int) + 1 < (s.size : Int) := by omega
  go_enter Tryd.func33, Tryd.ntmps33
  go_wp2_with (first
    | (go_at_call 53; ((with_reducible refine (CS.out _).mono ?_); rintro E w' ⟨rfl, rfl⟩))
    | (go_at_call 54; ((with_reducible refine (CT.out _).mono ?_); rintro E w' ⟨rfl, rfl⟩))
    | (go_at_call 54; ((with_reducible refine (CB.out _).mono ?_); rintro E w' ⟨rfl, rfl⟩)))
  refine bodyPost_ret (v := .tuple #[.agg #[.int .i64 0, .int .i64 0], .int .i64 5]) (by simp [results, Tryd.results33, go_sem]) rfl ?_
  exact ⟨rfl, (Below.refl w.heap.size w).alloc (Nat.le_refl _) _⟩
set_option maxRecDepth 100000 in
set_option maxHeartbeats 8000000 in
theorem parr_a2 (s : ByteArray) (K : Nat) (n e d g : Int) (w : World) (hs : s.size ≤ 1000) (hlt : K + 1 < s.size) (hc : ((s[K + 1].toNat : Int) == 45) = true) (he : ¬ e = 5)
    (CS : ∀ w, Calls Tryd.prog 53 #[.string s] w fun E w' => E = .returned (.int .i64 (K : Nat)) ∧ w = w')
    (CT : ∀ w, Calls Tryd.prog 54 #[.string (s.extract 0 K)] w fun E w' => E = .returned (.tuple #[.int .i64 n, .int .i64 e]) ∧ w = w')
    (CB : ∀ w, Calls Tryd.prog 54 #[.string (s.extract (K + 1) s.size)] w fun E w' => E = .returned (.tuple #[.int .i64 d, .int .i64 g]) ∧ w = w') :
    Calls Tryd.prog 33 #[.string s] w (tRes w (0, 0, 5)) := by
  have CS := Lib.hid CS
  have CT := Lib.hid CT
  have CB := Lib.hid CB
  have he2 : (e == 5) = false := by simp [he]
  have kb0 : (0 : Int) ≤ (K : Int) := by omega
  have kb1 : (K : Int) ≤ (s.size : Int) := by omega
  have kb2 : (K : Int) ≤ 1000 := by omega
  have kb3 : (K : Int) + 1 ≤ (s.size : Int) := by omega
  have kb4 : ((K : Int) + 1).toNat = K + 1 := by omega
  have kb5 : (K : Int) < (s.size : Int) := by omega
  have kb6 : (K : Int) + 1 < (s.size : Int) := by omega
  go_enter Tryd.func33, Tryd.ntmps33
  go_wp2_with (first
    | (go_at_call 53; ((with_reducible refine (CS.out _).mono ?_); rintro E w' ⟨rfl, rfl⟩))
    | (go_at_call 54; ((with_reducible refine (CT.out _).mono ?_); rintro E w' ⟨rfl, rfl⟩))
    | (go_at_call 54; ((with_reducible refine (CB.out _).mono ?_); rintro E w' ⟨rfl, rfl⟩)))
  refine bodyPost_ret (v := .tuple #[.agg #[.int .i64 0, .int .i64 0], .int .i64 5]) (by simp [results, Tryd.results33, go_sem]) rfl ?_
  exact ⟨rfl, (Below.refl w.heap.size w).alloc (Nat.le_refl _) _⟩
set_option maxRecDepth 100000 in
set_option maxHeartbeats 8000000 in
theorem parr_b1 (s : ByteArray) (K : Nat) (n d g : Int) (w : World) (hs : s.size ≤ 1000) (hlt : K + 1 < s.size) (hc : ((s[K + 1].toNat : Int) == 45) = false)
    (CS : ∀ w, Calls Tryd.prog 53 #[.string s] w fun E w' => E = .returned (.int .i64 (K : Nat)) ∧ w = w')
    (CT : ∀ w, Calls Tryd.prog 54 #[.string (s.extract 0 K)] w fun E w' => E = .returned (.tuple #[.int .i64 n, .int .i64 5]) ∧ w = w')
    (CB : ∀ w, Calls Tryd.prog 54 #[.string (s.extract (K + 1) s.size)] w fun E w' => E = .returned (.tuple #[.int .i64 d, .int .i64 g]) ∧ w = w') :
    Calls Tryd.prog 33 #[.string s] w (tRes w (0, 0, 5)) := by
  have CS := Lib.hid CS
  have CT := Lib.hid CT
  have CB := Lib.hid CB
  have kb0 : (0 : Int) ≤ (K : Int) := by omega
  have kb1 : (K : Int) ≤ (s.size : Int) := by omega
  have kb2 : (K : Int) ≤ 1000 := by omega
  have kb3 : (K : Int) + 1 ≤ (s.size : Int) := by omega
  have kb4 : ((K : Int) + 1).toNat = K + 1 := by omega
  have kb5 : (K : Int) < (s.size : Int) := by omega
  have kb6 : (K : Int) + 1 < (s.size : Int) := by omega
  go_enter Tryd.func33, Tryd.ntmps33
  go_wp2_with (first
    | (go_at_call 53; ((with_reducible refine (CS.out _).mono ?_); rintro E w' ⟨rfl, rfl⟩))
    | (go_at_call 54; ((with_reducible refine (CT.out _).mono ?_); rintro E w' ⟨rfl, rfl⟩))
    | (go_at_call 54; ((with_reducible refine (CB.out _).mono ?_); rintro E w' ⟨rfl, rfl⟩)))
  refine bodyPost_ret (v := .tuple #[.agg #[.int .i64 0, .int .i64 0], .int .i64 5]) (by simp [results, Tryd.results33, go_sem]) rfl ?_
  exact ⟨rfl, (Below.refl w.heap.size w).alloc (Nat.le_refl _) _⟩
set_option maxRecDepth 100000 in
set_option maxHeartbeats 8000000 in
theorem parr_b2 (s : ByteArray) (K : Nat) (n e d : Int) (w : World) (hs : s.size ≤ 1000) (hlt : K + 1 < s.size) (hc : ((s[K + 1].toNat : Int) == 45) = false) (he : ¬ e = 5)
    (CS : ∀ w, Calls Tryd.prog 53 #[.string s] w fun E w' => E = .returned (.int .i64 (K : Nat)) ∧ w = w')
    (CT : ∀ w, Calls Tryd.prog 54 #[.string (s.extract 0 K)] w fun E w' => E = .returned (.tuple #[.int .i64 n, .int .i64 e]) ∧ w = w')
    (CB : ∀ w, Calls Tryd.prog 54 #[.string (s.extract (K + 1) s.size)] w fun E w' => E = .returned (.tuple #[.int .i64 d, .int .i64 5]) ∧ w = w') :
    Calls Tryd.prog 33 #[.string s] w (tRes w (0, 0, 5)) := by
  have CS := Lib.hid CS
  have CT := Lib.hid CT
  have CB := Lib.hid CB
  have he2 : (e == 5) = false := by simp [he]
  have kb0 : (0 : Int) ≤ (K : Int) := by omega
  have kb1 : (K : Int) ≤ (s.size : Int) := by omega
  have kb2 : (K : Int) ≤ 1000 := by omega
  have kb3 : (K : Int) + 1 ≤ (s.size : Int) := by omega
  have kb4 : ((K : Int) + 1).toNat = K + 1 := by omega
  have kb5 : (K : Int) < (s.size : Int) := by omega
  have kb6 : (K : Int) + 1 < (s.size : Int) := by omega
  go_enter Tryd.func33, Tryd.ntmps33
  go_wp2_with (first
    | (go_at_call 53; ((with_reducible refine (CS.out _).mono ?_); rintro E w' ⟨rfl, rfl⟩))
    | (go_at_call 54; ((with_reducible refine (CT.out _).mono ?_); rintro E w' ⟨rfl, rfl⟩))
    | (go_at_call 54; ((with_reducible refine (CB.out _).mono ?_); rintro E w' ⟨rfl, rfl⟩)))
  refine bodyPost_ret (v := .tuple #[.agg #[.int .i64 0, .int .i64 0], .int .i64 5]) (by simp [results, Tryd.results33, go_sem]) rfl ?_
  exact ⟨rfl, (Below.refl w.heap.size w).alloc (Nat.le_refl _) _⟩
set_option maxRecDepth 100000 in
set_option maxHeartbeats 8000000 in
theorem parr_b3 (s : ByteArray) (K : Nat) (n e d g : Int) (w : World) (hs : s.size ≤ 1000) (hlt : K + 1 < s.size) (hc : ((s[K + 1].toNat : Int) == 45) = false) (he : ¬ e = 5) (hz : ¬ e = 0) (hg : ¬ g = 5)
    (CS : ∀ w, Calls Tryd.prog 53 #[.string s] w fun E w' => E = .returned (.int .i64 (K : Nat)) ∧ w = w')
    (CT : ∀ w, Calls Tryd.prog 54 #[.string (s.extract 0 K)] w fun E w' => E = .returned (.tuple #[.int .i64 n, .int .i64 e]) ∧ w = w')
    (CB : ∀ w, Calls Tryd.prog 54 #[.string (s.extract (K + 1) s.size)] w fun E w' => E = .returned (.tuple #[.int .i64 d, .int .i64 g]) ∧ w = w') :
    Calls Tryd.prog 33 #[.string s] w (tRes w (0, 0, 3)) := by
  have CS := Lib.hid CS
  have CT := Lib.hid CT
  have CB := Lib.hid CB
  have he2 : (e == 5) = false := by simp [he]
  have hz2 : (e == 0) = false := by simp [hz]
  have hz3 : (e != 0) = true := by simp [hz]
  have hg2 : (g == 5) = false := by simp [hg]
  have kb0 : (0 : Int) ≤ (K : Int) := by omega
  have kb1 : (K : Int) ≤ (s.size : Int) := by omega
  have kb2 : (K : Int) ≤ 1000 := by omega
  have kb3 : (K : Int) + 1 ≤ (s.size : Int) := by omega
  have kb4 : ((K : Int) + 1).toNat = K + 1 := by omega
  have kb5 : (K : Int) < (s.size : Int) := by omega
  have kb6 : (K : Int) + 1 < (s.size : Int) := by omega
  go_enter Tryd.func33, Tryd.ntmps33
  go_wp2_with (first
    | (go_at_call 53; ((with_reducible refine (CS.out _).mono ?_); rintro E w' ⟨rfl, rfl⟩))
    | (go_at_call 54; ((with_reducible refine (CT.out _).mono ?_); rintro E w' ⟨rfl, rfl⟩))
    | (go_at_call 54; ((with_reducible refine (CB.out _).mono ?_); rintro E w' ⟨rfl, rfl⟩)))
  refine bodyPost_ret (v := .tuple #[.agg #[.int .i64 0, .int .i64 0], .int .i64 3]) (by simp [results, Tryd.results33, go_sem]) rfl ?_
  exact ⟨rfl, (Below.refl w.heap.size w).alloc (Nat.le_refl _) _⟩
set_option maxRecDepth 100000 in
set_option maxHeartbeats 8000000 in
theorem parr_b4 (s : ByteArray) (K : Nat) (n d g : Int) (w : World) (hs : s.size ≤ 1000) (hlt : K + 1 < s.size) (hc : ((s[K + 1].toNat : Int) == 45) = false) (hg : ¬ g = 5) (hy : ¬ g = 0)
    (CS : ∀ w, Calls Tryd.prog 53 #[.string s] w fun E w' => E = .returned (.int .i64 (K : Nat)) ∧ w = w')
    (CT : ∀ w, Calls Tryd.prog 54 #[.string (s.extract 0 K)] w fun E w' => E = .returned (.tuple #[.int .i64 n, .int .i64 0]) ∧ w = w')
    (CB : ∀ w, Calls Tryd.prog 54 #[.string (s.extract (K + 1) s.size)] w fun E w' => E = .returned (.tuple #[.int .i64 d, .int .i64 g]) ∧ w = w') :
    Calls Tryd.prog 33 #[.string s] w (tRes w (0, 0, 3)) := by
  have CS := Lib.hid CS
  have CT := Lib.hid CT
  have CB := Lib.hid CB
  have hg2 : (g == 5) = false := by simp [hg]
  have hy2 : (g == 0) = false := by simp [hy]
  have hy3 : (g != 0) = true := by simp [hy]
  have kb0 : (0 : Int) ≤ (K : Int) := by omega
  have kb1 : (K : Int) ≤ (s.size : Int) := by omega
  have kb2 : (K : Int) ≤ 1000 := by omega
  have kb3 : (K : Int) + 1 ≤ (s.size : Int) := by omega
  have kb4 : ((K : Int) + 1).toNat = K + 1 := by omega
  have kb5 : (K : Int) < (s.size : Int) := by omega
  have kb6 : (K : Int) + 1 < (s.size : Int) := by omega
  go_enter Tryd.func33, Tryd.ntmps33
  go_wp2_with (first
    | (go_at_call 53; ((with_reducible refine (CS.out _).mono ?_); rintro E w' ⟨rfl, rfl⟩))
    | (go_at_call 54; ((with_reducible refine (CT.out _).mono ?_); rintro E w' ⟨rfl, rfl⟩))
    | (go_at_call 54; ((with_reducible refine (CB.out _).mono ?_); rintro E w' ⟨rfl, rfl⟩)))
  refine bodyPost_ret (v := .tuple #[.agg #[.int .i64 0, .int .i64 0], .int .i64 3]) (by simp [results, Tryd.results33, go_sem]) rfl ?_
  exact ⟨rfl, (Below.refl w.heap.size w).alloc (Nat.le_refl _) _⟩
set_option maxRecDepth 100000 in
set_option maxHeartbeats 8000000 in
theorem parr_b5 (s : ByteArray) (K : Nat) (n d : Int) (w : World) (hs : s.size ≤ 1000) (hlt : K + 1 < s.size) (hc : ((s[K + 1].toNat : Int) == 45) = false) (hn : i64 n) (hd : i64 d) (hf : fmtS n d = s.data.toList)
    (CS : ∀ w, Calls Tryd.prog 53 #[.string s] w fun E w' => E = .returned (.int .i64 (K : Nat)) ∧ w = w')
    (CT : ∀ w, Calls Tryd.prog 54 #[.string (s.extract 0 K)] w fun E w' => E = .returned (.tuple #[.int .i64 n, .int .i64 0]) ∧ w = w')
    (CB : ∀ w, Calls Tryd.prog 54 #[.string (s.extract (K + 1) s.size)] w fun E w' => E = .returned (.tuple #[.int .i64 d, .int .i64 0]) ∧ w = w') :
    Calls Tryd.prog 33 #[.string s] w (tRes w (n, d, 0)) := by
  have CS := Lib.hid CS
  have CT := Lib.hid CT
  have CB := Lib.hid CB
  have kb0 : (0 : Int) ≤ (K : Int) := by omega
  have kb1 : (K : Int) ≤ (s.size : Int) := by omega
  have kb2 : (K : Int) ≤ 1000 := by omega
  have kb3 : (K : Int) + 1 ≤ (s.size : Int) := by omega
  have kb4 : ((K : Int) + 1).toNat = K + 1 := by omega
  have kb5 : (K : Int) < (s.size : Int) := by omega
  have kb6 : (K : Int) + 1 < (s.size : Int) := by omega
  obtain ⟨F, hF⟩ : ∃ F, bs (fmtS n d) = F := ⟨_, rfl⟩
  have FM : ∀ w, Calls Tryd.prog 31 #[rv n d] w fun E w' => E = .returned (.string F) ∧ Below w.heap.size w w' := fun w => by
    have q := formatRef n d w hn.1 hn.2 hd.1 hd.2
    unfold tStr at q
    rw [hF] at q
    exact q
  have FM := Lib.hid FM
  have hb : (F.toList == s.toList) = true := by
    rw [← hF, Lib.toList_data, Lib.toList_data]
    simpa using hf
  clear hf hF
  go_enter Tryd.func33, Tryd.ntmps33
  go_wp2_with (first
    | (go_at_call 53; ((with_reducible refine (CS.out _).mono ?_); rintro E w' ⟨rfl, rfl⟩))
    | (go_at_call 54; ((with_reducible refine (CT.out _).mono ?_); rintro E w' ⟨rfl, rfl⟩))
    | (go_at_call 54; ((with_reducible refine (CB.out _).mono ?_); rintro E w' ⟨rfl, rfl⟩))
    | (go_at_call 31; ((with_reducible refine (FM.out _).mono ?_); rintro E w4 ⟨rfl, hb4⟩; have TA := Lib.hid (((Two.new w (.int .i64 0) (.int .i64 0) 23).alloc _).stay hb4); have TB := two_new hb4; rw [alloc_size] at TB; have B4 := Lib.hid (below_new (below_new hb4)); have c0 := TA.out.c0; have c1 := TA.out.c1; have f0 := TA.out.f0; have f1 := TA.out.f1; have lt := TA.out.lt; have k0 := TB.c0; have k1 := TB.c1; clear TB; clear hb4)))
  refine bodyPost_ret (v := .tuple #[.agg #[.int .i64 n, .int .i64 d], .int .i64 0]) (by simp [results, Tryd.results33, go_sem, c0, c1]) rfl ?_
  exact ⟨rfl, (B4.out.setCell (Nat.le_refl _) _).setCell (Nat.le_refl _) _⟩
set_option maxRecDepth 100000 in
set_option maxHeartbeats 8000000 in
theorem parr_b6 (s : ByteArray) (K : Nat) (n d : Int) (w : World) (hs : s.size ≤ 1000) (hlt : K + 1 < s.size) (hc : ((s[K + 1].toNat : Int) == 45) = false) (hn : i64 n) (hd : i64 d) (hf : ¬ fmtS n d = s.data.toList)
    (CS : ∀ w, Calls Tryd.prog 53 #[.string s] w fun E w' => E = .returned (.int .i64 (K : Nat)) ∧ w = w')
    (CT : ∀ w, Calls Tryd.prog 54 #[.string (s.extract 0 K)] w fun E w' => E = .returned (.tuple #[.int .i64 n, .int .i64 0]) ∧ w = w')
    (CB : ∀ w, Calls Tryd.prog 54 #[.string (s.extract (K + 1) s.size)] w fun E w' => E = .returned (.tuple #[.int .i64 d, .int .i64 0]) ∧ w = w') :
    Calls Tryd.prog 33 #[.string s] w (tRes w (0, 0, 5)) := by
  have CS := Lib.hid CS
  have CT := Lib.hid CT
  have CB := Lib.hid CB
  have kb0 : (0 : Int) ≤ (K : Int) := by omega
  have kb1 : (K : Int) ≤ (s.size : Int) := by omega
  have kb2 : (K : Int) ≤ 1000 := by omega
  have kb3 : (K : Int) + 1 ≤ (s.size : Int) := by omega
  have kb4 : ((K : Int) + 1).toNat = K + 1 := by omega
  have kb5 : (K : Int) < (s.size : Int) := by omega
  have kb6 : (K : Int) + 1 < (s.size : Int) := by omega
  obtain ⟨F, hF⟩ : ∃ F, bs (fmtS n d) = F := ⟨_, rfl⟩
  have FM : ∀ w, Calls Tryd.prog 31 #[rv n d] w fun E w' => E = .returned (.string F) ∧ Below w.heap.size w w' := fun w => by
    have q := formatRef n d w hn.1 hn.2 hd.1 hd.2
    unfold tStr at q
    rw [hF] at q
    exact q
  have FM := Lib.hid FM
  have hb : (F.toList == s.toList) = false := by
    rw [← hF, Lib.toList_data, Lib.toList_data]
    simpa using hf
  clear hf hF
  go_enter Tryd.func33, Tryd.ntmps33
  go_wp2_with (first
    | (go_at_call 53; ((with_reducible refine (CS.out _).mono ?_); rintro E w' ⟨rfl, rfl⟩))
    | (go_at_call 54; ((with_reducible refine (CT.out _).mono ?_); rintro E w' ⟨rfl, rfl⟩))
    | (go_at_call 54; ((with_reducible refine (CB.out _).mono ?_); rintro E w' ⟨rfl, rfl⟩))
    | (go_at_call 31; ((with_reducible refine (FM.out _).mono ?_); rintro E w4 ⟨rfl, hb4⟩; have TA := Lib.hid (((Two.new w (.int .i64 0) (.int .i64 0) 23).alloc _).stay hb4); have TB := two_new hb4; rw [alloc_size] at TB; have B4 := Lib.hid (below_new (below_new hb4)); have c0 := TA.out.c0; have c1 := TA.out.c1; have f0 := TA.out.f0; have f1 := TA.out.f1; have lt := TA.out.lt; have k0 := TB.c0; have k1 := TB.c1; clear TB; clear hb4)))
  refine bodyPost_ret (v := .tuple #[.agg #[.int .i64 0, .int .i64 0], .int .i64 5]) (by simp [results, Tryd.results33, go_sem, c0, c1]) rfl ?_
  exact ⟨rfl, (B4.out.setCell (Nat.le_refl _) _).setCell (Nat.le_refl _) _⟩
set_option maxRecDepth 100000 in
set_option maxHeartbeats 8000000 in
theorem parr_c1 (s : ByteArray) (K : Nat) (n d : Int) (w : World) (hs : s.size ≤ 1000) (hlt : K + 1 = s.size)
    (CS : ∀ w, Calls Tryd.prog 53 #[.string s] w fun E w' => E = .returned (.int .i64 (K : Nat)) ∧ w = w')
    (CT : ∀ w, Calls Tryd.prog 54 #[.string (s.extract 0 K)] w fun E w' => E = .returned (.tuple #[.int .i64 n, .int .i64 5]) ∧ w = w')
    (CB : ∀ w, Calls Tryd.prog 54 #[.string (s.extract (K + 1) s.size)] w fun E w' => E = .returned (.tuple #[.int .i64 d, .int .i64 5]) ∧ w = w') :
    Calls Tryd.prog 33 #[.string s] w (tRes w (0, 0, 5)) := by
  have CS := Lib.hid CS
  have CT := Lib.hid CT
  have CB := Lib.hid CB
  have kb0 : (0 : Int) ≤ (K : Int) := by omega
  have kb1 : (K : Int) ≤ (s.size : Int) := by omega
  have kb2 : (K : Int) ≤ 1000 := by omega
  have kb3 : (K : Int) + 1 ≤ (s.size : Int) := by omega
  have kb4 : ((K : Int) + 1).toNat = K + 1 := by omega
  have kb5 : (K : Int) < (s.size : Int) := by omega
  have kb6 : ¬ (K : Int) + 1 < (s.size : Int) := by omega
  clear hlt
  go_enter Tryd.func33, Tryd.ntmps33
  go_wp2_with (first
    | (go_at_call 53; ((with_reducible refine (CS.out _).mono ?_); rintro E w' ⟨rfl, rfl⟩))
    | (go_at_call 54; ((with_reducible refine (CT.out _).mono ?_); rintro E w' ⟨rfl, rfl⟩))
    | (go_at_call 54; ((with_reducible refine (CB.out _).mono ?_); rintro E w' ⟨rfl, rfl⟩)))
  refine bodyPost_ret (v := .tuple #[.agg #[.int .i64 0, .int .i64 0], .int .i64 5]) (by simp [results, Tryd.results33, go_sem]) rfl ?_
  exact ⟨rfl, (Below.refl w.heap.size w).alloc (Nat.le_refl _) _⟩
set_option maxRecDepth 100000 in
set_option maxHeartbeats 8000000 in
theorem parr_c2 (s : ByteArray) (K : Nat) (n e d : Int) (w : World) (hs : s.size ≤ 1000) (hlt : K + 1 = s.size) (he : ¬ e = 5)
    (CS : ∀ w, Calls Tryd.prog 53 #[.string s] w fun E w' => E = .returned (.int .i64 (K : Nat)) ∧ w = w')
    (CT : ∀ w, Calls Tryd.prog 54 #[.string (s.extract 0 K)] w fun E w' => E = .returned (.tuple #[.int .i64 n, .int .i64 e]) ∧ w = w')
    (CB : ∀ w, Calls Tryd.prog 54 #[.string (s.extract (K + 1) s.size)] w fun E w' => E = .returned (.tuple #[.int .i64 d, .int .i64 5]) ∧ w = w') :
    Calls Tryd.prog 33 #[.string s] w (tRes w (0, 0, 5)) := by
  have CS := Lib.hid CS
  have CT := Lib.hid CT
  have CB := Lib.hid CB
  have he2 : (e == 5) = false := by simp [he]
  have kb0 : (0 : Int) ≤ (K : Int) := by omega
  have kb1 : (K : Int) ≤ (s.size : Int) := by omega
  have kb2 : (K : Int) ≤ 1000 := by omega
  have kb3 : (K : Int) + 1 ≤ (s.size : Int) := by omega
  have kb4 : ((K : Int) + 1).toNat = K + 1 := by omega
  have kb5 : (K : Int) < (s.size : Int) := by omega
  have kb6 : ¬ (K : Int) + 1 < (s.size : Int) := by omega
  clear hlt
  go_enter Tryd.func33, Tryd.ntmps33
  go_wp2_with (first
    | (go_at_call 53; ((with_reducible refine (CS.out _).mono ?_); rintro E w' ⟨rfl, rfl⟩))
    | (go_at_call 54; ((with_reducible refine (CT.out _).mono ?_); rintro E w' ⟨rfl, rfl⟩))
    | (go_at_call 54; ((with_reducible refine (CB.out _).mono ?_); rintro E w' ⟨rfl, rfl⟩)))
  refine bodyPost_ret (v := .tuple #[.agg #[.int .i64 0, .int .i64 0], .int .i64 5]) (by simp [results, Tryd.results33, go_sem]) rfl ?_
  exact ⟨rfl, (Below.refl w.heap.size w).alloc (Nat.le_refl _) _⟩
set_option maxRecDepth 100000 in
set_option maxHeartbeats 8000000 in
theorem parr_d1 (s : ByteArray) (K : Nat) (n : Int) (w : World) (hs : s.size ≤ 1000) (hlt : K = s.size)
    (CS : ∀ w, Calls Tryd.prog 53 #[.string s] w fun E w' => E = .returned (.int .i64 (K : Nat)) ∧ w = w')
    (CT : ∀ w, Calls Tryd.prog 54 #[.string (s.extract 0 K)] w fun E w' => E = .returned (.tuple #[.int .i64 n, .int .i64 5]) ∧ w = w') :
    Calls Tryd.prog 33 #[.string s] w (tRes w (0, 0, 5)) := by
  have CS := Lib.hid CS
  have CT := Lib.hid CT
  have kb0 : (0 : Int) ≤ (K : Int) := by omega
  have kb1 : (K : Int) ≤ (s.size : Int) := by omega
  have kb2 : (K : Int) ≤ 1000 := by omega
  have kb5 : ¬ (K : Int) < (s.size : Int) := by omega
  clear hlt
  go_enter Tryd.func33, Tryd.ntmps33
  go_wp2_with (first
    | (go_at_call 53; ((with_reducible refine (CS.out _).mono ?_); rintro E w' ⟨rfl, rfl⟩))
    | (go_at_call 54; ((with_reducible refine (CT.out _).mono ?_); rintro E w' ⟨rfl, rfl⟩)))
  refine bodyPost_ret (v := .tuple #[.agg #[.int .i64 0, .int .i64 0], .int .i64 5]) (by simp [results, Tryd.results33, go_sem]) rfl ?_
  exact ⟨rfl, (Below.refl w.heap.size w).alloc (Nat.le_refl _) _⟩
set_option maxRecDepth 100000 in
set_option maxHeartbeats 8000000 in
theorem parr_d3 (s : ByteArray) (K : Nat) (n e : Int) (w : World) (hs : s.size ≤ 1000) (hlt : K = s.size) (he : ¬ e = 5) (hz : ¬ e = 0)
    (CS : ∀ w, Calls Tryd.prog 53 #[.string s] w fun E w' => E = .returned (.int .i64 (K : Nat)) ∧ w = w')
    (CT : ∀ w, Calls Tryd.prog 54 #[.string (s.extract 0 K)] w fun E w' => E = .returned (.tuple #[.int .i64 n, .int .i64 e]) ∧ w = w') :
    Calls Tryd.prog 33 #[.string s] w (tRes w (0, 0, 3)) := by
  have CS := Lib.hid CS
  have CT := Lib.hid CT
  have he2 : (e == 5) = false := by simp [he]
  have hz2 : (e == 0) = false := by simp [hz]
  have hz3 : (e != 0) = true := by simp [hz]
  have kb0 : (0 : Int) ≤ (K : Int) := by omega
  have kb1 : (K : Int) ≤ (s.size : Int) := by omega
  have kb2 : (K : Int) ≤ 1000 := by omega
  have kb5 : ¬ (K : Int) < (s.size : Int) := by omega
  clear hlt
  go_enter Tryd.func33, Tryd.ntmps33
  go_wp2_with (first
    | (go_at_call 53; ((with_reducible refine (CS.out _).mono ?_); rintro E w' ⟨rfl, rfl⟩))
    | (go_at_call 54; ((with_reducible refine (CT.out _).mono ?_); rintro E w' ⟨rfl, rfl⟩)))
  refine bodyPost_ret (v := .tuple #[.agg #[.int .i64 0, .int .i64 0], .int .i64 3]) (by simp [results, Tryd.results33, go_sem]) rfl ?_
  exact ⟨rfl, (Below.refl w.heap.size w).alloc (Nat.le_refl _) _⟩
set_option maxRecDepth 100000 in
set_option maxHeartbeats 8000000 in
theorem parr_d5 (s : ByteArray) (K : Nat) (n : Int) (w : World) (hs : s.size ≤ 1000) (hlt : K = s.size) (hn : i64 n) (hf : fmtS n 1 = s.data.toList)
    (CS : ∀ w, Calls Tryd.prog 53 #[.string s] w fun E w' => E = .returned (.int .i64 (K : Nat)) ∧ w = w')
    (CT : ∀ w, Calls Tryd.prog 54 #[.string (s.extract 0 K)] w fun E w' => E = .returned (.tuple #[.int .i64 n, .int .i64 0]) ∧ w = w') :
    Calls Tryd.prog 33 #[.string s] w (tRes w (n, 1, 0)) := by
  have CS := Lib.hid CS
  have CT := Lib.hid CT
  have kb0 : (0 : Int) ≤ (K : Int) := by omega
  have kb1 : (K : Int) ≤ (s.size : Int) := by omega
  have kb2 : (K : Int) ≤ 1000 := by omega
  have kb5 : ¬ (K : Int) < (s.size : Int) := by omega
  clear hlt
  obtain ⟨F, hF⟩ : ∃ F, bs (fmtS n 1) = F := ⟨_, rfl⟩
  have FM : ∀ w, Calls Tryd.prog 31 #[rv n 1] w fun E w' => E = .returned (.string F) ∧ Below w.heap.size w w' := fun w => by
    have q := formatRef n 1 w hn.1 hn.2 (by decide) (by decide)
    unfold tStr at q
    rw [hF] at q
    exact q
  have FM := Lib.hid FM
  have hb : (F.toList == s.toList) = true := by
    rw [← hF, Lib.toList_data, Lib.toList_data]
    simpa using hf
  clear hf hF
  go_enter Tryd.func33, Tryd.ntmps33
  go_wp2_with (first
    | (go_at_call 53; ((with_reducible refine (CS.out _).mono ?_); rintro E w' ⟨rfl, rfl⟩))
    | (go_at_call 54; ((with_reducible refine (CT.out _).mono ?_); rintro E w' ⟨rfl, rfl⟩))
    | (go_at_call 31; ((with_reducible refine (FM.out _).mono ?_); rintro E w4 ⟨rfl, hb4⟩; have TA := Lib.hid (((Two.new w (.int .i64 0) (.int .i64 0) 23).alloc _).stay hb4); have TB := two_new hb4; rw [alloc_size] at TB; have B4 := Lib.hid (below_new (below_new hb4)); have c0 := TA.out.c0; have c1 := TA.out.c1; have f0 := TA.out.f0; have f1 := TA.out.f1; have lt := TA.out.lt; have k0 := TB.c0; have k1 := TB.c1; clear TB; clear hb4)))
  refine bodyPost_ret (v := .tuple #[.agg #[.int .i64 n, .int .i64 1], .int .i64 0]) (by simp [results, Tryd.results33, go_sem, c0, c1]) rfl ?_
  exact ⟨rfl, (B4.out.setCell (Nat.le_refl _) _).setCell (Nat.le_refl _) _⟩
set_option maxRecDepth 100000 in
set_option maxHeartbeats 8000000 in
theorem parr_d6 (s : ByteArray) (K : Nat) (n : Int) (w : World) (hs : s.size ≤ 1000) (hlt : K = s.size) (hn : i64 n) (hf : ¬ fmtS n 1 = s.data.toList)
    (CS : ∀ w, Calls Tryd.prog 53 #[.string s] w fun E w' => E = .returned (.int .i64 (K : Nat)) ∧ w = w')
    (CT : ∀ w, Calls Tryd.prog 54 #[.string (s.extract 0 K)] w fun E w' => E = .returned (.tuple #[.int .i64 n, .int .i64 0]) ∧ w = w') :
    Calls Tryd.prog 33 #[.string s] w (tRes w (0, 0, 5)) := by
  have CS := Lib.hid CS
  have CT := Lib.hid CT
  have kb0 : (0 : Int) ≤ (K : Int) := by omega
  have kb1 : (K : Int) ≤ (s.size : Int) := by omega
  have kb2 : (K : Int) ≤ 1000 := by omega
  have kb5 : ¬ (K : Int) < (s.size : Int) := by omega
  clear hlt
  obtain ⟨F, hF⟩ : ∃ F, bs (fmtS n 1) = F := ⟨_, rfl⟩
  have FM : ∀ w, Calls Tryd.prog 31 #[rv n 1] w fun E w' => E = .returned (.string F) ∧ Below w.heap.size w w' := fun w => by
    have q := formatRef n 1 w hn.1 hn.2 (by decide) (by decide)
    unfold tStr at q
    rw [hF] at q
    exact q
  have FM := Lib.hid FM
  have hb : (F.toList == s.toList) = false := by
    rw [← hF, Lib.toList_data, Lib.toList_data]
    simpa using hf
  clear hf hF
  go_enter Tryd.func33, Tryd.ntmps33
  go_wp2_with (first
    | (go_at_call 53; ((with_reducible refine (CS.out _).mono ?_); rintro E w' ⟨rfl, rfl⟩))
    | (go_at_call 54; ((with_reducible refine (CT.out _).mono ?_); rintro E w' ⟨rfl, rfl⟩))
    | (go_at_call 31; ((with_reducible refine (FM.out _).mono ?_); rintro E w4 ⟨rfl, hb4⟩; have TA := Lib.hid (((Two.new w (.int .i64 0) (.int .i64 0) 23).alloc _).stay hb4); have TB := two_new hb4; rw [alloc_size] at TB; have B4 := Lib.hid (below_new (below_new hb4)); have c0 := TA.out.c0; have c1 := TA.out.c1; have f0 := TA.out.f0; have f1 := TA.out.f1; have lt := TA.out.lt; have k0 := TB.c0; have k1 := TB.c1; clear TB; clear hb4)))
  refine bodyPost_ret (v := .tuple #[.agg #[.int .i64 0, .int .i64 0], .int .i64 5]) (by simp [results, Tryd.results33, go_sem, c0, c1]) rfl ?_
  exact ⟨rfl, (B4.out.setCell (Nat.le_refl _) _).setCell (Nat.le_refl _) _⟩
end Go.Proofs.YtjighmmfaedgbaaDoor.RatW
