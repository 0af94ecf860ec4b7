/-
  The walk of RatParses.
-/
import Derived.Test.YtjighmmfaedgbaaDoorRatParQ
import Derived.Test.YtjighmmfaedgbaaDoorRatAwake
namespace Go.Proofs.YtjighmmfaedgbaaDoor.RatW
open Go Go.RowKit Go.Proofs.YtjighmmfaedgbaaDoor.RatM

theorem par_ok {l : List UInt8} {x y : Int} (h : parS l = (x, y, 0)) : fmtS x y = l := by
  unfold parS at h
  split at h
  · cases (Prod.mk.inj (Prod.mk.inj h).2).2
  · split at h
    · cases (Prod.mk.inj (Prod.mk.inj h).2).2
    · split at h
      · obtain ⟨h1, h2⟩ := Prod.mk.inj h
        rw [← h1, ← (Prod.mk.inj h2).1]
        assumption
      · cases (Prod.mk.inj (Prod.mk.inj h).2).2
theorem par_i64 (l : List UInt8) : i64 (parS l).1 ∧ i64 (parS l).2.1 := by
  have z : i64 0 := by unfold i64; omega
  unfold parS
  split
  · exact ⟨z, z⟩
  · split
    · exact ⟨z, z⟩
    · split
      · exact ⟨parse_i64 _, parse_i64 _⟩
      · exact ⟨z, z⟩
set_option maxRecDepth 100000 in
set_option maxHeartbeats 8000000 in
theorem ratParses_long (s : ByteArray) (w : World) (hs : 80 < s.size) (ht : Tab2 w) :
    Calls Tryd.prog 11 #[.string s] w (tBool w true) := by
  have HT := Lib.hid ht
  clear ht
  go_enter Tryd.func11, Tryd.ntmps11
  go_wp2_with (go_at_call 14; ((with_reducible refine (awake_any _ HT.out.tab).mono ?_); rintro e w5 ⟨rfl, hb⟩; have B5 := Lib.hid hb; clear hb))
  go_ret
  exact ⟨rfl, B5.out⟩
set_option maxRecDepth 100000 in
set_option maxHeartbeats 8000000 in
theorem ratParses_err (s : ByteArray) (x y k : Int) (w : World) (hs : s.size ≤ 80) (hr : parS s.data.toList = (x, y, k)) (hk : ¬ k = 0) (ht : Tab2 w) :
    Calls Tryd.prog 11 #[.string s] w (tBool w true) := by
  have HT := Lib.hid ht
  clear ht
  have CP : ∀ w, Tab2 w → Calls Tryd.prog 32 #[.string s] w fun e w' => e = .returned (.tuple #[.agg #[.int .i64 x, .int .i64 y], .int .i64 k]) ∧ Below w.heap.size w w' := fun w h => by
    have q := parseCode s w (by omega) h
    rw [hr] at q
    exact q
  have CR : ∀ w, Calls Tryd.prog 33 #[.string s] w fun e w' => e = .returned (.tuple #[.agg #[.int .i64 x, .int .i64 y], .int .i64 k]) ∧ Below w.heap.size w w' := fun w => by
    have q := parseRef05 s w (by omega)
    rw [hr] at q
    exact q
  have CP := Lib.hid CP
  have CR := Lib.hid CR
  have k1 : (k == 0) = false := by simp [hk]
  have k2 : (k != 0) = true := by simp [hk]
  clear hr
  go_enter Tryd.func11, Tryd.ntmps11
  go_wp2_with (first
    | (go_at_call 32; ((with_reducible refine (CP.out _ HT.out).mono ?_); rintro e w1 ⟨rfl, hb⟩; have B1 := Lib.hid hb; clear hb))
    | (go_at_call 33; ((with_reducible refine (CR.out _).mono ?_); rintro e w2 ⟨rfl, hb⟩; have T1 := Lib.hid (two_new hb); have B2 := Lib.hid (Below.then_ B1.out (below_new hb)); have o0 := T1.out.c0; have o1 := T1.out.c1; have o2 := T1.out.lt; clear hb))
    | (go_at_call 14; ((with_reducible refine (awake_any _ ((HT.out.later B2.out).tab.later ((Below.refl _ _).alloc (Nat.le_refl _) _))).mono ?_); rintro e w5 ⟨rfl, hb⟩; have B5 := Lib.hid (Below.then_ B2.out (below_new hb)); clear hb)))
  go_ret
  exact ⟨rfl, B5.out⟩
set_option maxRecDepth 100000 in
set_option maxHeartbeats 8000000 in
theorem ratParses_ok (s : ByteArray) (x y : Int) (w : World) (hs : s.size ≤ 80) (hr : parS s.data.toList = (x, y, 0)) (ht : Tab2 w) :
    Calls Tryd.prog 11 #[.string s] w (tBool w true) := by
  have HT := Lib.hid ht
  clear ht
  have hi := par_i64 s.data.toList
  rw [hr] at hi
  have hx : i64 x := hi.1
  have hy : i64 y := hi.2
  have CP : ∀ w, Tab2 w → Calls Tryd.prog 32 #[.string s] w fun e w' => e = .returned (.tuple #[.agg #[.int .i64 x, .int .i64 y], .int .i64 0]) ∧ Below w.heap.size w w' := fun w h => by
    have q := parseCode s w (by omega) h
    rw [hr] at q
    exact q
  have CR : ∀ w, Calls Tryd.prog 33 #[.string s] w fun e w' => e = .returned (.tuple #[.agg #[.int .i64 x, .int .i64 y], .int .i64 0]) ∧ Below w.heap.size w w' := fun w => by
    have q := parseRef05 s w (by omega)
    rw [hr] at q
    exact q
  have CF : ∀ w, Tab w → Calls Tryd.prog 30 #[rv x y] w fun e w' => e = .returned (.string s) ∧ Below w.heap.size w w' := fun w h => by
    have q := formatCode x y w hx.1 hx.2 hy.1 hy.2 h
    unfold tStr at q
    rw [par_ok hr] at q
    exact q
  have CP := Lib.hid CP
  have CR := Lib.hid CR
  have CF := Lib.hid CF
  clear hr hx hy hi
  go_enter Tryd.func11, Tryd.ntmps11
  go_wp2_with (first
    | (go_at_call 32; ((with_reducible refine (CP.out _ HT.out).mono ?_); rintro e w1 ⟨rfl, hb⟩; have B1 := Lib.hid hb; clear hb))
    | (go_at_call 33; ((with_reducible refine (CR.out _).mono ?_); rintro e w2 ⟨rfl, hb⟩; have T1 := Lib.hid (two_new hb); have B2 := Lib.hid (Below.then_ B1.out (below_new hb)); have o0 := T1.out.c0; have o1 := T1.out.c1; have o2 := T1.out.lt; clear hb))
    | (go_at_call 30; ((with_reducible refine (CF.out _ ((HT.out.later B2.out).tab.later ((Below.refl _ _).alloc (Nat.le_refl _) _))).mono ?_); rintro e w3 ⟨rfl, hb⟩; have B3 := Lib.hid (Below.then_ B2.out (below_new hb)); clear hb))
    | (go_at_call 14; ((with_reducible refine (awake_any _ (HT.out.later B3.out).tab).mono ?_); rintro e w5 ⟨rfl, hb⟩; have B5 := Lib.hid (Below.then_ B3.out hb); clear hb)))
  go_ret
  exact ⟨rfl, B5.out⟩
theorem ratParses_any (s : ByteArray) (w : World) (ht : Tab2 w) :
    Calls Tryd.prog 11 #[.string s] w (tBool w true) := by
  by_cases h : s.size ≤ 80
  · obtain ⟨x, y, k, hr⟩ : ∃ x y k, parS s.data.toList = (x, y, k) := ⟨_, _, _, rfl⟩
    by_cases hk : k = 0
    · subst hk; exact ratParses_ok s x y w h hr ht
    · exact ratParses_err s x y k w h hr hk ht
  · exact ratParses_long s w (by omega) ht
end Go.Proofs.YtjighmmfaedgbaaDoor.RatW
