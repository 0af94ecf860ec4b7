/-
  ClassChecks returns true.
-/
import Derived.Test.YtoigjeoncdfdmaaGreatDoorClAwake
import Derived.Test.YtoigjeoncdfdmaaGreatDoorClSmall
import Derived.Test.YtoigjeoncdfdmaaGreatDoorClRCheck
import Derived.Test.YtoigjeoncdfdmaaGreatDoorClFind
namespace Go.Proofs.YtoigjeoncdfdmaaGreatDoor.ClW
open Go Go.RowKit Go.Proofs.YtoigjeoncdfdmaaGreatDoor.NumM Go.Proofs.YtoigjeoncdfdmaaGreatDoor.LexW Go.Proofs.YtoigjeoncdfdmaaGreatDoor.LexM Go.Proofs.YtoigjeoncdfdmaaGreatDoor.ClM

set_option maxRecDepth 100000 in
set_option maxHeartbeats 8000000 in
theorem checks_any (src : List Cl) (x : ByteArray) (p : Option Addr) (cap : Nat) (G : Nat → Nat → Value) (w : World) (ha : RowA (Lo w.heap.size) w .classes p cap G (src.map Cl.lf)) (ht : Tab w) :
    Calls Tryz.prog 4 #[.slice p src.length cap, .string x] w (tBool true w) := by
  obtain ⟨b, hf⟩ := few_any src p cap G _ w ha (Nat.le_refl _)
  have FC := Lib.hid hf
  have HT : Hid (∀ W, Below w.heap.size w W → Tab W) := Lib.hid fun W hW => ht.later hW
  obtain ⟨y, hy⟩ : ∃ y, (fnd src x).getD zCl = y := ⟨_, rfl⟩
  obtain ⟨is, his⟩ : ∃ b, (fnd src x).isSome = b := ⟨_, rfl⟩
  obtain ⟨ce, hce⟩ : ∃ n, checkE src = n := ⟨_, rfl⟩
  have FD1 : Hid (∀ W, Below w.heap.size w W → Calls Tryz.prog 18 #[.slice p src.length cap, .string x] W fun e w' => ∃ pf cf pb cb, e = .returned (.tuple #[cv y.nm y.par (.slice pf y.fs.length cf) (.slice pb y.bs.length cb), .bool is]) ∧ CV (Lo w'.heap.size) w' pf cf pb cb y ∧ Below W.heap.size W w') := Lib.hid fun W hW => by
    have := findC_any src x p cap G _ W (ha.under hW) hW.size
    unfold tFind at this
    rw [hy, his] at this
    exact this
  have FD2 : Hid (∀ W, Below w.heap.size w W → Calls Tryz.prog 19 #[.slice p src.length cap, .string x] W fun e w' => ∃ pf cf pb cb, e = .returned (.tuple #[cv y.nm y.par (.slice pf y.fs.length cf) (.slice pb y.bs.length cb), .bool is]) ∧ CV (Lo w.heap.size) w' pf cf pb cb y ∧ Below W.heap.size W w') := Lib.hid fun W hW => by
    have := find_any src x p cap G _ W (ha.under hW) hW.size
    unfold tFnd at this
    rw [hy, his] at this
    exact this
  have CK1 : Hid (∀ W, Below w.heap.size w W → Calls Tryz.prog 20 #[.slice p src.length cap] W (tInt ce W)) := Lib.hid fun W hW => by
    have := check_any src p cap G _ W (ha.under hW) hW.size (ht.later hW)
    rw [hce] at this
    exact this
  have CK2 : Hid (∀ W, Below w.heap.size w W → Calls Tryz.prog 21 #[.slice p src.length cap] W (tInt ce W)) := Lib.hid fun W hW => by
    have := checkR_any src p cap G _ W (ha.under hW) hW.size
    rw [checkR_eq, hce] at this
    exact this
  clear ha hf ht hy his hce
  cases b
  · go_enter Tryz.func4, Tryz.ntmps4
    go_wp2_with (first
      | (go_at_call 17; ((with_reducible refine FC.out.mono ?_); rintro e w1 ⟨rfl, hb1⟩; have HB1 := Lib.hid hb1; clear hb1))
      | (go_at_call 10; ((with_reducible refine (awake_any w1 (HT.out w1 HB1.out)).mono ?_); rintro e w2 ⟨rfl, hb2⟩; have HB2 := Lib.hid (HB1.out.then_ hb2); clear hb2)))
    go_ret
    exact ⟨rfl, HB2.out⟩
  · go_enter Tryz.func4, Tryz.ntmps4
    go_wp2_with (first
      | (go_at_call 17; ((with_reducible refine FC.out.mono ?_); rintro e w1 ⟨rfl, hb1⟩; have HB1 := Lib.hid hb1; clear hb1))
      | (go_at_call 18; ((with_reducible refine (FD1.out w1 HB1.out).mono ?_); rintro e w2 ⟨pf, cf, pb, cb, rfl, hcv, hb2⟩; have Y2 := Lib.hid (Blk.new w2 [.string y.nm, .string y.par, .slice pf y.fs.length cf, .slice pb y.bs.length cb] 25); have HB2 := Lib.hid ((HB1.out.then_ hb2).then_ (ba w2 (.cells #[.string y.nm, .string y.par, .slice pf y.fs.length cf, .slice pb y.bs.length cb] 25))); have HC2 := Lib.hid ((hcv.under (ba w2 (.cells #[.string y.nm, .string y.par, .slice pf y.fs.length cf, .slice pb y.bs.length cb] 25))).wide (ba w2 (.cells #[.string y.nm, .string y.par, .slice pf y.fs.length cf, .slice pb y.bs.length cb] 25)).size); clear hb2 hcv))
      | (go_at_call 19; ((with_reducible refine (FD2.out _ HB2.out).mono ?_); rintro e w3 ⟨qf, df, qb, db, rfl, hcv, hb3⟩; have Y3 := Lib.hid (Blk.new w3 [.string y.nm, .string y.par, .slice qf y.fs.length df, .slice qb y.bs.length db] 25); have HL3 := Lib.hid hb3; have HB3 := Lib.hid ((HB2.out.then_ hb3).then_ (ba w3 (.cells #[.string y.nm, .string y.par, .slice qf y.fs.length df, .slice qb y.bs.length db] 25))); have HC3 := Lib.hid (hcv.under ((ba w3 (.cells #[.string y.nm, .string y.par, .slice qf y.fs.length df, .slice qb y.bs.length db] 25)).mono (HB2.out.then_ hb3).size)); clear hb3 hcv))
      | (go_at_call 20; ((with_reducible refine (CK1.out _ HB3.out).mono ?_); rintro e w4 ⟨rfl, hb4⟩; have HB4 := Lib.hid (HB3.out.then_ hb4); have HL4 := Lib.hid hb4; clear hb4))
      | (go_at_call 21; ((with_reducible refine (CK2.out _ HB4.out).mono ?_); rintro e w5 ⟨rfl, hb5⟩; have HB5 := Lib.hid (HB4.out.then_ hb5); have hl5 := HL4.out.then_ hb5; have X3 := Y3.out.stay hl5; have hl2 := (HL3.out.then_ (ba w3 (.cells #[.string y.nm, .string y.par, .slice qf y.fs.length df, .slice qb y.bs.length db] 25))).then_ hl5; have X2 := Y2.out.stay hl2; have SC := Lib.hid (sameC_any y w5.heap.size w5 pf pb qf qb cf cb df db ((HC2.out.under hl2).wide hl2.size) ((HC3.out.under (hl5.mono HB3.out.size)).wide HB5.out.size) (Nat.le_refl _)); have c0 := X2.c 0 _ rfl; have c1 := X2.c 1 _ rfl; have c2 := X2.c 2 _ rfl; have c3 := X2.c 3 _ rfl; have d0 := X3.c 0 _ rfl; have d1 := X3.c 1 _ rfl; have d2 := X3.c 2 _ rfl; have d3 := X3.c 3 _ rfl; clear hb5 hl5 hl2 X2 X3))
      | (go_at_call 22; ((with_reducible refine SC.out.mono ?_); rintro e w6 ⟨rfl, hb6⟩; have HB6 := Lib.hid (HB5.out.then_ hb6); clear hb6))
      | (go_at_call 10; ((with_reducible refine (awake_any w6 (HT.out w6 HB6.out)).mono ?_); rintro e w7 ⟨rfl, hb7⟩; have HB7 := Lib.hid (HB6.out.then_ hb7); clear hb7)))
    go_ret
    exact ⟨rfl, HB7.out⟩
end Go.Proofs.YtoigjeoncdfdmaaGreatDoor.ClW
