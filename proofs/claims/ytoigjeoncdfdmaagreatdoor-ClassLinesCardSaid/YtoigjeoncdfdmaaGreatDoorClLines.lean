/-
  ClassLines returns true.
-/
import Derived.Test.YtoigjeoncdfdmaaGreatDoorClAwake
import Derived.Test.YtoigjeoncdfdmaaGreatDoorClSmall
import Derived.Test.YtoigjeoncdfdmaaGreatDoorClRTop
namespace Go.Proofs.YtoigjeoncdfdmaaGreatDoor.ClW
open Go Go.RowKit Go.Proofs.YtoigjeoncdfdmaaGreatDoor.NumM Go.Proofs.YtoigjeoncdfdmaaGreatDoor.LexW Go.Proofs.YtoigjeoncdfdmaaGreatDoor.LexM Go.Proofs.YtoigjeoncdfdmaaGreatDoor.ClM

set_option maxRecDepth 100000 in
set_option maxHeartbeats 8000000 in
theorem lines_any (src : List Cl) (x : ByteArray) (p : Option Addr) (cap : Nat) (G : Nat → Nat → Value) (w : World) (ha : RowA (Lo w.heap.size) w .classes p cap G (src.map Cl.lf)) (ht : Tab w) :
    Calls Tryz.prog 5 #[.slice p src.length cap, .string x] w (tBool true w) := by
  obtain ⟨b, hf⟩ := few_any src p cap G _ w ha (Nat.le_refl _)
  have FC := Lib.hid hf
  have HT : Hid (∀ W, Below w.heap.size w W → Tab W) := Lib.hid fun W hW => ht.later hW
  obtain ⟨ns, hns⟩ : ∃ l, (lineE src x).1.map Cl.nm = l := ⟨_, rfl⟩
  obtain ⟨en, hen⟩ : ∃ n, (lineE src x).2 = n := ⟨_, rfl⟩
  obtain ⟨y, hy⟩ : ∃ c, (flatE src x).1 = c := ⟨_, rfl⟩
  obtain ⟨fe, hfe⟩ : ∃ n, (flatE src x).2 = n := ⟨_, rfl⟩
  obtain ⟨K, hK⟩ : ∃ n, ns.length = n := ⟨_, rfl⟩
  have LC1 : Hid (∀ W, Below w.heap.size w W → Calls Tryz.prog 23 #[.slice p src.length cap, .string x] W fun e w' => ∃ p cap G, e = .returned (.tuple #[.slice p K cap, .int .i64 en]) ∧ RowA (Lo w'.heap.size) w' .strs p cap G (SL ns) ∧ Below W.heap.size W w') := Lib.hid fun W hW => by
    have := line_any src x p cap G _ W (ha.under hW) hW.size (ht.later hW)
    unfold tNames at this
    rw [hns, hen, hK] at this
    exact this
  have LC2 : Hid (∀ W, Below w.heap.size w W → Calls Tryz.prog 24 #[.slice p src.length cap, .string x] W fun e w' => ∃ p cap G, e = .returned (.tuple #[.slice p K cap, .int .i64 en]) ∧ RowA (Lo w'.heap.size) w' .strs p cap G (SL ns) ∧ Below W.heap.size W w') := Lib.hid fun W hW => by
    have := lineRL_any src x p cap G _ W (ha.under hW) hW.size
    unfold tNames at this
    rw [hns, hen, hK] at this
    exact this
  have FF1 : Hid (∀ W, Below w.heap.size w W → Calls Tryz.prog 25 #[.slice p src.length cap, .string x] W fun e w' => ∃ pf cf pb cb, e = .returned (.tuple #[cv y.nm y.par (.slice pf y.fs.length cf) (.slice pb y.bs.length cb), .int .i64 fe]) ∧ CV (Lo w'.heap.size) w' pf cf pb cb y ∧ Below W.heap.size W w') := Lib.hid fun W hW => by
    have := flatten_any src x p cap G _ W (ha.under hW) hW.size (ht.later hW)
    unfold tFlatE at this
    rw [hy, hfe] at this
    exact this
  have FF2 : Hid (∀ W, Below w.heap.size w W → Calls Tryz.prog 26 #[.slice p src.length cap, .string x] W fun e w' => ∃ pf cf pb cb, e = .returned (.tuple #[cv y.nm y.par (.slice pf y.fs.length cf) (.slice pb y.bs.length cb), .int .i64 fe]) ∧ CV (Lo w'.heap.size) w' pf cf pb cb y ∧ Below W.heap.size W w') := Lib.hid fun W hW => by
    have := flattenR_any src x p cap G _ W (ha.under hW) hW.size
    unfold tFlatE at this
    rw [hy, hfe] at this
    exact this
  have HK := Lib.hid hK
  have HS : Hid ((SL ns).length = K) := Lib.hid (by unfold SL; rw [List.length_map]; exact hK)
  clear ha hf ht hns hen hy hfe hK
  cases b
  · go_enter Tryz.func5, Tryz.ntmps5
    go_wp2_with (first
      | (go_at_call 17; ((with_reducible refine FC.out.mono ?_); rintro e w1 ⟨rfl, hb1⟩; have HB1 := Lib.hid hb1; clear hb1))
      | (go_at_call 10; ((with_reducible refine (awake_any w1 (HT.out w1 HB1.out)).mono ?_); rintro e w2 ⟨rfl, hb2⟩; have HB2 := Lib.hid (HB1.out.then_ hb2); clear hb2)))
    go_ret
    exact ⟨rfl, HB2.out⟩
  · go_enter Tryz.func5, Tryz.ntmps5
    go_wp2_with (first
      | (go_at_call 17; ((with_reducible refine FC.out.mono ?_); rintro e w1 ⟨rfl, hb1⟩; have HB1 := Lib.hid hb1; clear hb1))
      | (go_at_call 23; ((with_reducible refine (LC1.out w1 HB1.out).mono ?_); rintro e w2 ⟨p2, k2, G2, rfl, r2, hb2⟩; have HB2 := Lib.hid (HB1.out.then_ hb2); have R2 := Lib.hid r2; clear r2 hb2))
      | (go_at_call 24; ((with_reducible refine (LC2.out w2 HB2.out).mono ?_); rintro e w3 ⟨p3, k3, G3, rfl, r3, hb3⟩; have HB3 := Lib.hid (HB2.out.then_ hb3); have hl := r3.hl; rw [HS.out] at hl; simp only [byt] at hl; have R3 := Lib.hid r3; have R2' := Lib.hid ((R2.out.under hb3).wide hb3.size); clear r3 hb3)))
    have hk : K ≤ 140737488351232 := by omega
    clear hl
    go_loopw [9] (fun i wr => ∃ j : Nat, j ≤ K ∧ i = .int .i64 j ∧ Hid (Below w3.heap.size w3 wr)) (fun i _ => K - (intOf i).toNat)
    case atStart => exact ⟨0, Nat.zero_le _, rfl, Lib.hid (Below.refl _ _)⟩
    case round =>
      obtain ⟨j, hj, rfl, BW⟩ := hrel
      by_cases hlt : j < K
      · obtain ⟨s, hs⟩ : ∃ s, ns[j]? = some s := ⟨_, List.getElem?_eq_getElem (by rw [HK.out]; exact hlt)⟩
        obtain ⟨b2, off2, rfl, hb2, c2, _⟩ := (R2'.out.under BW.out).stS hs
        obtain ⟨b3, off3, rfl, hb3, c3, _⟩ := (R3.out.under BW.out).stS hs
        clear hs
        go_wp2
        go_quiet (fail)
        go_wp2
        go_roundw
        case rel => exact ⟨j + 1, by omega, by go_num, Lib.hid (drewB BW.out)⟩
        case measure => simp [intOf]; omega
      · have HBr := Lib.hid (HB3.out.then_ BW.out)
        go_wp2_with (first
          | (go_at_call 25; ((with_reducible refine (FF1.out wr HBr.out).mono ?_); rintro e w4 ⟨pf, cf, pb, cb, rfl, hcv, hb4⟩; have hn := ba w4 (.cells #[.string y.nm, .string y.par, .slice pf y.fs.length cf, .slice pb y.bs.length cb] 25); have Y4 := Lib.hid (Blk.new w4 [.string y.nm, .string y.par, .slice pf y.fs.length cf, .slice pb y.bs.length cb] 25); have HB4 := Lib.hid ((HBr.out.then_ hb4).then_ hn); have HC4 := Lib.hid ((hcv.under hn).wide hn.size); clear hb4 hcv hn))
          | (go_at_call 26; ((with_reducible refine (FF2.out _ HB4.out).mono ?_); rintro e w5 ⟨qf, df, qb, db, rfl, hcv, hb5⟩; have hn := ba w5 (.cells #[.string y.nm, .string y.par, .slice qf y.fs.length df, .slice qb y.bs.length db] 25); have X5 := Blk.new w5 [.string y.nm, .string y.par, .slice qf y.fs.length df, .slice qb y.bs.length db] 25; have hl5 := hb5.then_ hn; have X4 := Y4.out.stay hl5; have HB5 := Lib.hid (HB4.out.then_ hl5); have SC := Lib.hid (sameC_any y _ _ pf pb qf qb cf cb df db ((HC4.out.under hl5).wide hl5.size) ((hcv.under hn).wide hn.size) (Nat.le_refl _)); have c0 := X4.c 0 _ rfl; have c1 := X4.c 1 _ rfl; have c2 := X4.c 2 _ rfl; have c3 := X4.c 3 _ rfl; have d0 := X5.c 0 _ rfl; have d1 := X5.c 1 _ rfl; have d2 := X5.c 2 _ rfl; have d3 := X5.c 3 _ rfl; clear hb5 hcv hn hl5 X4 X5))
          | (go_at_call 22; ((with_reducible refine SC.out.mono ?_); rintro e w6 ⟨rfl, hb6⟩; have HB6 := Lib.hid (HB5.out.then_ hb6); clear hb6))
          | (go_at_call 10; ((with_reducible refine (awake_any w6 (HT.out w6 HB6.out)).mono ?_); rintro e w7 ⟨rfl, hb7⟩; have HB7 := Lib.hid (HB6.out.then_ hb7); clear hb7)))
        go_ret
        exact ⟨rfl, HB7.out⟩
end Go.Proofs.YtoigjeoncdfdmaaGreatDoor.ClW
