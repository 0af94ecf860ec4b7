/-
  What checkFamily returns.
-/
import Derived.Test.YtoigjeoncdfdmaaGreatDoorClFamC
namespace Go.Proofs.YtoigjeoncdfdmaaGreatDoor.ClW
open Go Go.RowKit Go.Proofs.YtoigjeoncdfdmaaGreatDoor.NumM Go.Proofs.YtoigjeoncdfdmaaGreatDoor.LexW Go.Proofs.YtoigjeoncdfdmaaGreatDoor.LexM Go.Proofs.YtoigjeoncdfdmaaGreatDoor.ClM

theorem famE_1 {src : List Cl} (h1 : dupB (src.map Cl.nm) = true) : famE src = 8 := by unfold famE; rw [h1]; rfl
theorem famE_2 {src : List Cl} (h1 : dupB (src.map Cl.nm) = false) (h2 : src.any (orphan src) = true) : famE src = 7 := by unfold famE; rw [h1, h2]; rfl
theorem famE_3 {src : List Cl} (h1 : dupB (src.map Cl.nm) = false) (h2 : src.any (orphan src) = false) (h3 : src.any (fun c => decide (src.length < (lineOf src c).length)) = true) : famE src = 10 := by unfold famE; rw [h1, h2, h3]; rfl
theorem famE_4 {src : List Cl} (h1 : dupB (src.map Cl.nm) = false) (h2 : src.any (orphan src) = false) (h3 : src.any (fun c => decide (src.length < (lineOf src c).length)) = false) (h4 : src.any (fun c => dupB ((flatOf src c).fs.map Fld.nm)) = true) : famE src = 8 := by unfold famE; rw [h1, h2, h3, h4]; rfl
theorem famE_5 {src : List Cl} (h1 : dupB (src.map Cl.nm) = false) (h2 : src.any (orphan src) = false) (h3 : src.any (fun c => decide (src.length < (lineOf src c).length)) = false) (h4 : src.any (fun c => dupB ((flatOf src c).fs.map Fld.nm)) = false) (h5 : src.any (fun c => large (flatOf src c)) = true) : famE src = 2 := by unfold famE; rw [h1, h2, h3, h4, h5]; rfl
theorem famE_6 {src : List Cl} (h1 : dupB (src.map Cl.nm) = false) (h2 : src.any (orphan src) = false) (h3 : src.any (fun c => decide (src.length < (lineOf src c).length)) = false) (h4 : src.any (fun c => dupB ((flatOf src c).fs.map Fld.nm)) = false) (h5 : src.any (fun c => large (flatOf src c)) = false) : famE src = 0 := by unfold famE; rw [h1, h2, h3, h4, h5]; rfl
set_option maxRecDepth 100000 in
set_option maxHeartbeats 8000000 in
theorem family_any (src : List Cl) (p : Option Addr) (cap : Nat) (G : Nat → Nat → Value) (N : Nat) (w : World) (ha : RowA (Lo N) w .classes p cap G (src.map Cl.lf)) (hN : N ≤ w.heap.size) (hn : src.length ≤ 32) (hfb : ∀ d ∈ src, d.fs.length ≤ 16 ∧ d.bs.length ≤ 16) :
    Calls Tryz.prog 49 #[.slice p src.length cap] w (tInt (famE src) w) := by
  obtain ⟨W1, hW1⟩ : ∃ W1, w.alloc (.cells #[.slice p src.length cap] 38) = W1 := ⟨_, rfl⟩
  have F0 : Blk W1 w.heap.size [.slice p src.length cap] := by rw [← hW1]; exact Blk.new w _ _
  have hb0 : Below w.heap.size w W1 := by rw [← hW1]; exact ba w _
  have hs1 : w.heap.size ≤ W1.heap.size := hb0.size
  have BX : ∀ W, Below W1.heap.size W1 W → W.cell? ⟨w.heap.size, 0, none⟩ = some (.slice p src.length cap) := fun W hW => (F0.stay hW).c 0 _ rfl
  have HAW : ∀ W, Below W1.heap.size W1 W → RowA (Lo N) W .classes p cap G (src.map Cl.lf) := fun W hW => (ha.under (hb0.mono hN)).under (hW.mono (Nat.le_trans hN hs1))
  have HNW : ∀ W, Below W1.heap.size W1 W → N ≤ W.heap.size := fun W hW => Nat.le_trans (Nat.le_trans hN hs1) hW.size
  have NC : Hid (∀ W, Below W1.heap.size W1 W → Calls Tryz.prog 55 #[.slice p src.length cap, .func (.func 56) #[] #[]] W (tStrs (src.map Cl.nm) W)) := Lib.hid fun W hW => namesC_any src p cap G N W (HAW W hW) (HNW W hW)
  have OC : Hid (∀ W, Below W1.heap.size W1 W → Calls Tryz.prog 74 #[.slice p src.length cap, .func (.func 69) #[] #[.pointer (some ⟨w.heap.size, 0, none⟩)]] W (tBool (src.any (orphan src)) W)) := Lib.hid fun W hW =>
    orphan_has src (orphan src) p cap G N W (HAW W hW) (HNW W hW) w.heap.size (fun c _ W' pf cf pb cb hW' _ => orphan_any src c p cap G N w.heap.size pf cf pb cb W' (BX W' (hW.then_ hW')) (HAW W' (hW.then_ hW')) (HNW W' (hW.then_ hW')))
  have EC : Hid (src.any (orphan src) = false → ∀ W, Below W1.heap.size W1 W → Calls Tryz.prog 74 #[.slice p src.length cap, .func (.func 70) #[] #[.pointer (some ⟨w.heap.size, 0, none⟩)]] W (tBool (src.any (fun c => decide (src.length < (lineOf src c).length))) W)) := Lib.hid fun ho W hW =>
    endless_has src (fun c => decide (src.length < (lineOf src c).length)) p cap G N W (HAW W hW) (HNW W hW) w.heap.size (fun c hc W' pf cf pb cb hW' hcv => endless_any src c p cap G N w.heap.size pf cf pb cb W' (BX W' (hW.then_ hW')) (HAW W' (hW.then_ hW')) (HNW W' (hW.then_ hW')) hcv hc hn (fun d hd => by rw [List.any_eq_false] at ho; simpa using ho d hd))
  have RC : Hid (src.any (orphan src) = false → ∀ W, Below W1.heap.size W1 W → Calls Tryz.prog 74 #[.slice p src.length cap, .func (.func 72) #[] #[.pointer (some ⟨w.heap.size, 0, none⟩)]] W (tBool (src.any (fun c => dupB ((flatOf src c).fs.map Fld.nm))) W)) := Lib.hid fun ho W hW =>
    refield_has src (fun c => dupB ((flatOf src c).fs.map Fld.nm)) p cap G N W (HAW W hW) (HNW W hW) w.heap.size (fun c hc W' pf cf pb cb hW' hcv => refield_any src c p cap G N w.heap.size pf cf pb cb W' (BX W' (hW.then_ hW')) (HAW W' (hW.then_ hW')) (HNW W' (hW.then_ hW')) hcv hc hn (fun d hd => by rw [List.any_eq_false] at ho; simpa using ho d hd) hfb)
  have MC : Hid (src.any (orphan src) = false → ∀ W, Below W1.heap.size W1 W → Calls Tryz.prog 74 #[.slice p src.length cap, .func (.func 73) #[] #[.pointer (some ⟨w.heap.size, 0, none⟩)]] W (tBool (src.any (fun c => large (flatOf src c))) W)) := Lib.hid fun ho W hW =>
    inmuch_has src (fun c => large (flatOf src c)) p cap G N W (HAW W hW) (HNW W hW) w.heap.size (fun c hc W' pf cf pb cb hW' hcv => inmuch_any src c p cap G N w.heap.size pf cf pb cb W' (BX W' (hW.then_ hW')) (HAW W' (hW.then_ hW')) (HNW W' (hW.then_ hW')) hcv hc hn (fun d hd => by rw [List.any_eq_false] at ho; simpa using ho d hd) hfb)
  have SZ := Lib.hid ha.csz
  have BX0 := BX W1 (Below.refl _ _)
  have HBX := Lib.hid BX
  have HB0 := Lib.hid hb0
  have HX0 := Lib.hid (Below.refl W1.heap.size W1)
  clear ha F0 hb0 BX HAW HNW hfb hs1
  obtain ⟨q1, hq1⟩ : ∃ q, dupB (src.map Cl.nm) = q := ⟨_, rfl⟩
  have HQ1 := Lib.hid hq1
  cases q1
  case true =>
    have E := Lib.hid (famE_1 hq1)
    clear hq1
    go_enter Tryz.func49, Tryz.ntmps49
    go_upto_region 1 with (fail)
    try rw [hW1]
    go_wp2_with (first
      | (go_at_call 55; ((with_reducible refine (NC.out _ HX0.out).mono ?_); rintro e w1 ⟨v1, rfl, ho1, hb1⟩; obtain ⟨p5, c5, G5, rfl, r5⟩ := strs_own ho1 SZ.out (by rw [List.length_map]; omega); have R5 := Lib.hid r5; have HX1 := Lib.hid (HX0.out.then_ hb1); (try clear BX0); have BX0 := HBX.out _ HX1.out; clear ho1 hb1 r5))
      | (go_at_call 42; ((with_reducible refine (reps_of src Cl.nm p5 c5 G5 w1.heap.size w1 R5.out.toLo (Nat.le_refl _)).mono ?_); rw [HQ1.out]; rintro e w2 ⟨rfl, hb⟩; have HX2 := Lib.hid (HX1.out.then_ hb); (try clear BX0); have BX0 := HBX.out _ HX2.out; clear hb)))
    go_ret
    exact tInt_mk E.out.symm (HB0.out.trans (HX2.out.mono HB0.out.size))
  case false =>
    obtain ⟨q2, hq2⟩ : ∃ q, src.any (orphan src) = q := ⟨_, rfl⟩
    have HQ2 := Lib.hid hq2
    cases q2
    case true =>
      have E := Lib.hid (famE_2 hq1 hq2)
      clear hq1 hq2
      go_enter Tryz.func49, Tryz.ntmps49
      go_upto_region 1 with (fail)
      try rw [hW1]
      go_wp2_with (first
        | (go_at_call 55; ((with_reducible refine (NC.out _ HX0.out).mono ?_); rintro e w1 ⟨v1, rfl, ho1, hb1⟩; obtain ⟨p5, c5, G5, rfl, r5⟩ := strs_own ho1 SZ.out (by rw [List.length_map]; omega); have R5 := Lib.hid r5; have HX1 := Lib.hid (HX0.out.then_ hb1); (try clear BX0); have BX0 := HBX.out _ HX1.out; clear ho1 hb1 r5))
        | (go_at_call 42; ((with_reducible refine (reps_of src Cl.nm p5 c5 G5 w1.heap.size w1 R5.out.toLo (Nat.le_refl _)).mono ?_); rw [HQ1.out]; rintro e w2 ⟨rfl, hb⟩; have HX2 := Lib.hid (HX1.out.then_ hb); (try clear BX0); have BX0 := HBX.out _ HX2.out; clear hb))
        | (go_at_call 74; ((with_reducible refine (OC.out _ HX2.out).mono ?_); rw [HQ2.out]; rintro e w3 ⟨rfl, hb⟩; have HX3 := Lib.hid (HX2.out.then_ hb); (try clear BX0); have BX0 := HBX.out _ HX3.out; clear hb)))
      go_ret
      exact tInt_mk E.out.symm (HB0.out.trans (HX3.out.mono HB0.out.size))
    case false =>
      have EC := Lib.hid (EC.out hq2)
      have RC := Lib.hid (RC.out hq2)
      have MC := Lib.hid (MC.out hq2)
      obtain ⟨q3, hq3⟩ : ∃ q, src.any (fun c => decide (src.length < (lineOf src c).length)) = q := ⟨_, rfl⟩
      have HQ3 := Lib.hid hq3
      cases q3
      case true =>
        have E := Lib.hid (famE_3 hq1 hq2 hq3)
        clear hq1 hq2 hq3
        go_enter Tryz.func49, Tryz.ntmps49
        go_upto_region 1 with (fail)
        try rw [hW1]
        go_wp2_with (first
          | (go_at_call 55; ((with_reducible refine (NC.out _ HX0.out).mono ?_); rintro e w1 ⟨v1, rfl, ho1, hb1⟩; obtain ⟨p5, c5, G5, rfl, r5⟩ := strs_own ho1 SZ.out (by rw [List.length_map]; omega); have R5 := Lib.hid r5; have HX1 := Lib.hid (HX0.out.then_ hb1); (try clear BX0); have BX0 := HBX.out _ HX1.out; clear ho1 hb1 r5))
          | (go_at_call 42; ((with_reducible refine (reps_of src Cl.nm p5 c5 G5 w1.heap.size w1 R5.out.toLo (Nat.le_refl _)).mono ?_); rw [HQ1.out]; rintro e w2 ⟨rfl, hb⟩; have HX2 := Lib.hid (HX1.out.then_ hb); (try clear BX0); have BX0 := HBX.out _ HX2.out; clear hb))
          | (go_at_call 74; ((with_reducible refine (OC.out _ HX2.out).mono ?_); rw [HQ2.out]; rintro e w3 ⟨rfl, hb⟩; have HX3 := Lib.hid (HX2.out.then_ hb); (try clear BX0); have BX0 := HBX.out _ HX3.out; clear hb))
          | (go_at_call 74; ((with_reducible refine (EC.out _ HX3.out).mono ?_); rw [HQ3.out]; rintro e w4 ⟨rfl, hb⟩; have HX4 := Lib.hid (HX3.out.then_ hb); (try clear BX0); have BX0 := HBX.out _ HX4.out; clear hb)))
        go_ret
        exact tInt_mk E.out.symm (HB0.out.trans (HX4.out.mono HB0.out.size))
      case false =>
        obtain ⟨q4, hq4⟩ : ∃ q, src.any (fun c => dupB ((flatOf src c).fs.map Fld.nm)) = q := ⟨_, rfl⟩
        have HQ4 := Lib.hid hq4
        cases q4
        case true =>
          have E := Lib.hid (famE_4 hq1 hq2 hq3 hq4)
          clear hq1 hq2 hq3 hq4
          go_enter Tryz.func49, Tryz.ntmps49
          go_upto_region 1 with (fail)
          try rw [hW1]
          go_wp2_with (first
            | (go_at_call 55; ((with_reducible refine (NC.out _ HX0.out).mono ?_); rintro e w1 ⟨v1, rfl, ho1, hb1⟩; obtain ⟨p5, c5, G5, rfl, r5⟩ := strs_own ho1 SZ.out (by rw [List.length_map]; omega); have R5 := Lib.hid r5; have HX1 := Lib.hid (HX0.out.then_ hb1); (try clear BX0); have BX0 := HBX.out _ HX1.out; clear ho1 hb1 r5))
            | (go_at_call 42; ((with_reducible refine (reps_of src Cl.nm p5 c5 G5 w1.heap.size w1 R5.out.toLo (Nat.le_refl _)).mono ?_); rw [HQ1.out]; rintro e w2 ⟨rfl, hb⟩; have HX2 := Lib.hid (HX1.out.then_ hb); (try clear BX0); have BX0 := HBX.out _ HX2.out; clear hb))
            | (go_at_call 74; ((with_reducible refine (OC.out _ HX2.out).mono ?_); rw [HQ2.out]; rintro e w3 ⟨rfl, hb⟩; have HX3 := Lib.hid (HX2.out.then_ hb); (try clear BX0); have BX0 := HBX.out _ HX3.out; clear hb))
            | (go_at_call 74; ((with_reducible refine (EC.out _ HX3.out).mono ?_); rw [HQ3.out]; rintro e w4 ⟨rfl, hb⟩; have HX4 := Lib.hid (HX3.out.then_ hb); (try clear BX0); have BX0 := HBX.out _ HX4.out; clear hb))
            | (go_at_call 74; ((with_reducible refine (RC.out _ HX4.out).mono ?_); rw [HQ4.out]; rintro e w5 ⟨rfl, hb⟩; have HX5 := Lib.hid (HX4.out.then_ hb); (try clear BX0); have BX0 := HBX.out _ HX5.out; clear hb)))
          go_ret
          exact tInt_mk E.out.symm (HB0.out.trans (HX5.out.mono HB0.out.size))
        case false =>
          obtain ⟨q5, hq5⟩ : ∃ q, src.any (fun c => large (flatOf src c)) = q := ⟨_, rfl⟩
          have HQ5 := Lib.hid hq5
          cases q5
          case true =>
            have E := Lib.hid (famE_5 hq1 hq2 hq3 hq4 hq5)
            clear hq1 hq2 hq3 hq4 hq5
            go_enter Tryz.func49, Tryz.ntmps49
            go_upto_region 1 with (fail)
            try rw [hW1]
            go_wp2_with (first
              | (go_at_call 55; ((with_reducible refine (NC.out _ HX0.out).mono ?_); rintro e w1 ⟨v1, rfl, ho1, hb1⟩; obtain ⟨p5, c5, G5, rfl, r5⟩ := strs_own ho1 SZ.out (by rw [List.length_map]; omega); have R5 := Lib.hid r5; have HX1 := Lib.hid (HX0.out.then_ hb1); (try clear BX0); have BX0 := HBX.out _ HX1.out; clear ho1 hb1 r5))
              | (go_at_call 42; ((with_reducible refine (reps_of src Cl.nm p5 c5 G5 w1.heap.size w1 R5.out.toLo (Nat.le_refl _)).mono ?_); rw [HQ1.out]; rintro e w2 ⟨rfl, hb⟩; have HX2 := Lib.hid (HX1.out.then_ hb); (try clear BX0); have BX0 := HBX.out _ HX2.out; clear hb))
              | (go_at_call 74; ((with_reducible refine (OC.out _ HX2.out).mono ?_); rw [HQ2.out]; rintro e w3 ⟨rfl, hb⟩; have HX3 := Lib.hid (HX2.out.then_ hb); (try clear BX0); have BX0 := HBX.out _ HX3.out; clear hb))
              | (go_at_call 74; ((with_reducible refine (EC.out _ HX3.out).mono ?_); rw [HQ3.out]; rintro e w4 ⟨rfl, hb⟩; have HX4 := Lib.hid (HX3.out.then_ hb); (try clear BX0); have BX0 := HBX.out _ HX4.out; clear hb))
              | (go_at_call 74; ((with_reducible refine (RC.out _ HX4.out).mono ?_); rw [HQ4.out]; rintro e w5 ⟨rfl, hb⟩; have HX5 := Lib.hid (HX4.out.then_ hb); (try clear BX0); have BX0 := HBX.out _ HX5.out; clear hb))
              | (go_at_call 74; ((with_reducible refine (MC.out _ HX5.out).mono ?_); rw [HQ5.out]; rintro e w6 ⟨rfl, hb⟩; have HX6 := Lib.hid (HX5.out.then_ hb); (try clear BX0); have BX0 := HBX.out _ HX6.out; clear hb)))
            go_ret
            exact tInt_mk E.out.symm (HB0.out.trans (HX6.out.mono HB0.out.size))
          case false =>
            have E := Lib.hid (famE_6 hq1 hq2 hq3 hq4 hq5)
            clear hq1 hq2 hq3 hq4 hq5
            go_enter Tryz.func49, Tryz.ntmps49
            go_upto_region 1 with (fail)
            try rw [hW1]
            go_wp2_with (first
              | (go_at_call 55; ((with_reducible refine (NC.out _ HX0.out).mono ?_); rintro e w1 ⟨v1, rfl, ho1, hb1⟩; obtain ⟨p5, c5, G5, rfl, r5⟩ := strs_own ho1 SZ.out (by rw [List.length_map]; omega); have R5 := Lib.hid r5; have HX1 := Lib.hid (HX0.out.then_ hb1); (try clear BX0); have BX0 := HBX.out _ HX1.out; clear ho1 hb1 r5))
              | (go_at_call 42; ((with_reducible refine (reps_of src Cl.nm p5 c5 G5 w1.heap.size w1 R5.out.toLo (Nat.le_refl _)).mono ?_); rw [HQ1.out]; rintro e w2 ⟨rfl, hb⟩; have HX2 := Lib.hid (HX1.out.then_ hb); (try clear BX0); have BX0 := HBX.out _ HX2.out; clear hb))
              | (go_at_call 74; ((with_reducible refine (OC.out _ HX2.out).mono ?_); rw [HQ2.out]; rintro e w3 ⟨rfl, hb⟩; have HX3 := Lib.hid (HX2.out.then_ hb); (try clear BX0); have BX0 := HBX.out _ HX3.out; clear hb))
              | (go_at_call 74; ((with_reducible refine (EC.out _ HX3.out).mono ?_); rw [HQ3.out]; rintro e w4 ⟨rfl, hb⟩; have HX4 := Lib.hid (HX3.out.then_ hb); (try clear BX0); have BX0 := HBX.out _ HX4.out; clear hb))
              | (go_at_call 74; ((with_reducible refine (RC.out _ HX4.out).mono ?_); rw [HQ4.out]; rintro e w5 ⟨rfl, hb⟩; have HX5 := Lib.hid (HX4.out.then_ hb); (try clear BX0); have BX0 := HBX.out _ HX5.out; clear hb))
              | (go_at_call 74; ((with_reducible refine (MC.out _ HX5.out).mono ?_); rw [HQ5.out]; rintro e w6 ⟨rfl, hb⟩; have HX6 := Lib.hid (HX5.out.then_ hb); (try clear BX0); have BX0 := HBX.out _ HX6.out; clear hb)))
            go_ret
            exact tInt_mk E.out.symm (HB0.out.trans (HX6.out.mono HB0.out.size))
end Go.Proofs.YtoigjeoncdfdmaaGreatDoor.ClW
