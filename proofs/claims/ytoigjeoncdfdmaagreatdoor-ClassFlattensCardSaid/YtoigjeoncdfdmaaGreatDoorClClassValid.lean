/-
  ClassValid returns true.
-/
import Derived.Test.YtoigjeoncdfdmaaGreatDoorClAwake
import Derived.Test.YtoigjeoncdfdmaaGreatDoorClSmall
import Derived.Test.YtoigjeoncdfdmaaGreatDoorClRVars
import Derived.Test.YtoigjeoncdfdmaaGreatDoorClRValid
namespace Go.Proofs.YtoigjeoncdfdmaaGreatDoor.ClW
open Go Go.RowKit Go.Shelf Go.Proofs.YtoigjeoncdfdmaaGreatDoor.NumM Go.Proofs.YtoigjeoncdfdmaaGreatDoor.LexW Go.Proofs.YtoigjeoncdfdmaaGreatDoor.LexM Go.Proofs.YtoigjeoncdfdmaaGreatDoor.ClM
attribute [local go_sem] Oper.semAt_some

theorem run_var_neq (W : World) (s : ByteArray) (a b c : Int) : (binOp .neq 33 (.agg #[.string s, .int .i64 a, .int .i64 b, .int .i64 c]) (.agg #[.string s, .int .i64 a, .int .i64 b, .int .i64 c])).run Tryz.prog W = .ok (.bool false) W := by
  simp [go_sem]
/-- The length of a row of the call's own is a length. -/
theorem own_max {w : World} {base : Nat} {e : TypeId} {size n : Nat} {v : Value} {xs : List Value} (h : w.ownsRow base e size v n xs) : n ≤ 9223372036854775807 := by
  rcases h.2 with ⟨_, h0⟩ | ⟨g, cap, cur, _, _, _, h1, h2, _⟩
  · omega
  · unfold maxLen at h2; omega
/-- The four cells of a variable of a row. -/
theorem own_var {w : World} {B : Nat} {v : Value} {l : List Vr} {n : Nat} (h : w.ownsRow B 33 4 v n (l.flatMap Vr.cells)) (hn : l.length = n) {j : Nat} {y : Vr} (hj : l[j]? = some y) :
    ∃ g cap, v = .slice (some ⟨g, 0, none⟩) n cap ∧ w.cell? ⟨g, j * 4, none⟩ = some (.string y.nm) ∧ w.cell? ⟨g, j * 4 + 1, none⟩ = some (.int .i64 y.wd) ∧ w.cell? ⟨g, j * 4 + 2, none⟩ = some (.int .i64 y.md) ∧ w.cell? ⟨g, j * 4 + 3, none⟩ = some (.int .i64 y.val) := by
  have hjl := (List.getElem?_eq_some_iff.1 hj).1
  obtain ⟨p, cap, rfl⟩ := own_len h
  obtain ⟨g, rfl, _, _, hc⟩ := own_cells h (by omega)
  have hg : ∀ i, i < 4 → (l.flatMap Vr.cells)[j * 4 + i]? = (Vr.cells y)[i]? := fun i hi => by
    rw [List.flatMap_def]
    exact flat_get (fun vs hvs => by obtain ⟨a, _, rfl⟩ := List.mem_map.1 hvs; rfl) hi (by rw [List.getElem?_map, hj]; rfl)
  have hx : ∀ i u, i < 4 → (Vr.cells y)[i]? = some u → w.cell? ⟨g, j * 4 + i, none⟩ = some u := fun i u hi hu => by
    have := hc (j * 4 + i) (by omega)
    rw [Nat.zero_add] at this
    rw [this, List.getD_eq_getElem?_getD, hg i hi, hu]
    rfl
  exact ⟨g, cap, rfl, hx 0 _ (by decide) rfl, hx 1 _ (by decide) rfl, hx 2 _ (by decide) rfl, hx 3 _ (by decide) rfl⟩
theorem tInt_in {P : Program} {f : FuncId} {args : Array Value} {n : Int} {W : World} (h : Calls P f args W (tInt n W)) : Calls P f args W fun e w' => e = .returned (.int .i64 n) ∧ Below W.heap.size W w' := h
theorem tBool_in {P : Program} {f : FuncId} {args : Array Value} {b : Bool} {W : World} (h : Calls P f args W (tBool b W)) : Calls P f args W fun e w' => e = .returned (.bool b) ∧ Below W.heap.size W w' := h
set_option maxRecDepth 100000 in
set_option maxHeartbeats 16000000 in
theorem valid_law (c : Cl) (pf : Option Addr) (cf : Nat) (pb : Option Addr) (cb : Nat) (nm : ByteArray) (wd sz md ini : Int) (w : World) (hv : CV (Lo w.heap.size) w pf cf pb cb c) (hs : nm.size ≤ 140737488351232) (ht : Tab w) :
    Calls Tryz.prog 3 #[cv c.nm c.par (.slice pf c.fs.length cf) (.slice pb c.bs.length cb), fv nm wd sz md ini] w (tBool true w) := by
  obtain ⟨t, hf⟩ := small_all c
  have HT : Hid (∀ W, Below w.heap.size w W → Tab W) := Lib.hid fun W hW => ht.later hW
  obtain ⟨A, hA⟩ : ∃ n, c.fs.length = n := ⟨_, rfl⟩
  obtain ⟨B, hB⟩ : ∃ n, c.bs.length = n := ⟨_, rfl⟩
  obtain ⟨vl, hvl⟩ : ∃ l, varsL c = l := ⟨_, rfl⟩
  obtain ⟨K, hK⟩ : ∃ n, vl.length = n := ⟨_, rfl⟩
  obtain ⟨fe, hfe⟩ : ∃ n, fieldE ⟨nm, wd, sz, md, ini⟩ = n := ⟨_, rfl⟩
  obtain ⟨ve, hve⟩ : ∃ n, validE c = n := ⟨_, rfl⟩
  have FC : Hid (∀ W, Below w.heap.size w W → Calls Tryz.prog 9 #[cv c.nm c.par (.slice pf A cf) (.slice pb B cb)] W (tBool t W)) := Lib.hid fun W hW => by
    have := hf _ W pf cf pb cb (hv.under hW) hW.size
    rw [hA, hB] at this
    exact this
  have V1 : Hid (∀ W, Below w.heap.size w W → Calls Tryz.prog 11 #[cv c.nm c.par (.slice pf A cf) (.slice pb B cb)] W fun e w' => ∃ v, e = .returned v ∧ w'.ownsRow W.heap.size 33 4 v K (vl.flatMap Vr.cells) ∧ Below W.heap.size W w') := Lib.hid fun W hW => by
    have := vars_any c pf cf pb cb _ W (hv.under hW) hW.size (ht.later hW)
    unfold tVars at this
    rw [hvl, hK, hA, hB] at this
    exact this
  have V2 : Hid (∀ W, Below w.heap.size w W → Calls Tryz.prog 12 #[cv c.nm c.par (.slice pf A cf) (.slice pb B cb)] W fun e w' => ∃ v, e = .returned v ∧ w'.ownsRow W.heap.size 33 4 v K (vl.flatMap Vr.cells) ∧ Below W.heap.size W w') := Lib.hid fun W hW => by
    have := varsR_any c pf cf pb cb _ W (hv.under hW) hW.size
    unfold tVars at this
    rw [hvl, hK, hA, hB] at this
    exact this
  have E1 : Hid (∀ W, Below w.heap.size w W → Calls Tryz.prog 13 #[fv nm wd sz md ini] W (tInt fe W)) := Lib.hid fun W hW => by
    have := valField_any nm wd sz md ini W hs (ht.later hW)
    rw [hfe] at this
    exact this
  have E2 : Hid (∀ W, Below w.heap.size w W → Calls Tryz.prog 14 #[fv nm wd sz md ini] W (tInt fe W)) := Lib.hid fun W _ => by
    have := valFieldR_any nm wd sz md ini W hs
    rw [hfe] at this
    exact this
  have E3 : Hid (∀ W, Below w.heap.size w W → Calls Tryz.prog 15 #[cv c.nm c.par (.slice pf A cf) (.slice pb B cb)] W (tInt ve W)) := Lib.hid fun W hW => by
    have := valid_any c pf cf pb cb _ W (hv.under hW) hW.size (ht.later hW)
    rw [hve, hA, hB] at this
    exact this
  have E4 : Hid (∀ W, Below w.heap.size w W → Calls Tryz.prog 16 #[cv c.nm c.par (.slice pf A cf) (.slice pb B cb)] W (tInt ve W)) := Lib.hid fun W hW => by
    have := validR_any c pf cf pb cb _ W (hv.under hW) hW.size
    rw [hve, hA, hB] at this
    exact this
  have HK := Lib.hid hK
  obtain ⟨W2, hW2⟩ : ∃ W, (w.alloc (.cells #[.string c.nm, .string c.par, .slice pf A cf, .slice pb B cb] 25)).alloc (.cells #[.string nm, .int .i64 wd, .int .i64 sz, .int .i64 md, .int .i64 ini] 27) = W := ⟨_, rfl⟩
  have KK : Hid (Blk W2 w.heap.size [.string c.nm, .string c.par, .slice pf A cf, .slice pb B cb] ∧ Blk W2 (w.heap.size + 1) [.string nm, .int .i64 wd, .int .i64 sz, .int .i64 md, .int .i64 ini]) := Lib.hid (by
    rw [← hW2]
    exact ⟨(Blk.new w _ _).alloc _, Blk.at_ (by simp) _ _⟩)
  have HB2 : Hid (Below w.heap.size w W2) := Lib.hid (by rw [← hW2]; exact (ba w _).then_ (ba _ _))
  have HW2 := Lib.hid hW2
  rw [hA, hB]
  clear hf ht hA hB hvl hK hfe hve hv hs hW2
  by_cases hlen : (100 : Int) < nm.size
  · have d100 : decide ((100 : Int) < nm.size) = true := decide_eq_true hlen
    cases t <;>
    · go_enter Tryz.func3, Tryz.ntmps3
      go_wp2_with (first
        | (go_at_call 9; (rw [HW2.out]; (with_reducible refine (FC.out W2 HB2.out).mono ?_); rintro e w3 ⟨rfl, hb3⟩; have HB3 := Lib.hid (HB2.out.then_ hb3); have HL3 := Lib.hid hb3; obtain ⟨k0, k1⟩ := KK.out; have Y0 := k0.stay hb3; have Y1 := k1.stay hb3; have c0 := Y0.c 0 _ rfl; have c1 := Y0.c 1 _ rfl; have c2 := Y0.c 2 _ rfl; have c3 := Y0.c 3 _ rfl; have d0 := Y1.c 0 _ rfl; have d1 := Y1.c 1 _ rfl; have d2 := Y1.c 2 _ rfl; have d3 := Y1.c 3 _ rfl; have d4 := Y1.c 4 _ rfl; clear k0 k1 Y0 Y1; clear hb3))
        | (go_at_call 10; ((with_reducible refine (awake_any w3 (HT.out w3 HB3.out)).mono ?_); rintro e w9 ⟨rfl, hb9⟩; have HB9 := Lib.hid (HB3.out.then_ hb9); clear hb9)))
      go_ret
      exact ⟨rfl, HB9.out⟩
  · have d100 : decide ((100 : Int) < nm.size) = false := decide_eq_false hlen
    cases t
    · go_enter Tryz.func3, Tryz.ntmps3
      go_wp2_with (first
        | (go_at_call 9; (rw [HW2.out]; (with_reducible refine (FC.out W2 HB2.out).mono ?_); rintro e w3 ⟨rfl, hb3⟩; have HB3 := Lib.hid (HB2.out.then_ hb3); have HL3 := Lib.hid hb3; obtain ⟨k0, k1⟩ := KK.out; have Y0 := k0.stay hb3; have Y1 := k1.stay hb3; have c0 := Y0.c 0 _ rfl; have c1 := Y0.c 1 _ rfl; have c2 := Y0.c 2 _ rfl; have c3 := Y0.c 3 _ rfl; have d0 := Y1.c 0 _ rfl; have d1 := Y1.c 1 _ rfl; have d2 := Y1.c 2 _ rfl; have d3 := Y1.c 3 _ rfl; have d4 := Y1.c 4 _ rfl; clear k0 k1 Y0 Y1; clear hb3))
        | (go_at_call 10; ((with_reducible refine (awake_any w3 (HT.out w3 HB3.out)).mono ?_); rintro e w9 ⟨rfl, hb9⟩; have HB9 := Lib.hid (HB3.out.then_ hb9); clear hb9)))
      go_ret
      exact ⟨rfl, HB9.out⟩
    · go_enter Tryz.func3, Tryz.ntmps3
      go_wp2_with (first
        | (go_at_call 9; (rw [HW2.out]; (with_reducible refine (FC.out W2 HB2.out).mono ?_); rintro e w3 ⟨rfl, hb3⟩; have HB3 := Lib.hid (HB2.out.then_ hb3); have HL3 := Lib.hid hb3; obtain ⟨k0, k1⟩ := KK.out; have Y0 := k0.stay hb3; have Y1 := k1.stay hb3; have c0 := Y0.c 0 _ rfl; have c1 := Y0.c 1 _ rfl; have c2 := Y0.c 2 _ rfl; have c3 := Y0.c 3 _ rfl; have d0 := Y1.c 0 _ rfl; have d1 := Y1.c 1 _ rfl; have d2 := Y1.c 2 _ rfl; have d3 := Y1.c 3 _ rfl; have d4 := Y1.c 4 _ rfl; clear k0 k1 Y0 Y1; clear hb3))
        | (go_at_call 11; ((with_reducible refine (V1.out w3 HB3.out).mono ?_); rintro e w4 ⟨v4, rfl, o4, hb4⟩; have HB4 := Lib.hid (HB3.out.then_ hb4); have hl4 := HL3.out.then_ hb4; have HL4 := Lib.hid hl4; clear c0 c1 c2 c3 d0 d1 d2 d3 d4; obtain ⟨k0, k1⟩ := KK.out; have Y0 := k0.stay hl4; have Y1 := k1.stay hl4; have c0 := Y0.c 0 _ rfl; have c1 := Y0.c 1 _ rfl; have c2 := Y0.c 2 _ rfl; have c3 := Y0.c 3 _ rfl; have d0 := Y1.c 0 _ rfl; have d1 := Y1.c 1 _ rfl; have d2 := Y1.c 2 _ rfl; have d3 := Y1.c 3 _ rfl; have d4 := Y1.c 4 _ rfl; clear k0 k1 Y0 Y1; obtain ⟨q4, k4, rfl⟩ := own_len o4; have O4 := Lib.hid o4; clear hb4 hl4 o4))
        | (go_at_call 12; ((with_reducible refine (V2.out w4 HB4.out).mono ?_); rintro e w5 ⟨v5, rfl, o5, hb5⟩; have HB5 := Lib.hid (HB4.out.then_ hb5); have HL5 := Lib.hid (HL4.out.then_ hb5); clear c0 c1 c2 c3 d0 d1 d2 d3 d4; obtain ⟨q5, k5, rfl⟩ := own_len o5; have hK := own_max o5; have O5 := Lib.hid o5; have O4' := Lib.hid (own_later O4.out hb5); clear hb5 o5)))
      go_loopw [7] (fun i wr => ∃ j : Nat, j ≤ K ∧ i = .int .i64 j ∧ Hid (Below w5.heap.size w5 wr)) (fun i _ => K - (intOf i).toNat)
      case atStart => exact ⟨0, Nat.zero_le _, rfl, Lib.hid (Below.refl _ _)⟩
      case round =>
        obtain ⟨j, hj, rfl, BW⟩ := hrel
        by_cases hlt : j < K
        · obtain ⟨y, hy⟩ : ∃ y, vl[j]? = some y := ⟨_, List.getElem?_eq_getElem (by rw [HK.out]; exact hlt)⟩
          obtain ⟨g4, m4, ex4, a0, a1, a2, a3⟩ := own_var (own_later O4'.out BW.out) HK.out hy
          obtain ⟨g5, m5, ex5, b0, b1, b2, b3⟩ := own_var (own_later O5.out BW.out) HK.out hy
          cases ex4
          cases ex5
          have heq := fun W => run_var_neq W y.nm y.wd y.md y.val
          clear hy
          go_wp2
          go_quiet (fail)
          go_wp2
          go_roundw
          case rel => exact ⟨j + 1, by omega, by go_num, Lib.hid (drewB BW.out)⟩
          case measure => simp [intOf]; omega
        · have HBr := Lib.hid (HB5.out.then_ BW.out)
          have hLr := HL5.out.then_ BW.out
          obtain ⟨k0, k1⟩ := KK.out
          have Y0 := k0.stay hLr
          have Y1 := k1.stay hLr
          have m0 := cell_regrown (Y0.c 0 _ rfl)
          have m1 := cell_regrown (Y0.c 1 _ rfl)
          have m2 := cell_regrown (Y0.c 2 _ rfl)
          have m3 := cell_regrown (Y0.c 3 _ rfl)
          have n0 := cell_regrown (Y1.c 0 _ rfl)
          have n1 := cell_regrown (Y1.c 1 _ rfl)
          have n2 := cell_regrown (Y1.c 2 _ rfl)
          have n3 := cell_regrown (Y1.c 3 _ rfl)
          have n4 := cell_regrown (Y1.c 4 _ rfl)
          have X1 := reB (v := .int .i64 fe) (fun W hW => E1.out W (HBr.out.then_ hW))
          have X2 := reB (v := .int .i64 fe) (fun W hW => E2.out W (HBr.out.then_ hW))
          have X3 := reB (v := .int .i64 ve) (fun W hW => E3.out W (HBr.out.then_ hW))
          have X4 := reB (v := .int .i64 ve) (fun W hW => E4.out W (HBr.out.then_ hW))
          have X5 := reB (v := .bool true) (fun W hW => awake_any W (HT.out W (HBr.out.then_ hW)))
          clear k0 k1 Y0 Y1 hLr
          go_wp2
          refine wp_region_quiet_below (by kernel_rfl) (by kernel_rfl) ?_
          repeat (first | go_big_quiet_step ((first | (go_at_call 13; with_reducible exact X1 _ _) | (go_at_call 14; with_reducible exact X2 _ _) | (go_at_call 15; with_reducible exact X3 _ _) | (go_at_call 16; with_reducible exact X4 _ _) | (go_at_call 10; with_reducible exact X5 _ _))) | quiet_step ((first | (go_at_call 13; with_reducible exact X1 _ _) | (go_at_call 14; with_reducible exact X2 _ _) | (go_at_call 15; with_reducible exact X3 _ _) | (go_at_call 16; with_reducible exact X4 _ _) | (go_at_call 10; with_reducible exact X5 _ _))))
          refine wpQuiet_nil ?_
          intro w6 hw'
          obtain ⟨pq, hw''⟩ := hw'
          have HX : Hid (Below wr.heap.size wr w6) := Lib.hid (by rw [hw'']; exact below_regrown _ _ _)
          clear hw'' X1 X2 X3 X4 X5 m0 m1 m2 m3 n0 n1 n2 n3 n4
          go_wp2
          go_ret
          exact ⟨rfl, HBr.out.then_ HX.out⟩
end Go.Proofs.YtoigjeoncdfdmaaGreatDoor.ClW
