/-
  ClassFlattens returns true.
-/
import Derived.Test.YtoigjeoncdfdmaaGreatDoorClClassValid
import Derived.Test.YtoigjeoncdfdmaaGreatDoorClLawM
import Derived.Test.YtoigjeoncdfdmaaGreatDoorClLine
import Derived.Test.YtoigjeoncdfdmaaGreatDoorClFamC
namespace Go.Proofs.YtoigjeoncdfdmaaGreatDoor.ClW
open Go Go.RowKit Go.Shelf Go.Proofs.YtoigjeoncdfdmaaGreatDoor.NumM Go.Proofs.YtoigjeoncdfdmaaGreatDoor.LexW Go.Proofs.YtoigjeoncdfdmaaGreatDoor.LexM Go.Proofs.YtoigjeoncdfdmaaGreatDoor.ClM
attribute [local go_sem] Oper.semAt_some

theorem flat_bad {src : List Cl} {x : ByteArray} (h : (flatE src x).2 ≠ 0) : (flatE src x).1 = zCl := by
  unfold flatE at h ⊢
  rw [lineE_no h]
  rfl
/-- What is known of a flat class. -/
theorem flat_facts {src : List Cl} {x : ByteArray} (h : (flatE src x).2 = 0) : ∃ y c pre, flatE src x = (y, 0) ∧ y.nm = x ∧ y.par = emp ∧ flatE [y] x = (y, 0) ∧ checkE [y] = 0 ∧ fnd src x = some c ∧ c.nm = x ∧ y.fs = pre ++ c.fs ∧
    ((c.par = emp ∧ pre = []) ∨ (same c.par emp = false ∧ ∃ q, flatE src c.par = (q, 0) ∧ q.fs = pre ∧ ∃ v, varsL y = varsL q ++ v)) := by
  obtain ⟨l, hl⟩ : ∃ l, (lineE src x).1 = l := ⟨_, rfl⟩
  have hE : lineE src x = (l, 0) := Prod.ext hl h
  obtain ⟨g, c, hf, rfl⟩ := lineE_ok hE
  obtain ⟨hc, hx⟩ := find_mem hf
  have hy : flatE src x = (flatOf src c, 0) := by unfold flatE; rw [hE]; rfl
  have hv := flat_val g hc
  have hp : (flatOf src c).par = emp := flat_par _
  have hn : (flatOf src c).nm = x := flat_nm.trans hx
  have ha : flatE [flatOf src c] x = (flatOf src c, 0) := by
    have := alone_flatE hv hp
    rw [hn] at this
    exact this
  have hk : checkE [flatOf src c] = 0 := checkE_zero.2 (alone_good hv hp)
  rcases g.step hc with ⟨h1, h2⟩ | ⟨h1, d, hd, h3, h4⟩
  · refine ⟨flatOf src c, c, [], hy, hn, hp, ha, hk, hf, hx, ?_, .inl ⟨h1, rfl⟩⟩
    unfold flatOf
    rw [h2, flatL_fs]
    rfl
  · have hfs : (flatOf src c).fs = (flatOf src d).fs ++ c.fs := by
      unfold flatOf
      rw [h4, flatL_fs]
    refine ⟨flatOf src c, c, (flatOf src d).fs, hy, hn, hp, ha, hk, hf, hx, hfs, .inr ⟨?_, flatOf src d, ?_, rfl, varsL_app (validE_zero.2 (flat_val g hd)) (validE_zero.2 hv) hfs⟩⟩
    · cases hs : same c.par emp
      · rfl
      · exact absurd (same_iff.1 hs) h1
    · unfold flatE
      rw [lineE_of g h3]
      rfl
theorem cv_fs {S : Nat → Prop} {w : World} {pf : Option Addr} {cf : Nat} {pb : Option Addr} {cb : Nat} {c : Cl} (h : CV S w pf cf pb cb c) : ∃ G, RowA S w .fields pf cf G (c.fs.map Fld.lf) := by
  obtain ⟨_, _, G, e, r⟩ := h.fs.rowOf
  rw [List.length_map] at e
  cases e
  exact ⟨G, r⟩
/-- A source of one class. -/
theorem alone_row {W : World} {g : Nat} (hg : W.heap.size = g) {y : Cl} {x : ByteArray} {Y B : Nat} (hn : y.nm = x) (hp : y.par = ⟨#[]⟩) (hY : y.fs.length = Y) (hB : y.bs.length = B) {pf : Option Addr} {cf : Nat} {pb : Option Addr} {cb : Nat} (h : CV (Lo W.heap.size) W pf cf pb cb y) :
    ∃ G, RowA (Lo (W.alloc (.cells #[.string x, .string ⟨#[]⟩, .slice pf Y cf, .slice pb B cb] 25)).heap.size) (W.alloc (.cells #[.string x, .string ⟨#[]⟩, .slice pf Y cf, .slice pb B cb] 25)) .classes (some ⟨g, 0, none⟩) 1 G ([y].map Cl.lf) := by
  have hL := LRow.one (N := W.heap.size) (B := g) hg (Nat.le_refl _) h (Nat.le_refl _)
  obtain ⟨p, cap, G, e, r⟩ := hL.toLo (by simp) (by simp)
  cases e
  have ec : (cc4 y pf cf pb cb).toArray = #[.string x, .string ⟨#[]⟩, .slice pf Y cf, .slice pb B cb] := by
    show #[Value.string y.nm, .string y.par, .slice pf y.fs.length cf, .slice pb y.bs.length cb] = _
    rw [hn, hp, hY, hB]
  rw [ec] at r
  exact ⟨G, r⟩
set_option maxRecDepth 100000 in
set_option maxHeartbeats 8000000 in
theorem flattens_bad (src : List Cl) (x : ByteArray) (p : Option Addr) (cap : Nat) (G : Nat → Nat → Value) (w : World) (ha : RowA (Lo w.heap.size) w .classes p cap G (src.map Cl.lf)) (ht : Tab w) (hz : (flatE src x).2 ≠ 0) :
    Calls Tryz.prog 6 #[.slice p src.length cap, .string x] w (tBool true w) := by
  obtain ⟨b, hf⟩ := few_any src p cap G _ w ha (Nat.le_refl _)
  have FC := Lib.hid hf
  have HT : Hid (∀ W, Below w.heap.size w W → Tab W) := Lib.hid fun W hW => ht.later hW
  obtain ⟨en, hen⟩ : ∃ n, (flatE src x).2 = n := ⟨_, rfl⟩
  have FF : Hid (∀ W, Below w.heap.size w W → Calls Tryz.prog 25 #[.slice p src.length cap, .string x] W fun e w' => ∃ pf cf pb cb, e = .returned (.tuple #[cv ⟨#[]⟩ ⟨#[]⟩ (.slice pf 0 cf) (.slice pb 0 cb), .int .i64 en]) ∧ CV (Lo w'.heap.size) w' pf cf pb cb zCl ∧ Below W.heap.size W w') := Lib.hid fun W hW => by
    have := flatten_any src x p cap G _ W (ha.under hW) hW.size (ht.later hW)
    unfold tFlatE at this
    rw [flat_bad hz, hen] at this
    exact this
  have SZ : Hid (∀ (W : World) (pf pb : Option Addr) (cf cb : Nat), CV (Lo W.heap.size) W pf cf pb cb zCl → Calls Tryz.prog 22 #[cv ⟨#[]⟩ ⟨#[]⟩ (.slice pf 0 cf) (.slice pb 0 cb), cv ⟨#[]⟩ ⟨#[]⟩ (.slice none 0 0) (.slice none 0 0)] W (tBool true W)) := Lib.hid fun W pf pb cf cb h => sameC_any zCl _ W pf pb none none cf cb 0 0 h (.zero _ _) (Nat.le_refl _)
  rw [hen] at hz
  have hze : (en == 0) = false := by rw [beq_eq_false_iff_ne]; exact hz
  have hne : ¬ en = 0 := hz
  clear ha hf ht hen hz
  cases b
  · go_enter Tryz.func6, Tryz.ntmps6
    go_wp2_with (first
      | (go_at_call 17; ((with_reducible refine FC.out.mono ?_); rintro e w1 ⟨rfl, hb1⟩; have HB1 := Lib.hid hb1; clear hb1))
      | (go_at_call 10; ((with_reducible refine (awake_any w1 (HT.out w1 HB1.out)).mono ?_); rintro e w2 ⟨rfl, hb2⟩; have HB2 := Lib.hid (HB1.out.then_ hb2); clear hb2)))
    go_ret
    exact ⟨rfl, HB2.out⟩
  · go_enter Tryz.func6, Tryz.ntmps6
    go_wp2_with (first
      | (go_at_call 17; ((with_reducible refine FC.out.mono ?_); rintro e w1 ⟨rfl, hb1⟩; have HB1 := Lib.hid hb1; clear hb1))
      | (go_at_call 25; ((with_reducible refine (FF.out w1 HB1.out).mono ?_); rintro e w2 ⟨pf, cf, pb, cb, rfl, hcv, hb2⟩; have hn := ba w2 (.cells #[.string ⟨#[]⟩, .string ⟨#[]⟩, .slice pf 0 cf, .slice pb 0 cb] 25); have X2 := Blk.new w2 [.string ⟨#[]⟩, .string ⟨#[]⟩, .slice pf 0 cf, .slice pb 0 cb] 25; have HB2 := Lib.hid ((HB1.out.then_ hb2).then_ hn); have SC := Lib.hid (SZ.out _ pf pb cf cb ((hcv.under hn).wide hn.size)); have c0 := X2.c 0 _ rfl; have c1 := X2.c 1 _ rfl; have c2 := X2.c 2 _ rfl; have c3 := X2.c 3 _ rfl; clear hb2 hn hcv X2))
      | (go_at_call 22; ((with_reducible refine SC.out.mono ?_); rintro e w6 ⟨rfl, hb6⟩; have HB6 := Lib.hid (HB2.out.then_ hb6); clear hb6))
      | (go_at_call 10; ((with_reducible refine (awake_any w6 (HT.out w6 HB6.out)).mono ?_); rintro e w7 ⟨rfl, hb7⟩; have HB7 := Lib.hid (HB6.out.then_ hb7); clear hb7)))
    go_ret
    exact ⟨rfl, HB7.out⟩
set_option maxRecDepth 100000 in
set_option maxHeartbeats 16000000 in
theorem flattens_root (src : List Cl) (x : ByteArray) (p : Option Addr) (cap : Nat) (G : Nat → Nat → Value) (w : World) (ha : RowA (Lo w.heap.size) w .classes p cap G (src.map Cl.lf)) (ht : Tab w) (y c : Cl) (pre : List Fld) (hy : flatE src x = (y, 0)) (hn : y.nm = x) (hp : y.par = emp) (hA : flatE [y] x = (y, 0)) (hk : checkE [y] = 0) (hf : fnd src x = some c) (hcn : c.nm = x) (hfs : y.fs = pre ++ c.fs) (hpar : c.par = emp) (hpre : pre = []) :
    Calls Tryz.prog 6 #[.slice p src.length cap, .string x] w (tBool true w) := by
  obtain ⟨b, hfew⟩ := few_any src p cap G _ w ha (Nat.le_refl _)
  have FC := Lib.hid hfew
  have HT : Hid (∀ W, Below w.heap.size w W → Tab W) := Lib.hid fun W hW => ht.later hW
  obtain ⟨Y, hY⟩ : ∃ n, y.fs.length = n := ⟨_, rfl⟩
  obtain ⟨B, hB⟩ : ∃ n, y.bs.length = n := ⟨_, rfl⟩
  obtain ⟨C, hC⟩ : ∃ n, c.fs.length = n := ⟨_, rfl⟩
  obtain ⟨D, hD⟩ : ∃ n, c.bs.length = n := ⟨_, rfl⟩
  obtain ⟨P, hP⟩ : ∃ n, pre.length = n := ⟨_, rfl⟩
  obtain ⟨cp, hcp⟩ : ∃ s, c.par = s := ⟨_, rfl⟩
  have HYPC : Hid (Y = P + C) := Lib.hid (by rw [← hY, hfs, List.length_append, hP, hC])
  have FL : Hid (∀ W, Below w.heap.size w W → Calls Tryz.prog 25 #[.slice p src.length cap, .string x] W fun e w' => ∃ pf cf pb cb, e = .returned (.tuple #[cv x ⟨#[]⟩ (.slice pf Y cf) (.slice pb B cb), .int .i64 0]) ∧ CV (Lo w'.heap.size) w' pf cf pb cb y ∧ Below W.heap.size W w') := Lib.hid fun W hW => by
    have := flatten_any src x p cap G _ W (ha.under hW) hW.size (ht.later hW)
    unfold tFlatE at this
    rw [hy] at this
    simp only at this
    rw [hn, hp, hY, hB] at this
    exact this
  have FA : Hid (∀ (q : Option Addr) (M : Nat → Nat → Value) (W0 W : World), RowA (Lo W0.heap.size) W0 .classes q 1 M ([y].map Cl.lf) → Below W0.heap.size W0 W → Below w.heap.size w W → Calls Tryz.prog 25 #[.slice q 1 1, .string x] W fun e w' => ∃ pf cf pb cb, e = .returned (.tuple #[cv x ⟨#[]⟩ (.slice pf Y cf) (.slice pb B cb), .int .i64 0]) ∧ CV (Lo w'.heap.size) w' pf cf pb cb y ∧ Below W.heap.size W w') := Lib.hid fun q M W0 W hr h0 hW => by
    have := flatten_any [y] x q 1 M _ W (hr.under h0) h0.size (ht.later hW)
    unfold tFlatE at this
    rw [hA] at this
    simp only at this
    rw [hn, hp, hY, hB] at this
    exact this
  have CA : Hid (∀ (q : Option Addr) (M : Nat → Nat → Value) (W0 W : World), RowA (Lo W0.heap.size) W0 .classes q 1 M ([y].map Cl.lf) → Below W0.heap.size W0 W → Below w.heap.size w W → Calls Tryz.prog 20 #[.slice q 1 1] W (tInt 0 W)) := Lib.hid fun q M W0 W hr h0 hW => by
    have := check_any [y] q 1 M _ W (hr.under h0) h0.size (ht.later hW)
    rw [hk] at this
    exact this
  have FD : Hid (∀ W, Below w.heap.size w W → Calls Tryz.prog 18 #[.slice p src.length cap, .string x] W fun e w' => ∃ pf cf pb cb, e = .returned (.tuple #[cv x cp (.slice pf C cf) (.slice pb D cb), .bool true]) ∧ CV (Lo w'.heap.size) w' pf cf pb cb c ∧ Below W.heap.size W w') := Lib.hid fun W hW => by
    have := findC_any src x p cap G _ W (ha.under hW) hW.size
    unfold tFind at this
    rw [hf] at this
    simp only [Option.getD_some, Option.isSome_some] at this
    rw [hcn, hcp, hC, hD] at this
    exact this
  have SY : Hid (∀ (W : World) (pf pb qf qb : Option Addr) (cf cb df db : Nat), CV (Lo W.heap.size) W pf cf pb cb y → CV (Lo W.heap.size) W qf df qb db y → Calls Tryz.prog 22 #[cv x ⟨#[]⟩ (.slice pf Y cf) (.slice pb B cb), cv x ⟨#[]⟩ (.slice qf Y df) (.slice qb B db)] W (tBool true W)) := Lib.hid fun W pf pb qf qb cf cb df db h1 h2 => by
    have := sameC_any y _ W pf pb qf qb cf cb df db h1 h2 (Nat.le_refl _)
    rw [hn, hp, hY, hB] at this
    exact this
  have AR : Hid (∀ (W : World) (g : Nat), W.heap.size = g → ∀ (pf : Option Addr) (cf : Nat) (pb : Option Addr) (cb : Nat), CV (Lo W.heap.size) W pf cf pb cb y → ∃ G, RowA (Lo (W.alloc (.cells #[.string x, .string ⟨#[]⟩, .slice pf Y cf, .slice pb B cb] 25)).heap.size) (W.alloc (.cells #[.string x, .string ⟨#[]⟩, .slice pf Y cf, .slice pb B cb] 25)) .classes (some ⟨g, 0, none⟩) 1 G ([y].map Cl.lf)) := Lib.hid fun W g hg pf cf pb cb h => alone_row hg hn hp hY hB h
  have HC := Lib.hid hC
  have HY := Lib.hid hY
  have HFS := Lib.hid hfs
  have HP := Lib.hid hP
  obtain rfl : cp = ⟨#[]⟩ := hcp.symm.trans hpar
  have HP0 : Hid (P = 0) := Lib.hid (by rw [← hP, hpre]; rfl)
  clear hpre hpar hcp
  clear ha hfew ht hy hn hp hA hk hf hcn hfs hY hB hC hD hP
  cases b
  · go_enter Tryz.func6, Tryz.ntmps6
    go_wp2_with (first
      | (go_at_call 17; ((with_reducible refine FC.out.mono ?_); rintro e w1 ⟨rfl, hb1⟩; have HB1 := Lib.hid hb1; clear hb1))
      | (go_at_call 10; ((with_reducible refine (awake_any w1 (HT.out w1 HB1.out)).mono ?_); rintro e w2 ⟨rfl, hb2⟩; have HB2 := Lib.hid (HB1.out.then_ hb2); clear hb2)))
    go_ret
    exact ⟨rfl, HB2.out⟩
  · have hCY : (Y : Int) - (C : Int) = (P : Int) := by have := HYPC.out; omega
    have hadd : (P : Int) + (C : Int) = (Y : Int) := by have := HYPC.out; omega
    have hlt0 : decide ((Y : Int) < (C : Int)) = false := decide_eq_false (by have := HYPC.out; omega)
    go_enter Tryz.func6, Tryz.ntmps6
    go_wp2_with (first
      | (go_at_call 17; ((with_reducible refine FC.out.mono ?_); rintro e w1 ⟨rfl, hb1⟩; have HB1 := Lib.hid hb1; clear hb1))
      | (go_at_call 25; ((with_reducible refine (FL.out w1 HB1.out).mono ?_); rintro e w2 ⟨pf, cf, pb, cb, rfl, hcv, hb2⟩; have hn := ba w2 (.cells #[.string x, .string ⟨#[]⟩, .slice pf Y cf, .slice pb B cb] 25); have X2 := Blk.new w2 [.string x, .string ⟨#[]⟩, .slice pf Y cf, .slice pb B cb] 25; have hb3 := (HB1.out.then_ hb2).then_ hn; have hc3 := (hcv.under hn).wide hn.size; obtain ⟨GA, ra⟩ := AR.out (w2.alloc (.cells #[.string x, .string ⟨#[]⟩, .slice pf Y cf, .slice pb B cb] 25)) (w2.heap.size + 1) (by simp) pf cf pb cb hc3; have RA := Lib.hid ra; have hn4 := ba (w2.alloc (.cells #[.string x, .string ⟨#[]⟩, .slice pf Y cf, .slice pb B cb] 25)) (.cells #[.string x, .string ⟨#[]⟩, .slice pf Y cf, .slice pb B cb] 25); have HB4 := Lib.hid (hb3.then_ hn4); have HC4 := Lib.hid ((hc3.under hn4).wide hn4.size); have Y4 := Lib.hid (X2.alloc (.cells #[.string x, .string ⟨#[]⟩, .slice pf Y cf, .slice pb B cb] 25)); have c0 := X2.c 0 _ rfl; have c1 := X2.c 1 _ rfl; have c2 := X2.c 2 _ rfl; have c3 := X2.c 3 _ rfl; clear hb2 hn hcv X2 hb3 hc3 ra hn4))
      | (go_at_call 25; ((with_reducible refine (FA.out _ _ _ _ RA.out (Below.refl _ _) HB4.out).mono ?_); rintro e w5 ⟨qf, df, qb, db, rfl, hcv, hb5⟩; have hn := ba w5 (.cells #[.string x, .string ⟨#[]⟩, .slice qf Y df, .slice qb B db] 25); have Y6 := Lib.hid (Blk.new w5 [.string x, .string ⟨#[]⟩, .slice qf Y df, .slice qb B db] 25); have HL6 := Lib.hid (hb5.then_ hn); have HB6 := Lib.hid (HB4.out.then_ (hb5.then_ hn)); have HC6 := Lib.hid ((hcv.under hn).wide hn.size); clear c0 c1 c2 c3 hb5 hn hcv))
      | (go_at_call 18; ((with_reducible refine (FD.out _ HB6.out).mono ?_); rintro e w7 ⟨of, kf, ob, kb, rfl, hcv, hb7⟩; have hn := ba w7 (.cells #[.string x, .string ⟨#[]⟩, .slice of C kf, .slice ob D kb] 25); have Y8 := Lib.hid (Blk.new w7 [.string x, .string ⟨#[]⟩, .slice of C kf, .slice ob D kb] 25); have HL8 := Lib.hid (hb7.then_ hn); have HB8 := Lib.hid (HB6.out.then_ (hb7.then_ hn)); have HC8 := Lib.hid ((hcv.under hn).wide hn.size); have hl8 := HL6.out.then_ HL8.out; have CK := Lib.hid (CA.out _ _ _ _ RA.out hl8 HB8.out); clear hb7 hn hcv hl8))
      | (go_at_call 20; ((with_reducible refine CK.out.mono ?_); rintro e w9 ⟨rfl, hb9⟩; have HB9 := Lib.hid (HB8.out.then_ hb9); have HL9 := Lib.hid hb9; have m6 := HL8.out.then_ hb9; have m4 := HL6.out.then_ m6; have Y4' := Y4.out.stay m4; have Y6' := Y6.out.stay m6; have SC := Lib.hid (SY.out w9 pf pb qf qb cf cb df db ((HC4.out.under m4).wide m4.size) ((HC6.out.under m6).wide m6.size)); have a0 := Y4'.c 0 _ rfl; have a1 := Y4'.c 1 _ rfl; have a2 := Y4'.c 2 _ rfl; have a3 := Y4'.c 3 _ rfl; have d0 := Y6'.c 0 _ rfl; have d1 := Y6'.c 1 _ rfl; have d2 := Y6'.c 2 _ rfl; have d3 := Y6'.c 3 _ rfl; clear hb9 m6 m4 Y4' Y6'))
      | (go_at_call 22; ((with_reducible refine SC.out.mono ?_); rintro e w10 ⟨rfl, hb10⟩; have HB10 := Lib.hid (HB9.out.then_ hb10); have m8 := HL9.out.then_ hb10; have m6 := HL8.out.then_ m8; have m4 := HL6.out.then_ m6; have X4 := Y4.out.stay m4; have X8 := Y8.out.stay m8; have A10 := Lib.hid X4; have O10 := Lib.hid X8; have HCY := Lib.hid ((HC4.out.under m4).wide m4.size); have HCC := Lib.hid ((HC8.out.under m8).wide m8.size); clear a0 a1 a2 a3 d0 d1 d2 d3; have a1 := X4.c 1 _ rfl; have a2 := X4.c 2 _ rfl; have o1 := X8.c 1 _ rfl; have o2 := X8.c 2 _ rfl; clear hb10 m8 m6 m4 X4 X8)))
    go_loopw [12] (fun i wr => ∃ j : Nat, j ≤ C ∧ i = .int .i64 j ∧ Hid (Below w10.heap.size w10 wr)) (fun i _ => C - (intOf i).toNat)
    case atStart => exact ⟨0, Nat.zero_le _, rfl, Lib.hid (Below.refl _ _)⟩
    case round =>
      obtain ⟨j, hj, rfl, BW⟩ := hrel
      clear a1 a2 o1 o2
      have X4 := A10.out.stay BW.out
      have X8 := O10.out.stay BW.out
      have a1 := X4.c 1 _ rfl
      have a2 := X4.c 2 _ rfl
      have o1 := X8.c 1 _ rfl
      have o2 := X8.c 2 _ rfl
      by_cases hlt : j < C
      · obtain ⟨f, hf⟩ : ∃ f, c.fs[j]? = some f := ⟨_, List.getElem?_eq_getElem (by rw [HC.out]; exact hlt)⟩
        have hg : y.fs[P + j]? = some f := by
          rw [HFS.out, List.getElem?_append_right (by rw [HP.out]; omega), HP.out, show P + j - P = j by omega]
          exact hf
        obtain ⟨Gy, ry⟩ := cv_fs (HCY.out.under BW.out)
        obtain ⟨Gc, rc⟩ := cv_fs (HCC.out.under BW.out)
        have hYb := ry.hl
        rw [List.length_map, HY.out] at hYb
        simp only [byt] at hYb
        obtain ⟨b1, f1, rfl, hb1', e0, e1, e2, e3, e4, _⟩ := ry.fd hg
        obtain ⟨b2, f2, rfl, hb2', g0, g1, g2, g3, g4, _⟩ := rc.fd hf
        have heq := fun W => run_fd_neq W f.nm f.wd f.sz f.md f.ini
        clear hf hg ry rc X4 X8
        go_wp2
        go_quiet (fail)
        go_wp2
        go_roundw
        case rel => exact ⟨j + 1, by omega, by go_num, Lib.hid (drewB BW.out)⟩
        case measure => simp [intOf]; omega
      · have HBr := Lib.hid (HB10.out.then_ BW.out)
        have A11 := Lib.hid X4
        have O11 := Lib.hid X8
        have HCYr := Lib.hid ((HCY.out.under BW.out).wide BW.out.size)
        obtain ⟨Gy, ry⟩ := cv_fs HCYr.out
        have hYb := ry.hl
        rw [List.length_map, HY.out] at hYb
        simp only [byt] at hYb
        clear X4 X8 ry
        have h0 := HP0.out
        have h1 := HYPC.out
        have h17 : ((Y : Int) == (C : Int)) = true := by rw [beq_iff_eq]; omega
        have h17' : decide ((Y : Int) = (C : Int)) = true := decide_eq_true (by omega)
        clear h0 h1
        go_wp2_with (go_at_call 10; ((with_reducible refine (awake_any wr (HT.out wr HBr.out)).mono ?_); rintro e w11 ⟨rfl, hb11⟩; have HB11 := Lib.hid (HBr.out.then_ hb11); clear hb11))
        go_ret
        exact ⟨rfl, HB11.out⟩
set_option maxRecDepth 100000 in
set_option maxHeartbeats 16000000 in
theorem flattens_sub (src : List Cl) (x : ByteArray) (p : Option Addr) (cap : Nat) (G : Nat → Nat → Value) (w : World) (ha : RowA (Lo w.heap.size) w .classes p cap G (src.map Cl.lf)) (ht : Tab w) (y c : Cl) (pre : List Fld) (hy : flatE src x = (y, 0)) (hn : y.nm = x) (hp : y.par = emp) (hA : flatE [y] x = (y, 0)) (hk : checkE [y] = 0) (hf : fnd src x = some c) (hcn : c.nm = x) (hfs : y.fs = pre ++ c.fs) (hs : same c.par emp = false) (q : Cl) (hq : flatE src c.par = (q, 0)) (hqs : q.fs = pre) (vv : List Vr) (hvv : varsL y = varsL q ++ vv) :
    Calls Tryz.prog 6 #[.slice p src.length cap, .string x] w (tBool true w) := by
  obtain ⟨b, hfew⟩ := few_any src p cap G _ w ha (Nat.le_refl _)
  have FC := Lib.hid hfew
  have HT : Hid (∀ W, Below w.heap.size w W → Tab W) := Lib.hid fun W hW => ht.later hW
  obtain ⟨Y, hY⟩ : ∃ n, y.fs.length = n := ⟨_, rfl⟩
  obtain ⟨B, hB⟩ : ∃ n, y.bs.length = n := ⟨_, rfl⟩
  obtain ⟨C, hC⟩ : ∃ n, c.fs.length = n := ⟨_, rfl⟩
  obtain ⟨D, hD⟩ : ∃ n, c.bs.length = n := ⟨_, rfl⟩
  obtain ⟨P, hP⟩ : ∃ n, pre.length = n := ⟨_, rfl⟩
  obtain ⟨cp, hcp⟩ : ∃ s, c.par = s := ⟨_, rfl⟩
  have HYPC : Hid (Y = P + C) := Lib.hid (by rw [← hY, hfs, List.length_append, hP, hC])
  have FL : Hid (∀ W, Below w.heap.size w W → Calls Tryz.prog 25 #[.slice p src.length cap, .string x] W fun e w' => ∃ pf cf pb cb, e = .returned (.tuple #[cv x ⟨#[]⟩ (.slice pf Y cf) (.slice pb B cb), .int .i64 0]) ∧ CV (Lo w'.heap.size) w' pf cf pb cb y ∧ Below W.heap.size W w') := Lib.hid fun W hW => by
    have := flatten_any src x p cap G _ W (ha.under hW) hW.size (ht.later hW)
    unfold tFlatE at this
    rw [hy] at this
    simp only at this
    rw [hn, hp, hY, hB] at this
    exact this
  have FA : Hid (∀ (q : Option Addr) (M : Nat → Nat → Value) (W0 W : World), RowA (Lo W0.heap.size) W0 .classes q 1 M ([y].map Cl.lf) → Below W0.heap.size W0 W → Below w.heap.size w W → Calls Tryz.prog 25 #[.slice q 1 1, .string x] W fun e w' => ∃ pf cf pb cb, e = .returned (.tuple #[cv x ⟨#[]⟩ (.slice pf Y cf) (.slice pb B cb), .int .i64 0]) ∧ CV (Lo w'.heap.size) w' pf cf pb cb y ∧ Below W.heap.size W w') := Lib.hid fun q M W0 W hr h0 hW => by
    have := flatten_any [y] x q 1 M _ W (hr.under h0) h0.size (ht.later hW)
    unfold tFlatE at this
    rw [hA] at this
    simp only at this
    rw [hn, hp, hY, hB] at this
    exact this
  have CA : Hid (∀ (q : Option Addr) (M : Nat → Nat → Value) (W0 W : World), RowA (Lo W0.heap.size) W0 .classes q 1 M ([y].map Cl.lf) → Below W0.heap.size W0 W → Below w.heap.size w W → Calls Tryz.prog 20 #[.slice q 1 1] W (tInt 0 W)) := Lib.hid fun q M W0 W hr h0 hW => by
    have := check_any [y] q 1 M _ W (hr.under h0) h0.size (ht.later hW)
    rw [hk] at this
    exact this
  have FD : Hid (∀ W, Below w.heap.size w W → Calls Tryz.prog 18 #[.slice p src.length cap, .string x] W fun e w' => ∃ pf cf pb cb, e = .returned (.tuple #[cv x cp (.slice pf C cf) (.slice pb D cb), .bool true]) ∧ CV (Lo w'.heap.size) w' pf cf pb cb c ∧ Below W.heap.size W w') := Lib.hid fun W hW => by
    have := findC_any src x p cap G _ W (ha.under hW) hW.size
    unfold tFind at this
    rw [hf] at this
    simp only [Option.getD_some, Option.isSome_some] at this
    rw [hcn, hcp, hC, hD] at this
    exact this
  have SY : Hid (∀ (W : World) (pf pb qf qb : Option Addr) (cf cb df db : Nat), CV (Lo W.heap.size) W pf cf pb cb y → CV (Lo W.heap.size) W qf df qb db y → Calls Tryz.prog 22 #[cv x ⟨#[]⟩ (.slice pf Y cf) (.slice pb B cb), cv x ⟨#[]⟩ (.slice qf Y df) (.slice qb B db)] W (tBool true W)) := Lib.hid fun W pf pb qf qb cf cb df db h1 h2 => by
    have := sameC_any y _ W pf pb qf qb cf cb df db h1 h2 (Nat.le_refl _)
    rw [hn, hp, hY, hB] at this
    exact this
  have AR : Hid (∀ (W : World) (g : Nat), W.heap.size = g → ∀ (pf : Option Addr) (cf : Nat) (pb : Option Addr) (cb : Nat), CV (Lo W.heap.size) W pf cf pb cb y → ∃ G, RowA (Lo (W.alloc (.cells #[.string x, .string ⟨#[]⟩, .slice pf Y cf, .slice pb B cb] 25)).heap.size) (W.alloc (.cells #[.string x, .string ⟨#[]⟩, .slice pf Y cf, .slice pb B cb] 25)) .classes (some ⟨g, 0, none⟩) 1 G ([y].map Cl.lf)) := Lib.hid fun W g hg pf cf pb cb h => alone_row hg hn hp hY hB h
  have HC := Lib.hid hC
  have HY := Lib.hid hY
  have HFS := Lib.hid hfs
  have HP := Lib.hid hP
  obtain ⟨qn, hqn⟩ : ∃ s, q.nm = s := ⟨_, rfl⟩
  obtain ⟨qp, hqp⟩ : ∃ s, q.par = s := ⟨_, rfl⟩
  obtain ⟨E, hE⟩ : ∃ n, q.bs.length = n := ⟨_, rfl⟩
  obtain ⟨l1, hl1⟩ : ∃ l, varsL q = l := ⟨_, rfl⟩
  obtain ⟨l2, hl2⟩ : ∃ l, varsL y = l := ⟨_, rfl⟩
  obtain ⟨L1, hL1⟩ : ∃ n, l1.length = n := ⟨_, rfl⟩
  obtain ⟨L2, hL2⟩ : ∃ n, l2.length = n := ⟨_, rfl⟩
  rw [hl1, hl2] at hvv
  have hL12 : L1 ≤ L2 := by rw [← hL2, hvv, List.length_append, hL1]; omega
  have HL1 := Lib.hid hL1
  have HL2 := Lib.hid hL2
  have HL12 := Lib.hid hvv
  have FQ : Hid (∀ W, Below w.heap.size w W → Calls Tryz.prog 25 #[.slice p src.length cap, .string cp] W fun e w' => ∃ pf cf pb cb, e = .returned (.tuple #[cv qn qp (.slice pf P cf) (.slice pb E cb), .int .i64 0]) ∧ CV (Lo w'.heap.size) w' pf cf pb cb q ∧ Below W.heap.size W w') := Lib.hid fun W hW => by
    have := flatten_any src cp p cap G _ W (ha.under hW) hW.size (ht.later hW)
    unfold tFlatE at this
    rw [← hcp, hq] at this
    simp only at this
    rw [hqn, hqp, hqs, hP, hE] at this
    rw [← hcp]
    exact this
  have VQ : Hid (∀ (W : World) (pf : Option Addr) (cf : Nat) (pb : Option Addr) (cb : Nat), CV (Lo W.heap.size) W pf cf pb cb q → Below w.heap.size w W → Calls Tryz.prog 11 #[cv qn qp (.slice pf P cf) (.slice pb E cb)] W fun e w' => ∃ v, e = .returned v ∧ w'.ownsRow W.heap.size 33 4 v L1 (l1.flatMap Vr.cells) ∧ Below W.heap.size W w') := Lib.hid fun W pf cf pb cb h hW => by
    have := vars_any q pf cf pb cb _ W h (Nat.le_refl _) (ht.later hW)
    unfold tVars at this
    rw [hl1, hL1, hqn, hqp, hqs, hP, hE] at this
    exact this
  have VY : Hid (∀ (W : World) (pf : Option Addr) (cf : Nat) (pb : Option Addr) (cb : Nat), CV (Lo W.heap.size) W pf cf pb cb y → Below w.heap.size w W → Calls Tryz.prog 11 #[cv x ⟨#[]⟩ (.slice pf Y cf) (.slice pb B cb)] W fun e w' => ∃ v, e = .returned v ∧ w'.ownsRow W.heap.size 33 4 v L2 (l2.flatMap Vr.cells) ∧ Below W.heap.size W w') := Lib.hid fun W pf cf pb cb h hW => by
    have := vars_any y pf cf pb cb _ W h (Nat.le_refl _) (ht.later hW)
    unfold tVars at this
    rw [hl2, hL2, hn, hp, hY, hB] at this
    exact this
  have e1 := same_nil (hcp ▸ hs)
  clear hcp hqn hqp hE hl1 hl2 hL1 hL2 hvv hq hqs hs
  clear ha hfew ht hy hn hp hA hk hf hcn hfs hY hB hC hD hP
  cases b
  · go_enter Tryz.func6, Tryz.ntmps6
    go_wp2_with (first
      | (go_at_call 17; ((with_reducible refine FC.out.mono ?_); rintro e w1 ⟨rfl, hb1⟩; have HB1 := Lib.hid hb1; clear hb1))
      | (go_at_call 10; ((with_reducible refine (awake_any w1 (HT.out w1 HB1.out)).mono ?_); rintro e w2 ⟨rfl, hb2⟩; have HB2 := Lib.hid (HB1.out.then_ hb2); clear hb2)))
    go_ret
    exact ⟨rfl, HB2.out⟩
  · have hCY : (Y : Int) - (C : Int) = (P : Int) := by have := HYPC.out; omega
    have hadd : (P : Int) + (C : Int) = (Y : Int) := by have := HYPC.out; omega
    have hlt0 : decide ((Y : Int) < (C : Int)) = false := decide_eq_false (by have := HYPC.out; omega)
    go_enter Tryz.func6, Tryz.ntmps6
    go_wp2_with (first
      | (go_at_call 17; ((with_reducible refine FC.out.mono ?_); rintro e w1 ⟨rfl, hb1⟩; have HB1 := Lib.hid hb1; clear hb1))
      | (go_at_call 25; ((with_reducible refine (FL.out w1 HB1.out).mono ?_); rintro e w2 ⟨pf, cf, pb, cb, rfl, hcv, hb2⟩; have hn := ba w2 (.cells #[.string x, .string ⟨#[]⟩, .slice pf Y cf, .slice pb B cb] 25); have X2 := Blk.new w2 [.string x, .string ⟨#[]⟩, .slice pf Y cf, .slice pb B cb] 25; have hb3 := (HB1.out.then_ hb2).then_ hn; have hc3 := (hcv.under hn).wide hn.size; obtain ⟨GA, ra⟩ := AR.out (w2.alloc (.cells #[.string x, .string ⟨#[]⟩, .slice pf Y cf, .slice pb B cb] 25)) (w2.heap.size + 1) (by simp) pf cf pb cb hc3; have RA := Lib.hid ra; have hn4 := ba (w2.alloc (.cells #[.string x, .string ⟨#[]⟩, .slice pf Y cf, .slice pb B cb] 25)) (.cells #[.string x, .string ⟨#[]⟩, .slice pf Y cf, .slice pb B cb] 25); have HB4 := Lib.hid (hb3.then_ hn4); have HC4 := Lib.hid ((hc3.under hn4).wide hn4.size); have Y4 := Lib.hid (X2.alloc (.cells #[.string x, .string ⟨#[]⟩, .slice pf Y cf, .slice pb B cb] 25)); have c0 := X2.c 0 _ rfl; have c1 := X2.c 1 _ rfl; have c2 := X2.c 2 _ rfl; have c3 := X2.c 3 _ rfl; clear hb2 hn hcv X2 hb3 hc3 ra hn4))
      | (go_at_call 25; ((with_reducible refine (FA.out _ _ _ _ RA.out (Below.refl _ _) HB4.out).mono ?_); rintro e w5 ⟨qf, df, qb, db, rfl, hcv, hb5⟩; have hn := ba w5 (.cells #[.string x, .string ⟨#[]⟩, .slice qf Y df, .slice qb B db] 25); have Y6 := Lib.hid (Blk.new w5 [.string x, .string ⟨#[]⟩, .slice qf Y df, .slice qb B db] 25); have HL6 := Lib.hid (hb5.then_ hn); have HB6 := Lib.hid (HB4.out.then_ (hb5.then_ hn)); have HC6 := Lib.hid ((hcv.under hn).wide hn.size); clear c0 c1 c2 c3 hb5 hn hcv))
      | (go_at_call 18; ((with_reducible refine (FD.out _ HB6.out).mono ?_); rintro e w7 ⟨of, kf, ob, kb, rfl, hcv, hb7⟩; have hn := ba w7 (.cells #[.string x, .string cp, .slice of C kf, .slice ob D kb] 25); have Y8 := Lib.hid (Blk.new w7 [.string x, .string cp, .slice of C kf, .slice ob D kb] 25); have HL8 := Lib.hid (hb7.then_ hn); have HB8 := Lib.hid (HB6.out.then_ (hb7.then_ hn)); have HC8 := Lib.hid ((hcv.under hn).wide hn.size); have hl8 := HL6.out.then_ HL8.out; have CK := Lib.hid (CA.out _ _ _ _ RA.out hl8 HB8.out); clear hb7 hn hcv hl8))
      | (go_at_call 20; ((with_reducible refine CK.out.mono ?_); rintro e w9 ⟨rfl, hb9⟩; have HB9 := Lib.hid (HB8.out.then_ hb9); have HL9 := Lib.hid hb9; have m6 := HL8.out.then_ hb9; have m4 := HL6.out.then_ m6; have Y4' := Y4.out.stay m4; have Y6' := Y6.out.stay m6; have SC := Lib.hid (SY.out w9 pf pb qf qb cf cb df db ((HC4.out.under m4).wide m4.size) ((HC6.out.under m6).wide m6.size)); have a0 := Y4'.c 0 _ rfl; have a1 := Y4'.c 1 _ rfl; have a2 := Y4'.c 2 _ rfl; have a3 := Y4'.c 3 _ rfl; have d0 := Y6'.c 0 _ rfl; have d1 := Y6'.c 1 _ rfl; have d2 := Y6'.c 2 _ rfl; have d3 := Y6'.c 3 _ rfl; clear hb9 m6 m4 Y4' Y6'))
      | (go_at_call 22; ((with_reducible refine SC.out.mono ?_); rintro e w10 ⟨rfl, hb10⟩; have HB10 := Lib.hid (HB9.out.then_ hb10); have m8 := HL9.out.then_ hb10; have m6 := HL8.out.then_ m8; have m4 := HL6.out.then_ m6; have X4 := Y4.out.stay m4; have X8 := Y8.out.stay m8; have A10 := Lib.hid X4; have O10 := Lib.hid X8; have HCY := Lib.hid ((HC4.out.under m4).wide m4.size); have HCC := Lib.hid ((HC8.out.under m8).wide m8.size); clear a0 a1 a2 a3 d0 d1 d2 d3; have a1 := X4.c 1 _ rfl; have a2 := X4.c 2 _ rfl; have o1 := X8.c 1 _ rfl; have o2 := X8.c 2 _ rfl; clear hb10 m8 m6 m4 X4 X8)))
    go_loopw [12] (fun i wr => ∃ j : Nat, j ≤ C ∧ i = .int .i64 j ∧ Hid (Below w10.heap.size w10 wr)) (fun i _ => C - (intOf i).toNat)
    case atStart => exact ⟨0, Nat.zero_le _, rfl, Lib.hid (Below.refl _ _)⟩
    case round =>
      obtain ⟨j, hj, rfl, BW⟩ := hrel
      clear a1 a2 o1 o2
      have X4 := A10.out.stay BW.out
      have X8 := O10.out.stay BW.out
      have a1 := X4.c 1 _ rfl
      have a2 := X4.c 2 _ rfl
      have o1 := X8.c 1 _ rfl
      have o2 := X8.c 2 _ rfl
      by_cases hlt : j < C
      · obtain ⟨f, hf⟩ : ∃ f, c.fs[j]? = some f := ⟨_, List.getElem?_eq_getElem (by rw [HC.out]; exact hlt)⟩
        have hg : y.fs[P + j]? = some f := by
          rw [HFS.out, List.getElem?_append_right (by rw [HP.out]; omega), HP.out, show P + j - P = j by omega]
          exact hf
        obtain ⟨Gy, ry⟩ := cv_fs (HCY.out.under BW.out)
        obtain ⟨Gc, rc⟩ := cv_fs (HCC.out.under BW.out)
        have hYb := ry.hl
        rw [List.length_map, HY.out] at hYb
        simp only [byt] at hYb
        obtain ⟨b1, f1, rfl, hb1', e0, e1, e2, e3, e4, _⟩ := ry.fd hg
        obtain ⟨b2, f2, rfl, hb2', g0, g1, g2, g3, g4, _⟩ := rc.fd hf
        have heq := fun W => run_fd_neq W f.nm f.wd f.sz f.md f.ini
        clear hf hg ry rc X4 X8
        go_wp2
        go_quiet (fail)
        go_wp2
        go_roundw
        case rel => exact ⟨j + 1, by omega, by go_num, Lib.hid (drewB BW.out)⟩
        case measure => simp [intOf]; omega
      · have HBr := Lib.hid (HB10.out.then_ BW.out)
        have A11 := Lib.hid X4
        have O11 := Lib.hid X8
        have HCYr := Lib.hid ((HCY.out.under BW.out).wide BW.out.size)
        obtain ⟨Gy, ry⟩ := cv_fs HCYr.out
        have hYb := ry.hl
        rw [List.length_map, HY.out] at hYb
        simp only [byt] at hYb
        clear X4 X8 ry
        go_wp2_with (first
          | (go_at_call 25; ((with_reducible refine (FQ.out wr HBr.out).mono ?_); rintro e w11 ⟨rf, hf1, rb, hb1', rfl, hcv, hb11⟩; have hn := ba w11 (.cells #[.string qn, .string qp, .slice rf P hf1, .slice rb E hb1'] 25); have X12 := Blk.new w11 [.string qn, .string qp, .slice rf P hf1, .slice rb E hb1'] 25; have m := hb11.then_ hn; have HM := Lib.hid m; have HB12 := Lib.hid (HBr.out.then_ m); have X4 := A11.out.stay m; have X8 := O11.out.stay m; have A12 := Lib.hid X4; have HCY12 := Lib.hid ((HCYr.out.under m).wide m.size); have HCQ := Lib.hid ((hcv.under hn).wide hn.size); clear a1 a2 o1 o2; have a2 := X4.c 2 _ rfl; have o2 := X8.c 2 _ rfl; have q0 := X12.c 0 _ rfl; have q1 := X12.c 1 _ rfl; have q2 := X12.c 2 _ rfl; have q3 := X12.c 3 _ rfl; have V1 := Lib.hid (VQ.out _ rf hf1 rb hb1' HCQ.out HB12.out); clear hb11 hn hcv m X4 X8 X12))
          | (go_at_call 11; ((with_reducible refine V1.out.mono ?_); rintro e w13 ⟨v13, rfl, o13, hb13⟩; have HB13 := Lib.hid (HB12.out.then_ hb13); have X4 := A12.out.stay hb13; obtain ⟨t13, k13, rfl⟩ := own_len o13; have O13 := Lib.hid o13; clear a2 o2 q0 q1 q2 q3; have a0 := X4.c 0 _ rfl; have a1 := X4.c 1 _ rfl; have a2 := X4.c 2 _ rfl; have a3 := X4.c 3 _ rfl; have V2 := Lib.hid (VY.out w13 pf cf pb cb ((HCY12.out.under hb13).wide hb13.size) HB13.out); clear hb13 X4 o13))
          | (go_at_call 11; ((with_reducible refine V2.out.mono ?_); rintro e w14 ⟨v14, rfl, o14, hb14⟩; have HB14 := Lib.hid (HB13.out.then_ hb14); obtain ⟨t14, k14, rfl⟩ := own_len o14; have hmax := own_max o14; have O14 := Lib.hid o14; have O13' := Lib.hid (own_later O13.out hb14); clear hb14 o14 a0 a1 a2 a3)))
        go_loopw [17] (fun i wr => ∃ j : Nat, j ≤ L1 ∧ i = .int .i64 j ∧ Hid (Below w14.heap.size w14 wr)) (fun i _ => L1 - (intOf i).toNat)
        case atStart => exact ⟨0, Nat.zero_le _, rfl, Lib.hid (Below.refl _ _)⟩
        case round =>
          obtain ⟨k, hk, rfl, BX⟩ := hrel
          by_cases hlk : k < L1
          · obtain ⟨z, hz⟩ : ∃ z, l1[k]? = some z := ⟨_, List.getElem?_eq_getElem (by rw [HL1.out]; exact hlk)⟩
            have hz2 : l2[k]? = some z := by
              rw [HL12.out, List.getElem?_append_left (by rw [HL1.out]; exact hlk)]
              exact hz
            obtain ⟨g4, m4, ex4, b0, b1, b2, b3⟩ := own_var (own_later O13'.out BX.out) HL1.out hz
            obtain ⟨g5, m5, ex5, d0, d1, d2, d3⟩ := own_var (own_later O14.out BX.out) HL2.out hz2
            cases ex4
            cases ex5
            have heq := fun W => run_var_neq W z.nm z.wd z.md z.val
            have hge : decide ((L2 : Int) ≤ (k : Int)) = false := decide_eq_false (by omega)
            have hge2 : decide (L2 ≤ k) = false := decide_eq_false (by omega)
            have hge3 : ¬ L2 ≤ k := by omega
            have hge4 : k < L2 := by omega
            clear hz hz2
            go_wp2
            go_quiet (fail)
            go_wp2
            go_roundw
            case rel => exact ⟨k + 1, by omega, by go_num, Lib.hid (drewB BX.out)⟩
            case measure => simp [intOf]; omega
          · have HBx := Lib.hid (HB14.out.then_ BX.out)
            go_wp2_with (go_at_call 10; ((with_reducible refine (awake_any wr (HT.out wr HBx.out)).mono ?_); rintro e w15 ⟨rfl, hb15⟩; have HB15 := Lib.hid (HBx.out.then_ hb15); clear hb15))
            go_ret
            exact ⟨rfl, HB15.out⟩
theorem flattens_any (src : List Cl) (x : ByteArray) (p : Option Addr) (cap : Nat) (G : Nat → Nat → Value) (w : World) (ha : RowA (Lo w.heap.size) w .classes p cap G (src.map Cl.lf)) (ht : Tab w) :
    Calls Tryz.prog 6 #[.slice p src.length cap, .string x] w (tBool true w) := by
  by_cases hz : (flatE src x).2 = 0
  · obtain ⟨y, c, pre, h1, h2, h3, h4, h5, h6, h7, h8, ⟨h9, h10⟩ | ⟨h9, q, h10, h11, v, h12⟩⟩ := flat_facts hz
    · exact flattens_root src x p cap G w ha ht y c pre h1 h2 h3 h4 h5 h6 h7 h8 h9 h10
    · exact flattens_sub src x p cap G w ha ht y c pre h1 h2 h3 h4 h5 h6 h7 h8 h9 q h10 h11 v h12
  · exact flattens_bad src x p cap G w ha ht hz
end Go.Proofs.YtoigjeoncdfdmaaGreatDoor.ClW
