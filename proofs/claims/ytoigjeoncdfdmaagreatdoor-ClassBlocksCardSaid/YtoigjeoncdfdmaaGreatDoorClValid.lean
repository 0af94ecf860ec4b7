/-
  What Valid returns.
-/
import Derived.Test.YtoigjeoncdfdmaaGreatDoorClFamC
import Derived.Test.YtoigjeoncdfdmaaGreatDoorClField
namespace Go.Proofs.YtoigjeoncdfdmaaGreatDoor.ClW
open Go Go.RowKit Go.Proofs.YtoigjeoncdfdmaaGreatDoor.NumM Go.Proofs.YtoigjeoncdfdmaaGreatDoor.LexW Go.Proofs.YtoigjeoncdfdmaaGreatDoor.LexM Go.Proofs.YtoigjeoncdfdmaaGreatDoor.ClM

theorem validE_1 {c : Cl} (h : bad c.nm = true) : validE c = 7 := by unfold validE; rw [h]; rfl
theorem validE_2 {c : Cl} (h : same c.par emp = false) (h2 : bad c.par = true) : validE c = 7 := by unfold validE; rw [h, h2]; cases bad c.nm <;> rfl
theorem validE_pre {c : Cl} (h : bad c.nm = false) (h2 : same c.par emp = true ∨ bad c.par = false) : validE c = if large c = true then 2
  else if firstE (c.fs.map fieldE) ≠ 0 then firstE (c.fs.map fieldE)
  else if c.bs.any (fun b => bad b.nm) = true then 7
  else if (dupB (c.fs.map Fld.nm) || dupB (c.bs.map Bk.nm)) = true then 8
  else 0 := by
  unfold validE
  have : (bad c.nm || (!same c.par emp && bad c.par)) = false := by
    rw [h]
    rcases h2 with h2 | h2 <;> rw [h2] <;> simp
  rw [this]
  rfl
theorem any_map {α β : Type} (l : List α) (f : α → β) (q : β → Bool) : (l.map f).any q = l.any (fun x => q (f x)) := by
  rw [List.any_map]; rfl
theorem first_next {l : List Fld} {k : Nat} {f : Fld} (h : l[k]? = some f) (hz : ∀ x ∈ (l.map fieldE).take k, x = 0) (hf : fieldE f = 0) : ∀ x ∈ (l.map fieldE).take (k + 1), x = 0 := by
  obtain ⟨hk, he⟩ := List.getElem?_eq_some_iff.1 h
  intro x hx
  rw [List.take_succ_eq_append_getElem (by rw [List.length_map]; exact hk), List.mem_append] at hx
  rcases hx with hx | hx
  · exact hz x hx
  · rw [List.mem_singleton, List.getElem_map, he] at hx; rw [hx]; exact hf
theorem first_here {l : List Fld} {k : Nat} {f : Fld} (h : l[k]? = some f) (hz : ∀ x ∈ (l.map fieldE).take k, x = 0) (hf : fieldE f ≠ 0) : firstE (l.map fieldE) = fieldE f :=
  firstE_at (by rw [List.getElem?_map, h]; rfl) hf hz

set_option maxRecDepth 100000 in
set_option maxHeartbeats 8000000 in
theorem valid_1 (c : Cl) (pf : Option Addr) (cf : Nat) (pb : Option Addr) (cb N : Nat) (w : World) (hv : CV (Lo N) w pf cf pb cb c) (ht : Tab w) (h1 : bad c.nm = true) :
    Calls Tryz.prog 15 #[cv c.nm c.par (.slice pf c.fs.length cf) (.slice pb c.bs.length cb)] w (tInt 7 w) := by
  have F0 := Blk.new w [.string c.nm, .string c.par, .slice pf c.fs.length cf, .slice pb c.bs.length cb] 25
  have hb0 := ba w (.cells #[.string c.nm, .string c.par, .slice pf c.fs.length cf, .slice pb c.bs.length cb] 25)
  have NC : Hid (∀ W, Below w.heap.size w W → Calls Tryz.prog 33 #[.string c.nm] W (tBool (!bad c.nm) W)) := Lib.hid fun W hW => isNm_any c.nm W hv.nm (ht.later hW)
  have PC : Hid (∀ W, Below w.heap.size w W → Calls Tryz.prog 33 #[.string c.par] W (tBool (!bad c.par) W)) := Lib.hid fun W hW => isNm_any c.par W hv.par (ht.later hW)
  obtain ⟨_, _, Gf, ef, rf⟩ := hv.fs.rowOf
  rw [List.length_map] at ef
  cases ef
  obtain ⟨_, _, Gb, eb, rb⟩ := hv.bs.rowOf
  rw [List.length_map] at eb
  cases eb
  have hlf := rf.hl
  have hlb := rb.hl
  rw [List.length_map] at hlf hlb
  simp only [byt] at hlf hlb
  have LC : Hid (∀ W, Calls Tryz.prog 37 #[cv c.nm c.par (.slice pf c.fs.length cf) (.slice pb c.bs.length cb)] W (tBool (large c) W)) := Lib.hid fun W => large_any _ _ _ _ _ _ _ _ W (by omega) (by omega)
  have RF := Lib.hid rf
  have RB := Lib.hid rb
  have HT := Lib.hid ht
  have HF := Lib.hid F0
  have HB0 := Lib.hid hb0
  have c0 := F0.c 0 _ rfl
  have c1 := F0.c 1 _ rfl
  have c2 := F0.c 2 _ rfl
  have c3 := F0.c 3 _ rfl
  clear F0 hb0 hv ht rf rb
  rw [h1] at NC
  clear h1
  go_enter Tryz.func15, Tryz.ntmps15
  go_wp2_with (go_at_call 33; ((with_reducible refine (NC.out _ HB0.out).mono ?_); rintro e w1 ⟨rfl, hb⟩; have HB1 := Lib.hid (HB0.out.then_ hb); have G := HF.out.stay hb; (try clear c0); (try clear c1); (try clear c2); (try clear c3); have c0 := G.c 0 _ rfl; have c1 := G.c 1 _ rfl; have c2 := G.c 2 _ rfl; have c3 := G.c 3 _ rfl; have HG1 := Lib.hid G; clear hb G))
  go_ret
  exact ⟨rfl, HB1.out⟩

set_option maxRecDepth 100000 in
set_option maxHeartbeats 8000000 in
theorem valid_2 (c : Cl) (pf : Option Addr) (cf : Nat) (pb : Option Addr) (cb N : Nat) (w : World) (hv : CV (Lo N) w pf cf pb cb c) (ht : Tab w) (h1 : bad c.nm = false) (h2 : same c.par emp = false) (h3 : bad c.par = true) :
    Calls Tryz.prog 15 #[cv c.nm c.par (.slice pf c.fs.length cf) (.slice pb c.bs.length cb)] w (tInt 7 w) := by
  have F0 := Blk.new w [.string c.nm, .string c.par, .slice pf c.fs.length cf, .slice pb c.bs.length cb] 25
  have hb0 := ba w (.cells #[.string c.nm, .string c.par, .slice pf c.fs.length cf, .slice pb c.bs.length cb] 25)
  have NC : Hid (∀ W, Below w.heap.size w W → Calls Tryz.prog 33 #[.string c.nm] W (tBool (!bad c.nm) W)) := Lib.hid fun W hW => isNm_any c.nm W hv.nm (ht.later hW)
  have PC : Hid (∀ W, Below w.heap.size w W → Calls Tryz.prog 33 #[.string c.par] W (tBool (!bad c.par) W)) := Lib.hid fun W hW => isNm_any c.par W hv.par (ht.later hW)
  obtain ⟨_, _, Gf, ef, rf⟩ := hv.fs.rowOf
  rw [List.length_map] at ef
  cases ef
  obtain ⟨_, _, Gb, eb, rb⟩ := hv.bs.rowOf
  rw [List.length_map] at eb
  cases eb
  have hlf := rf.hl
  have hlb := rb.hl
  rw [List.length_map] at hlf hlb
  simp only [byt] at hlf hlb
  have LC : Hid (∀ W, Calls Tryz.prog 37 #[cv c.nm c.par (.slice pf c.fs.length cf) (.slice pb c.bs.length cb)] W (tBool (large c) W)) := Lib.hid fun W => large_any _ _ _ _ _ _ _ _ W (by omega) (by omega)
  have RF := Lib.hid rf
  have RB := Lib.hid rb
  have HT := Lib.hid ht
  have HF := Lib.hid F0
  have HB0 := Lib.hid hb0
  have c0 := F0.c 0 _ rfl
  have c1 := F0.c 1 _ rfl
  have c2 := F0.c 2 _ rfl
  have c3 := F0.c 3 _ rfl
  clear F0 hb0 hv ht rf rb
  have e1 := same_nil h2
  rw [h1] at NC
  rw [h3] at PC
  clear h1 h2 h3
  go_enter Tryz.func15, Tryz.ntmps15
  go_wp2_with (first
    | (go_at_call 33; ((with_reducible refine (NC.out _ HB0.out).mono ?_); rintro e w1 ⟨rfl, hb⟩; have HB1 := Lib.hid (HB0.out.then_ hb); have G := HF.out.stay hb; (try clear c0); (try clear c1); (try clear c2); (try clear c3); have c0 := G.c 0 _ rfl; have c1 := G.c 1 _ rfl; have c2 := G.c 2 _ rfl; have c3 := G.c 3 _ rfl; have HG1 := Lib.hid G; clear hb G))
    | (go_at_call 33; ((with_reducible refine (PC.out _ HB1.out).mono ?_); rintro e w2 ⟨rfl, hb⟩; have HB2 := Lib.hid (HB1.out.then_ hb); have G := HG1.out.stay hb; (try clear c0); (try clear c1); (try clear c2); (try clear c3); have c0 := G.c 0 _ rfl; have c1 := G.c 1 _ rfl; have c2 := G.c 2 _ rfl; have c3 := G.c 3 _ rfl; have HG2 := Lib.hid G; clear hb G)))
  go_ret
  exact ⟨rfl, HB2.out⟩

set_option maxRecDepth 100000 in
set_option maxHeartbeats 8000000 in
theorem valid_30 (c : Cl) (pf : Option Addr) (cf : Nat) (pb : Option Addr) (cb N : Nat) (w : World) (hv : CV (Lo N) w pf cf pb cb c) (ht : Tab w) (h1 : bad c.nm = false) (h2 : same c.par emp = true) (h4 : large c = true) :
    Calls Tryz.prog 15 #[cv c.nm c.par (.slice pf c.fs.length cf) (.slice pb c.bs.length cb)] w (tInt 2 w) := by
  have F0 := Blk.new w [.string c.nm, .string c.par, .slice pf c.fs.length cf, .slice pb c.bs.length cb] 25
  have hb0 := ba w (.cells #[.string c.nm, .string c.par, .slice pf c.fs.length cf, .slice pb c.bs.length cb] 25)
  have NC : Hid (∀ W, Below w.heap.size w W → Calls Tryz.prog 33 #[.string c.nm] W (tBool (!bad c.nm) W)) := Lib.hid fun W hW => isNm_any c.nm W hv.nm (ht.later hW)
  have PC : Hid (∀ W, Below w.heap.size w W → Calls Tryz.prog 33 #[.string c.par] W (tBool (!bad c.par) W)) := Lib.hid fun W hW => isNm_any c.par W hv.par (ht.later hW)
  obtain ⟨_, _, Gf, ef, rf⟩ := hv.fs.rowOf
  rw [List.length_map] at ef
  cases ef
  obtain ⟨_, _, Gb, eb, rb⟩ := hv.bs.rowOf
  rw [List.length_map] at eb
  cases eb
  have hlf := rf.hl
  have hlb := rb.hl
  rw [List.length_map] at hlf hlb
  simp only [byt] at hlf hlb
  have LC : Hid (∀ W, Calls Tryz.prog 37 #[cv c.nm c.par (.slice pf c.fs.length cf) (.slice pb c.bs.length cb)] W (tBool (large c) W)) := Lib.hid fun W => large_any _ _ _ _ _ _ _ _ W (by omega) (by omega)
  have RF := Lib.hid rf
  have RB := Lib.hid rb
  have HT := Lib.hid ht
  have HF := Lib.hid F0
  have HB0 := Lib.hid hb0
  have c0 := F0.c 0 _ rfl
  have c1 := F0.c 1 _ rfl
  have c2 := F0.c 2 _ rfl
  have c3 := F0.c 3 _ rfl
  clear F0 hb0 hv ht rf rb
  have e1 := same_nil h2
  rw [h1] at NC
  rw [h4] at LC
  clear h1 h2 h4
  go_enter Tryz.func15, Tryz.ntmps15
  go_wp2_with (first
    | (go_at_call 33; ((with_reducible refine (NC.out _ HB0.out).mono ?_); rintro e w1 ⟨rfl, hb⟩; have HB1 := Lib.hid (HB0.out.then_ hb); have G := HF.out.stay hb; (try clear c0); (try clear c1); (try clear c2); (try clear c3); have c0 := G.c 0 _ rfl; have c1 := G.c 1 _ rfl; have c2 := G.c 2 _ rfl; have c3 := G.c 3 _ rfl; have HG1 := Lib.hid G; clear hb G))
    | (go_at_call 37; ((with_reducible refine (LC.out _).mono ?_); rintro e w2 ⟨rfl, hb⟩; have HB2 := Lib.hid (HB1.out.then_ hb); have G := HG1.out.stay hb; (try clear c0); (try clear c1); (try clear c2); (try clear c3); have c0 := G.c 0 _ rfl; have c1 := G.c 1 _ rfl; have c2 := G.c 2 _ rfl; have c3 := G.c 3 _ rfl; have HG2 := Lib.hid G; clear hb G)))
  go_ret
  exact ⟨rfl, HB2.out⟩

set_option maxRecDepth 100000 in
set_option maxHeartbeats 8000000 in
theorem valid_40 (c : Cl) (pf : Option Addr) (cf : Nat) (pb : Option Addr) (cb N : Nat) (w : World) (hv : CV (Lo N) w pf cf pb cb c) (hN : N ≤ w.heap.size) (ht : Tab w) (h1 : bad c.nm = false) (h2 : same c.par emp = true) (h4 : large c = false) :
    Calls Tryz.prog 15 #[cv c.nm c.par (.slice pf c.fs.length cf) (.slice pb c.bs.length cb)] w (tInt (validE c) w) := by
  have F0 := Blk.new w [.string c.nm, .string c.par, .slice pf c.fs.length cf, .slice pb c.bs.length cb] 25
  have hb0 := ba w (.cells #[.string c.nm, .string c.par, .slice pf c.fs.length cf, .slice pb c.bs.length cb] 25)
  have NC : Hid (∀ W, Below w.heap.size w W → Calls Tryz.prog 33 #[.string c.nm] W (tBool (!bad c.nm) W)) := Lib.hid fun W hW => isNm_any c.nm W hv.nm (ht.later hW)
  have PC : Hid (∀ W, Below w.heap.size w W → Calls Tryz.prog 33 #[.string c.par] W (tBool (!bad c.par) W)) := Lib.hid fun W hW => isNm_any c.par W hv.par (ht.later hW)
  obtain ⟨_, _, Gf, ef, rf⟩ := hv.fs.rowOf
  rw [List.length_map] at ef
  cases ef
  obtain ⟨_, _, Gb, eb, rb⟩ := hv.bs.rowOf
  rw [List.length_map] at eb
  cases eb
  have hlf := rf.hl
  have hlb := rb.hl
  rw [List.length_map] at hlf hlb
  simp only [byt] at hlf hlb
  have LC : Hid (∀ W, Calls Tryz.prog 37 #[cv c.nm c.par (.slice pf c.fs.length cf) (.slice pb c.bs.length cb)] W (tBool (large c) W)) := Lib.hid fun W => large_any _ _ _ _ _ _ _ _ W (by omega) (by omega)
  have RF := Lib.hid rf
  have RB := Lib.hid rb
  have HT := Lib.hid ht
  have HF := Lib.hid F0
  have HB0 := Lib.hid hb0
  have c0 := F0.c 0 _ rfl
  have c1 := F0.c 1 _ rfl
  have c2 := F0.c 2 _ rfl
  have c3 := F0.c 3 _ rfl
  clear F0 hb0 hv ht rf rb
  have e1 := same_nil h2
  rw [h1] at NC
  have E := Lib.hid (validE_pre h1 (.inl h2))
  rw [h4] at LC E
  have hs2 : c.fs.length ≤ 16 ∧ c.bs.length ≤ 16 := by
    unfold large at h4
    simp only [Bool.or_eq_false_iff, decide_eq_false_iff_not] at h4
    omega
  clear h1 h2 h4
  obtain ⟨K, hK⟩ : ∃ K, c.fs.length = K := ⟨_, rfl⟩
  have HK := Lib.hid hK
  rw [hK] at hs2 c0 c1 c2 c3 HF HB0 LC hlf ⊢
  clear hK
  go_enter Tryz.func15, Tryz.ntmps15
  go_wp2_with (first
    | (go_at_call 33; ((with_reducible refine (NC.out _ HB0.out).mono ?_); rintro e w1 ⟨rfl, hb⟩; have HB1 := Lib.hid (HB0.out.then_ hb); have G := HF.out.stay hb; (try clear c0); (try clear c1); (try clear c2); (try clear c3); have c0 := G.c 0 _ rfl; have c1 := G.c 1 _ rfl; have c2 := G.c 2 _ rfl; have c3 := G.c 3 _ rfl; have HG1 := Lib.hid G; clear hb G))
    | (go_at_call 37; ((with_reducible refine (LC.out _).mono ?_); rintro e w2 ⟨rfl, hb⟩; have HB2 := Lib.hid (HB1.out.then_ hb); have G := HG1.out.stay hb; (try clear c0); (try clear c1); (try clear c2); (try clear c3); have c0 := G.c 0 _ rfl; have c1 := G.c 1 _ rfl; have c2 := G.c 2 _ rfl; have c3 := G.c 3 _ rfl; have HG2 := Lib.hid G; clear hb G)))
  go_loopw [27] (fun i wr => ∃ j : Nat, j ≤ K ∧ i = .int .i64 j ∧ Hid (∀ x ∈ (c.fs.map fieldE).take j, x = 0) ∧ Hid (Below w.heap.size w wr) ∧ Hid (Blk wr w.heap.size [.string c.nm, .string c.par, .slice pf K cf, .slice pb c.bs.length cb])) (fun i _ => K - (intOf i).toNat)
  case atStart => exact ⟨0, Nat.zero_le _, rfl, Lib.hid (by simp), HB2, HG2⟩
  case round =>
    obtain ⟨j, hj, rfl, FZ, BW, BK⟩ := hrel
    (try clear c0); (try clear c1); (try clear c2); (try clear c3)
    by_cases hlt : j < K
    · obtain ⟨f, hf⟩ : ∃ f, c.fs[j]? = some f := ⟨_, List.getElem?_eq_getElem (by rw [HK.out]; exact hlt)⟩
      obtain ⟨b, off, rfl, hb, f0, f1, f2, f3, f4, hsz⟩ := (RF.out.under (BW.out.mono hN)).fd hf
      have FN := Blk.new wr [.string f.nm, .int .i64 f.wd, .int .i64 f.sz, .int .i64 f.md, .int .i64 f.ini] 27
      have d0 := FN.c 0 _ rfl
      have d1 := FN.c 1 _ rfl
      have d2 := FN.c 2 _ rfl
      have d3 := FN.c 3 _ rfl
      have d4 := FN.c 4 _ rfl
      have HBA : Hid (Below w.heap.size w (wr.alloc (.cells #[.string f.nm, .int .i64 f.wd, .int .i64 f.sz, .int .i64 f.md, .int .i64 f.ini] 27))) := Lib.hid (BW.out.alloc BW.out.size _)
      have BKA := Lib.hid (BK.out.alloc (.cells #[.string f.nm, .int .i64 f.wd, .int .i64 f.sz, .int .i64 f.md, .int .i64 f.ini] 27))
      have VC := Lib.hid (valField_any f.nm f.wd f.sz f.md f.ini (wr.alloc (.cells #[.string f.nm, .int .i64 f.wd, .int .i64 f.sz, .int .i64 f.md, .int .i64 f.ini] 27)) hsz (HT.out.later HBA.out))
      have HFF := Lib.hid hf
      clear hf FN hb
      by_cases hz : fieldE f = 0
      · have FZ2 := Lib.hid (first_next HFF.out FZ.out hz)
        rw [hz] at VC
        clear hz
        go_wp2_with (go_at_call 13; ((with_reducible refine VC.out.mono ?_); rintro e w9 ⟨rfl, hb9⟩; have HB9 := Lib.hid (HBA.out.then_ hb9); have BK9 := Lib.hid (BKA.out.stay hb9); clear hb9))
        go_roundw
        case rel => exact ⟨j + 1, by omega, by go_num, FZ2, HB9, BK9⟩
        case measure => simp [intOf]; omega
      · have E2 : Hid (validE c = fieldE f) := Lib.hid (by have := first_here HFF.out FZ.out hz; rw [E.out, if_neg (by simp), if_pos (by rw [this]; exact hz), this])
        have hze : (fieldE f == 0) = false := by rw [beq_eq_false_iff_ne]; exact hz
        have hzn : ¬ fieldE f = 0 := hz
        rw [show (Fld.mk f.nm f.wd f.sz f.md f.ini) = f from rfl] at VC
        rw [E2.out]
        generalize fieldE f = q at *
        clear hz
        go_wp2_with (go_at_call 13; ((with_reducible refine VC.out.mono ?_); rintro e w9 ⟨rfl, hb9⟩; have HB9 := Lib.hid (HBA.out.then_ hb9); have BK9 := Lib.hid (BKA.out.stay hb9); clear hb9))
        go_ret
        exact ⟨rfl, HB9.out⟩
    · have FZ2 : Hid (firstE (c.fs.map fieldE) = 0) := Lib.hid (by
        rw [firstE_zero]
        have := FZ.out
        rw [List.take_of_length_le (by rw [List.length_map, HK.out]; omega)] at this
        exact this)
      have E2 : Hid (validE c = if c.bs.any (fun b => bad b.nm) = true then 7 else if (dupB (c.fs.map Fld.nm) || dupB (c.bs.map Bk.nm)) = true then 8 else 0) := Lib.hid (by rw [E.out, if_neg (by simp), if_neg (by rw [FZ2.out]; simp)])
      have g2 := BK.out.c 2 _ rfl
      have g3 := BK.out.c 3 _ rfl
      have SZF := Lib.hid RF.out.fsz
      have SZB := Lib.hid RB.out.bsz
      have NB : Hid (∀ W, Below w.heap.size w W → Calls Tryz.prog 38 #[.slice pb c.bs.length cb, .func (.func 39) #[] #[]] W (tStrs (c.bs.map Bk.nm) W)) := Lib.hid fun W hW => namesB_any c.bs pb cb Gb N W (RB.out.under (hW.mono hN)) (Nat.le_trans hN hW.size)
      have NF : Hid (∀ W, Below w.heap.size w W → Calls Tryz.prog 43 #[.slice pf K cf, .func (.func 44) #[] #[]] W (tStrs (c.fs.map Fld.nm) W)) := Lib.hid fun W hW => by
        have := namesF_any c.fs pf cf Gf N W (RF.out.under (hW.mono hN)) (Nat.le_trans hN hW.size)
        rw [HK.out] at this
        exact this
      clear E FZ FZ2 LC PC NC
      obtain ⟨q1, hq1⟩ : ∃ q, c.bs.any (fun b => bad b.nm) = q := ⟨_, rfl⟩
      obtain ⟨q2, hq2⟩ : ∃ q, dupB (c.fs.map Fld.nm) = q := ⟨_, rfl⟩
      obtain ⟨q3, hq3⟩ : ∃ q, dupB (c.bs.map Bk.nm) = q := ⟨_, rfl⟩
      have HQ1 : Hid ((c.bs.map Bk.nm).any bad = q1) := Lib.hid (by rw [any_map]; exact hq1)
      have HQ2 := Lib.hid hq2
      have HQ3 := Lib.hid hq3
      rw [hq1, hq2, hq3] at E2
      clear hq1 hq2 hq3
      cases q1
      case true =>
        have E3 : Hid (7 = validE c) := Lib.hid (E2.out.trans rfl).symm
        clear E2
        go_wp2_with (first
          | (go_at_call 38; ((with_reducible refine (NB.out _ BW.out).mono ?_); rintro e w5 ⟨v5, rfl, ho5, hb5⟩; obtain ⟨p5, c5, G5, rfl, r5⟩ := strs_own ho5 SZB.out (by rw [List.length_map]; omega); have R5 := Lib.hid r5; have HB5 := Lib.hid (BW.out.then_ hb5); have BK5 := BK.out.stay hb5; (try clear g2); (try clear g3); have g2 := BK5.c 2 _ rfl; have HK5 := Lib.hid BK5; clear ho5 hb5 r5 BK5))
          | (go_at_call 40; ((with_reducible refine (noName_of c.bs Bk.nm p5 c5 G5 w5.heap.size w5 R5.out.toLo (Nat.le_refl _) (HT.out.later HB5.out)).mono ?_); rw [HQ1.out]; rintro e w6 ⟨rfl, hb6⟩; have HB6 := Lib.hid (HB5.out.then_ hb6); have R6 := Lib.hid (R5.out.toLo.under hb6); have HS6 := Lib.hid hb6.size; have BK6 := HK5.out.stay hb6; (try clear g2); have g2 := BK6.c 2 _ rfl; clear hb6 BK6)))
        go_ret
        exact tInt_mk E3.out HB6.out
      case false =>
        cases q2
        case true =>
          have E3 : Hid (8 = validE c) := Lib.hid (E2.out.trans rfl).symm
          clear E2
          go_wp2_with (first
            | (go_at_call 38; ((with_reducible refine (NB.out _ BW.out).mono ?_); rintro e w5 ⟨v5, rfl, ho5, hb5⟩; obtain ⟨p5, c5, G5, rfl, r5⟩ := strs_own ho5 SZB.out (by rw [List.length_map]; omega); have R5 := Lib.hid r5; have HB5 := Lib.hid (BW.out.then_ hb5); have BK5 := BK.out.stay hb5; (try clear g2); (try clear g3); have g2 := BK5.c 2 _ rfl; have HK5 := Lib.hid BK5; clear ho5 hb5 r5 BK5))
            | (go_at_call 40; ((with_reducible refine (noName_of c.bs Bk.nm p5 c5 G5 w5.heap.size w5 R5.out.toLo (Nat.le_refl _) (HT.out.later HB5.out)).mono ?_); rw [HQ1.out]; rintro e w6 ⟨rfl, hb6⟩; have HB6 := Lib.hid (HB5.out.then_ hb6); have R6 := Lib.hid (R5.out.toLo.under hb6); have HS6 := Lib.hid hb6.size; have BK6 := HK5.out.stay hb6; (try clear g2); have g2 := BK6.c 2 _ rfl; clear hb6 BK6))
            | (go_at_call 43; ((with_reducible refine (NF.out _ HB6.out).mono ?_); rintro e w7 ⟨v7, rfl, ho7, hb7⟩; obtain ⟨p7, c7, G7, rfl, r7⟩ := strs_own ho7 SZF.out (by rw [List.length_map, HK.out]; omega); rw [List.length_map, HK.out]; have HB7 := Lib.hid (HB6.out.then_ hb7); have RP7 := Lib.hid (reps_of c.fs Fld.nm p7 c7 G7 w7.heap.size w7 r7.toLo (Nat.le_refl _)); rw [HK.out] at RP7; have R67 := Lib.hid (R6.out.under (hb7.mono HS6.out)); have HS7 := Lib.hid (Nat.le_trans HS6.out hb7.size); clear ho7 hb7 r7))
            | (go_at_call 42; ((with_reducible refine RP7.out.mono ?_); rw [HQ2.out]; rintro e w8 ⟨rfl, hb8⟩; have HB8 := Lib.hid (HB7.out.then_ hb8); have R68 := Lib.hid (R67.out.under (hb8.mono HS7.out)); have HS8 := Lib.hid (Nat.le_trans HS7.out hb8.size); clear hb8)))
          go_ret
          exact tInt_mk E3.out HB8.out
        case false =>
          cases q3
          case true =>
            have E3 : Hid (8 = validE c) := Lib.hid (E2.out.trans rfl).symm
            clear E2
            go_wp2_with (first
              | (go_at_call 38; ((with_reducible refine (NB.out _ BW.out).mono ?_); rintro e w5 ⟨v5, rfl, ho5, hb5⟩; obtain ⟨p5, c5, G5, rfl, r5⟩ := strs_own ho5 SZB.out (by rw [List.length_map]; omega); have R5 := Lib.hid r5; have HB5 := Lib.hid (BW.out.then_ hb5); have BK5 := BK.out.stay hb5; (try clear g2); (try clear g3); have g2 := BK5.c 2 _ rfl; have HK5 := Lib.hid BK5; clear ho5 hb5 r5 BK5))
              | (go_at_call 40; ((with_reducible refine (noName_of c.bs Bk.nm p5 c5 G5 w5.heap.size w5 R5.out.toLo (Nat.le_refl _) (HT.out.later HB5.out)).mono ?_); rw [HQ1.out]; rintro e w6 ⟨rfl, hb6⟩; have HB6 := Lib.hid (HB5.out.then_ hb6); have R6 := Lib.hid (R5.out.toLo.under hb6); have HS6 := Lib.hid hb6.size; have BK6 := HK5.out.stay hb6; (try clear g2); have g2 := BK6.c 2 _ rfl; clear hb6 BK6))
              | (go_at_call 43; ((with_reducible refine (NF.out _ HB6.out).mono ?_); rintro e w7 ⟨v7, rfl, ho7, hb7⟩; obtain ⟨p7, c7, G7, rfl, r7⟩ := strs_own ho7 SZF.out (by rw [List.length_map, HK.out]; omega); rw [List.length_map, HK.out]; have HB7 := Lib.hid (HB6.out.then_ hb7); have RP7 := Lib.hid (reps_of c.fs Fld.nm p7 c7 G7 w7.heap.size w7 r7.toLo (Nat.le_refl _)); rw [HK.out] at RP7; have R67 := Lib.hid (R6.out.under (hb7.mono HS6.out)); have HS7 := Lib.hid (Nat.le_trans HS6.out hb7.size); clear ho7 hb7 r7))
              | (go_at_call 42; ((with_reducible refine RP7.out.mono ?_); rw [HQ2.out]; rintro e w8 ⟨rfl, hb8⟩; have HB8 := Lib.hid (HB7.out.then_ hb8); have R68 := Lib.hid (R67.out.under (hb8.mono HS7.out)); have HS8 := Lib.hid (Nat.le_trans HS7.out hb8.size); clear hb8))
              | (go_at_call 42; ((with_reducible refine (reps_of c.bs Bk.nm p5 c5 G5 w5.heap.size w8 R68.out HS8.out).mono ?_); rw [HQ3.out]; rintro e w9 ⟨rfl, hb9⟩; have HB9 := Lib.hid (HB8.out.then_ hb9); clear hb9)))
            go_ret
            exact tInt_mk E3.out HB9.out
          case false =>
            have E3 : Hid (0 = validE c) := Lib.hid (E2.out.trans rfl).symm
            clear E2
            go_wp2_with (first
              | (go_at_call 38; ((with_reducible refine (NB.out _ BW.out).mono ?_); rintro e w5 ⟨v5, rfl, ho5, hb5⟩; obtain ⟨p5, c5, G5, rfl, r5⟩ := strs_own ho5 SZB.out (by rw [List.length_map]; omega); have R5 := Lib.hid r5; have HB5 := Lib.hid (BW.out.then_ hb5); have BK5 := BK.out.stay hb5; (try clear g2); (try clear g3); have g2 := BK5.c 2 _ rfl; have HK5 := Lib.hid BK5; clear ho5 hb5 r5 BK5))
              | (go_at_call 40; ((with_reducible refine (noName_of c.bs Bk.nm p5 c5 G5 w5.heap.size w5 R5.out.toLo (Nat.le_refl _) (HT.out.later HB5.out)).mono ?_); rw [HQ1.out]; rintro e w6 ⟨rfl, hb6⟩; have HB6 := Lib.hid (HB5.out.then_ hb6); have R6 := Lib.hid (R5.out.toLo.under hb6); have HS6 := Lib.hid hb6.size; have BK6 := HK5.out.stay hb6; (try clear g2); have g2 := BK6.c 2 _ rfl; clear hb6 BK6))
              | (go_at_call 43; ((with_reducible refine (NF.out _ HB6.out).mono ?_); rintro e w7 ⟨v7, rfl, ho7, hb7⟩; obtain ⟨p7, c7, G7, rfl, r7⟩ := strs_own ho7 SZF.out (by rw [List.length_map, HK.out]; omega); rw [List.length_map, HK.out]; have HB7 := Lib.hid (HB6.out.then_ hb7); have RP7 := Lib.hid (reps_of c.fs Fld.nm p7 c7 G7 w7.heap.size w7 r7.toLo (Nat.le_refl _)); rw [HK.out] at RP7; have R67 := Lib.hid (R6.out.under (hb7.mono HS6.out)); have HS7 := Lib.hid (Nat.le_trans HS6.out hb7.size); clear ho7 hb7 r7))
              | (go_at_call 42; ((with_reducible refine RP7.out.mono ?_); rw [HQ2.out]; rintro e w8 ⟨rfl, hb8⟩; have HB8 := Lib.hid (HB7.out.then_ hb8); have R68 := Lib.hid (R67.out.under (hb8.mono HS7.out)); have HS8 := Lib.hid (Nat.le_trans HS7.out hb8.size); clear hb8))
              | (go_at_call 42; ((with_reducible refine (reps_of c.bs Bk.nm p5 c5 G5 w5.heap.size w8 R68.out HS8.out).mono ?_); rw [HQ3.out]; rintro e w9 ⟨rfl, hb9⟩; have HB9 := Lib.hid (HB8.out.then_ hb9); clear hb9)))
            go_ret
            exact tInt_mk E3.out HB9.out

set_option maxRecDepth 100000 in
set_option maxHeartbeats 8000000 in
theorem valid_31 (c : Cl) (pf : Option Addr) (cf : Nat) (pb : Option Addr) (cb N : Nat) (w : World) (hv : CV (Lo N) w pf cf pb cb c) (ht : Tab w) (h1 : bad c.nm = false) (h2 : same c.par emp = false) (h3 : bad c.par = false) (h4 : large c = true) :
    Calls Tryz.prog 15 #[cv c.nm c.par (.slice pf c.fs.length cf) (.slice pb c.bs.length cb)] w (tInt 2 w) := by
  have F0 := Blk.new w [.string c.nm, .string c.par, .slice pf c.fs.length cf, .slice pb c.bs.length cb] 25
  have hb0 := ba w (.cells #[.string c.nm, .string c.par, .slice pf c.fs.length cf, .slice pb c.bs.length cb] 25)
  have NC : Hid (∀ W, Below w.heap.size w W → Calls Tryz.prog 33 #[.string c.nm] W (tBool (!bad c.nm) W)) := Lib.hid fun W hW => isNm_any c.nm W hv.nm (ht.later hW)
  have PC : Hid (∀ W, Below w.heap.size w W → Calls Tryz.prog 33 #[.string c.par] W (tBool (!bad c.par) W)) := Lib.hid fun W hW => isNm_any c.par W hv.par (ht.later hW)
  obtain ⟨_, _, Gf, ef, rf⟩ := hv.fs.rowOf
  rw [List.length_map] at ef
  cases ef
  obtain ⟨_, _, Gb, eb, rb⟩ := hv.bs.rowOf
  rw [List.length_map] at eb
  cases eb
  have hlf := rf.hl
  have hlb := rb.hl
  rw [List.length_map] at hlf hlb
  simp only [byt] at hlf hlb
  have LC : Hid (∀ W, Calls Tryz.prog 37 #[cv c.nm c.par (.slice pf c.fs.length cf) (.slice pb c.bs.length cb)] W (tBool (large c) W)) := Lib.hid fun W => large_any _ _ _ _ _ _ _ _ W (by omega) (by omega)
  have RF := Lib.hid rf
  have RB := Lib.hid rb
  have HT := Lib.hid ht
  have HF := Lib.hid F0
  have HB0 := Lib.hid hb0
  have c0 := F0.c 0 _ rfl
  have c1 := F0.c 1 _ rfl
  have c2 := F0.c 2 _ rfl
  have c3 := F0.c 3 _ rfl
  clear F0 hb0 hv ht rf rb
  have e1 := same_nil h2
  rw [h1] at NC
  rw [h3] at PC
  rw [h4] at LC
  clear h1 h2 h3 h4
  go_enter Tryz.func15, Tryz.ntmps15
  go_wp2_with (first
    | (go_at_call 33; ((with_reducible refine (NC.out _ HB0.out).mono ?_); rintro e w1 ⟨rfl, hb⟩; have HB1 := Lib.hid (HB0.out.then_ hb); have G := HF.out.stay hb; (try clear c0); (try clear c1); (try clear c2); (try clear c3); have c0 := G.c 0 _ rfl; have c1 := G.c 1 _ rfl; have c2 := G.c 2 _ rfl; have c3 := G.c 3 _ rfl; have HG1 := Lib.hid G; clear hb G))
    | (go_at_call 33; ((with_reducible refine (PC.out _ HB1.out).mono ?_); rintro e w2 ⟨rfl, hb⟩; have HB2 := Lib.hid (HB1.out.then_ hb); have G := HG1.out.stay hb; (try clear c0); (try clear c1); (try clear c2); (try clear c3); have c0 := G.c 0 _ rfl; have c1 := G.c 1 _ rfl; have c2 := G.c 2 _ rfl; have c3 := G.c 3 _ rfl; have HG2 := Lib.hid G; clear hb G))
    | (go_at_call 37; ((with_reducible refine (LC.out _).mono ?_); rintro e w3 ⟨rfl, hb⟩; have HB3 := Lib.hid (HB2.out.then_ hb); have G := HG2.out.stay hb; (try clear c0); (try clear c1); (try clear c2); (try clear c3); have c0 := G.c 0 _ rfl; have c1 := G.c 1 _ rfl; have c2 := G.c 2 _ rfl; have c3 := G.c 3 _ rfl; have HG3 := Lib.hid G; clear hb G)))
  go_ret
  exact ⟨rfl, HB3.out⟩

set_option maxRecDepth 100000 in
set_option maxHeartbeats 8000000 in
theorem valid_41 (c : Cl) (pf : Option Addr) (cf : Nat) (pb : Option Addr) (cb N : Nat) (w : World) (hv : CV (Lo N) w pf cf pb cb c) (hN : N ≤ w.heap.size) (ht : Tab w) (h1 : bad c.nm = false) (h2 : same c.par emp = false) (h3 : bad c.par = false) (h4 : large c = false) :
    Calls Tryz.prog 15 #[cv c.nm c.par (.slice pf c.fs.length cf) (.slice pb c.bs.length cb)] w (tInt (validE c) w) := by
  have F0 := Blk.new w [.string c.nm, .string c.par, .slice pf c.fs.length cf, .slice pb c.bs.length cb] 25
  have hb0 := ba w (.cells #[.string c.nm, .string c.par, .slice pf c.fs.length cf, .slice pb c.bs.length cb] 25)
  have NC : Hid (∀ W, Below w.heap.size w W → Calls Tryz.prog 33 #[.string c.nm] W (tBool (!bad c.nm) W)) := Lib.hid fun W hW => isNm_any c.nm W hv.nm (ht.later hW)
  have PC : Hid (∀ W, Below w.heap.size w W → Calls Tryz.prog 33 #[.string c.par] W (tBool (!bad c.par) W)) := Lib.hid fun W hW => isNm_any c.par W hv.par (ht.later hW)
  obtain ⟨_, _, Gf, ef, rf⟩ := hv.fs.rowOf
  rw [List.length_map] at ef
  cases ef
  obtain ⟨_, _, Gb, eb, rb⟩ := hv.bs.rowOf
  rw [List.length_map] at eb
  cases eb
  have hlf := rf.hl
  have hlb := rb.hl
  rw [List.length_map] at hlf hlb
  simp only [byt] at hlf hlb
  have LC : Hid (∀ W, Calls Tryz.prog 37 #[cv c.nm c.par (.slice pf c.fs.length cf) (.slice pb c.bs.length cb)] W (tBool (large c) W)) := Lib.hid fun W => large_any _ _ _ _ _ _ _ _ W (by omega) (by omega)
  have RF := Lib.hid rf
  have RB := Lib.hid rb
  have HT := Lib.hid ht
  have HF := Lib.hid F0
  have HB0 := Lib.hid hb0
  have c0 := F0.c 0 _ rfl
  have c1 := F0.c 1 _ rfl
  have c2 := F0.c 2 _ rfl
  have c3 := F0.c 3 _ rfl
  clear F0 hb0 hv ht rf rb
  have e1 := same_nil h2
  rw [h1] at NC
  rw [h3] at PC
  have E := Lib.hid (validE_pre h1 (.inr h3))
  rw [h4] at LC E
  have hs2 : c.fs.length ≤ 16 ∧ c.bs.length ≤ 16 := by
    unfold large at h4
    simp only [Bool.or_eq_false_iff, decide_eq_false_iff_not] at h4
    omega
  clear h1 h2 h3 h4
  obtain ⟨K, hK⟩ : ∃ K, c.fs.length = K := ⟨_, rfl⟩
  have HK := Lib.hid hK
  rw [hK] at hs2 c0 c1 c2 c3 HF HB0 LC hlf ⊢
  clear hK
  go_enter Tryz.func15, Tryz.ntmps15
  go_wp2_with (first
    | (go_at_call 33; ((with_reducible refine (NC.out _ HB0.out).mono ?_); rintro e w1 ⟨rfl, hb⟩; have HB1 := Lib.hid (HB0.out.then_ hb); have G := HF.out.stay hb; (try clear c0); (try clear c1); (try clear c2); (try clear c3); have c0 := G.c 0 _ rfl; have c1 := G.c 1 _ rfl; have c2 := G.c 2 _ rfl; have c3 := G.c 3 _ rfl; have HG1 := Lib.hid G; clear hb G))
    | (go_at_call 33; ((with_reducible refine (PC.out _ HB1.out).mono ?_); rintro e w2 ⟨rfl, hb⟩; have HB2 := Lib.hid (HB1.out.then_ hb); have G := HG1.out.stay hb; (try clear c0); (try clear c1); (try clear c2); (try clear c3); have c0 := G.c 0 _ rfl; have c1 := G.c 1 _ rfl; have c2 := G.c 2 _ rfl; have c3 := G.c 3 _ rfl; have HG2 := Lib.hid G; clear hb G))
    | (go_at_call 37; ((with_reducible refine (LC.out _).mono ?_); rintro e w3 ⟨rfl, hb⟩; have HB3 := Lib.hid (HB2.out.then_ hb); have G := HG2.out.stay hb; (try clear c0); (try clear c1); (try clear c2); (try clear c3); have c0 := G.c 0 _ rfl; have c1 := G.c 1 _ rfl; have c2 := G.c 2 _ rfl; have c3 := G.c 3 _ rfl; have HG3 := Lib.hid G; clear hb G)))
  go_loopw [27] (fun i wr => ∃ j : Nat, j ≤ K ∧ i = .int .i64 j ∧ Hid (∀ x ∈ (c.fs.map fieldE).take j, x = 0) ∧ Hid (Below w.heap.size w wr) ∧ Hid (Blk wr w.heap.size [.string c.nm, .string c.par, .slice pf K cf, .slice pb c.bs.length cb])) (fun i _ => K - (intOf i).toNat)
  case atStart => exact ⟨0, Nat.zero_le _, rfl, Lib.hid (by simp), HB3, HG3⟩
  case round =>
    obtain ⟨j, hj, rfl, FZ, BW, BK⟩ := hrel
    (try clear c0); (try clear c1); (try clear c2); (try clear c3)
    by_cases hlt : j < K
    · obtain ⟨f, hf⟩ : ∃ f, c.fs[j]? = some f := ⟨_, List.getElem?_eq_getElem (by rw [HK.out]; exact hlt)⟩
      obtain ⟨b, off, rfl, hb, f0, f1, f2, f3, f4, hsz⟩ := (RF.out.under (BW.out.mono hN)).fd hf
      have FN := Blk.new wr [.string f.nm, .int .i64 f.wd, .int .i64 f.sz, .int .i64 f.md, .int .i64 f.ini] 27
      have d0 := FN.c 0 _ rfl
      have d1 := FN.c 1 _ rfl
      have d2 := FN.c 2 _ rfl
      have d3 := FN.c 3 _ rfl
      have d4 := FN.c 4 _ rfl
      have HBA : Hid (Below w.heap.size w (wr.alloc (.cells #[.string f.nm, .int .i64 f.wd, .int .i64 f.sz, .int .i64 f.md, .int .i64 f.ini] 27))) := Lib.hid (BW.out.alloc BW.out.size _)
      have BKA := Lib.hid (BK.out.alloc (.cells #[.string f.nm, .int .i64 f.wd, .int .i64 f.sz, .int .i64 f.md, .int .i64 f.ini] 27))
      have VC := Lib.hid (valField_any f.nm f.wd f.sz f.md f.ini (wr.alloc (.cells #[.string f.nm, .int .i64 f.wd, .int .i64 f.sz, .int .i64 f.md, .int .i64 f.ini] 27)) hsz (HT.out.later HBA.out))
      have HFF := Lib.hid hf
      clear hf FN hb
      by_cases hz : fieldE f = 0
      · have FZ2 := Lib.hid (first_next HFF.out FZ.out hz)
        rw [hz] at VC
        clear hz
        go_wp2_with (go_at_call 13; ((with_reducible refine VC.out.mono ?_); rintro e w9 ⟨rfl, hb9⟩; have HB9 := Lib.hid (HBA.out.then_ hb9); have BK9 := Lib.hid (BKA.out.stay hb9); clear hb9))
        go_roundw
        case rel => exact ⟨j + 1, by omega, by go_num, FZ2, HB9, BK9⟩
        case measure => simp [intOf]; omega
      · have E2 : Hid (validE c = fieldE f) := Lib.hid (by have := first_here HFF.out FZ.out hz; rw [E.out, if_neg (by simp), if_pos (by rw [this]; exact hz), this])
        have hze : (fieldE f == 0) = false := by rw [beq_eq_false_iff_ne]; exact hz
        have hzn : ¬ fieldE f = 0 := hz
        rw [show (Fld.mk f.nm f.wd f.sz f.md f.ini) = f from rfl] at VC
        rw [E2.out]
        generalize fieldE f = q at *
        clear hz
        go_wp2_with (go_at_call 13; ((with_reducible refine VC.out.mono ?_); rintro e w9 ⟨rfl, hb9⟩; have HB9 := Lib.hid (HBA.out.then_ hb9); have BK9 := Lib.hid (BKA.out.stay hb9); clear hb9))
        go_ret
        exact ⟨rfl, HB9.out⟩
    · have FZ2 : Hid (firstE (c.fs.map fieldE) = 0) := Lib.hid (by
        rw [firstE_zero]
        have := FZ.out
        rw [List.take_of_length_le (by rw [List.length_map, HK.out]; omega)] at this
        exact this)
      have E2 : Hid (validE c = if c.bs.any (fun b => bad b.nm) = true then 7 else if (dupB (c.fs.map Fld.nm) || dupB (c.bs.map Bk.nm)) = true then 8 else 0) := Lib.hid (by rw [E.out, if_neg (by simp), if_neg (by rw [FZ2.out]; simp)])
      have g2 := BK.out.c 2 _ rfl
      have g3 := BK.out.c 3 _ rfl
      have SZF := Lib.hid RF.out.fsz
      have SZB := Lib.hid RB.out.bsz
      have NB : Hid (∀ W, Below w.heap.size w W → Calls Tryz.prog 38 #[.slice pb c.bs.length cb, .func (.func 39) #[] #[]] W (tStrs (c.bs.map Bk.nm) W)) := Lib.hid fun W hW => namesB_any c.bs pb cb Gb N W (RB.out.under (hW.mono hN)) (Nat.le_trans hN hW.size)
      have NF : Hid (∀ W, Below w.heap.size w W → Calls Tryz.prog 43 #[.slice pf K cf, .func (.func 44) #[] #[]] W (tStrs (c.fs.map Fld.nm) W)) := Lib.hid fun W hW => by
        have := namesF_any c.fs pf cf Gf N W (RF.out.under (hW.mono hN)) (Nat.le_trans hN hW.size)
        rw [HK.out] at this
        exact this
      clear E FZ FZ2 LC PC NC
      obtain ⟨q1, hq1⟩ : ∃ q, c.bs.any (fun b => bad b.nm) = q := ⟨_, rfl⟩
      obtain ⟨q2, hq2⟩ : ∃ q, dupB (c.fs.map Fld.nm) = q := ⟨_, rfl⟩
      obtain ⟨q3, hq3⟩ : ∃ q, dupB (c.bs.map Bk.nm) = q := ⟨_, rfl⟩
      have HQ1 : Hid ((c.bs.map Bk.nm).any bad = q1) := Lib.hid (by rw [any_map]; exact hq1)
      have HQ2 := Lib.hid hq2
      have HQ3 := Lib.hid hq3
      rw [hq1, hq2, hq3] at E2
      clear hq1 hq2 hq3
      cases q1
      case true =>
        have E3 : Hid (7 = validE c) := Lib.hid (E2.out.trans rfl).symm
        clear E2
        go_wp2_with (first
          | (go_at_call 38; ((with_reducible refine (NB.out _ BW.out).mono ?_); rintro e w5 ⟨v5, rfl, ho5, hb5⟩; obtain ⟨p5, c5, G5, rfl, r5⟩ := strs_own ho5 SZB.out (by rw [List.length_map]; omega); have R5 := Lib.hid r5; have HB5 := Lib.hid (BW.out.then_ hb5); have BK5 := BK.out.stay hb5; (try clear g2); (try clear g3); have g2 := BK5.c 2 _ rfl; have HK5 := Lib.hid BK5; clear ho5 hb5 r5 BK5))
          | (go_at_call 40; ((with_reducible refine (noName_of c.bs Bk.nm p5 c5 G5 w5.heap.size w5 R5.out.toLo (Nat.le_refl _) (HT.out.later HB5.out)).mono ?_); rw [HQ1.out]; rintro e w6 ⟨rfl, hb6⟩; have HB6 := Lib.hid (HB5.out.then_ hb6); have R6 := Lib.hid (R5.out.toLo.under hb6); have HS6 := Lib.hid hb6.size; have BK6 := HK5.out.stay hb6; (try clear g2); have g2 := BK6.c 2 _ rfl; clear hb6 BK6)))
        go_ret
        exact tInt_mk E3.out HB6.out
      case false =>
        cases q2
        case true =>
          have E3 : Hid (8 = validE c) := Lib.hid (E2.out.trans rfl).symm
          clear E2
          go_wp2_with (first
            | (go_at_call 38; ((with_reducible refine (NB.out _ BW.out).mono ?_); rintro e w5 ⟨v5, rfl, ho5, hb5⟩; obtain ⟨p5, c5, G5, rfl, r5⟩ := strs_own ho5 SZB.out (by rw [List.length_map]; omega); have R5 := Lib.hid r5; have HB5 := Lib.hid (BW.out.then_ hb5); have BK5 := BK.out.stay hb5; (try clear g2); (try clear g3); have g2 := BK5.c 2 _ rfl; have HK5 := Lib.hid BK5; clear ho5 hb5 r5 BK5))
            | (go_at_call 40; ((with_reducible refine (noName_of c.bs Bk.nm p5 c5 G5 w5.heap.size w5 R5.out.toLo (Nat.le_refl _) (HT.out.later HB5.out)).mono ?_); rw [HQ1.out]; rintro e w6 ⟨rfl, hb6⟩; have HB6 := Lib.hid (HB5.out.then_ hb6); have R6 := Lib.hid (R5.out.toLo.under hb6); have HS6 := Lib.hid hb6.size; have BK6 := HK5.out.stay hb6; (try clear g2); have g2 := BK6.c 2 _ rfl; clear hb6 BK6))
            | (go_at_call 43; ((with_reducible refine (NF.out _ HB6.out).mono ?_); rintro e w7 ⟨v7, rfl, ho7, hb7⟩; obtain ⟨p7, c7, G7, rfl, r7⟩ := strs_own ho7 SZF.out (by rw [List.length_map, HK.out]; omega); rw [List.length_map, HK.out]; have HB7 := Lib.hid (HB6.out.then_ hb7); have RP7 := Lib.hid (reps_of c.fs Fld.nm p7 c7 G7 w7.heap.size w7 r7.toLo (Nat.le_refl _)); rw [HK.out] at RP7; have R67 := Lib.hid (R6.out.under (hb7.mono HS6.out)); have HS7 := Lib.hid (Nat.le_trans HS6.out hb7.size); clear ho7 hb7 r7))
            | (go_at_call 42; ((with_reducible refine RP7.out.mono ?_); rw [HQ2.out]; rintro e w8 ⟨rfl, hb8⟩; have HB8 := Lib.hid (HB7.out.then_ hb8); have R68 := Lib.hid (R67.out.under (hb8.mono HS7.out)); have HS8 := Lib.hid (Nat.le_trans HS7.out hb8.size); clear hb8)))
          go_ret
          exact tInt_mk E3.out HB8.out
        case false =>
          cases q3
          case true =>
            have E3 : Hid (8 = validE c) := Lib.hid (E2.out.trans rfl).symm
            clear E2
            go_wp2_with (first
              | (go_at_call 38; ((with_reducible refine (NB.out _ BW.out).mono ?_); rintro e w5 ⟨v5, rfl, ho5, hb5⟩; obtain ⟨p5, c5, G5, rfl, r5⟩ := strs_own ho5 SZB.out (by rw [List.length_map]; omega); have R5 := Lib.hid r5; have HB5 := Lib.hid (BW.out.then_ hb5); have BK5 := BK.out.stay hb5; (try clear g2); (try clear g3); have g2 := BK5.c 2 _ rfl; have HK5 := Lib.hid BK5; clear ho5 hb5 r5 BK5))
              | (go_at_call 40; ((with_reducible refine (noName_of c.bs Bk.nm p5 c5 G5 w5.heap.size w5 R5.out.toLo (Nat.le_refl _) (HT.out.later HB5.out)).mono ?_); rw [HQ1.out]; rintro e w6 ⟨rfl, hb6⟩; have HB6 := Lib.hid (HB5.out.then_ hb6); have R6 := Lib.hid (R5.out.toLo.under hb6); have HS6 := Lib.hid hb6.size; have BK6 := HK5.out.stay hb6; (try clear g2); have g2 := BK6.c 2 _ rfl; clear hb6 BK6))
              | (go_at_call 43; ((with_reducible refine (NF.out _ HB6.out).mono ?_); rintro e w7 ⟨v7, rfl, ho7, hb7⟩; obtain ⟨p7, c7, G7, rfl, r7⟩ := strs_own ho7 SZF.out (by rw [List.length_map, HK.out]; omega); rw [List.length_map, HK.out]; have HB7 := Lib.hid (HB6.out.then_ hb7); have RP7 := Lib.hid (reps_of c.fs Fld.nm p7 c7 G7 w7.heap.size w7 r7.toLo (Nat.le_refl _)); rw [HK.out] at RP7; have R67 := Lib.hid (R6.out.under (hb7.mono HS6.out)); have HS7 := Lib.hid (Nat.le_trans HS6.out hb7.size); clear ho7 hb7 r7))
              | (go_at_call 42; ((with_reducible refine RP7.out.mono ?_); rw [HQ2.out]; rintro e w8 ⟨rfl, hb8⟩; have HB8 := Lib.hid (HB7.out.then_ hb8); have R68 := Lib.hid (R67.out.under (hb8.mono HS7.out)); have HS8 := Lib.hid (Nat.le_trans HS7.out hb8.size); clear hb8))
              | (go_at_call 42; ((with_reducible refine (reps_of c.bs Bk.nm p5 c5 G5 w5.heap.size w8 R68.out HS8.out).mono ?_); rw [HQ3.out]; rintro e w9 ⟨rfl, hb9⟩; have HB9 := Lib.hid (HB8.out.then_ hb9); clear hb9)))
            go_ret
            exact tInt_mk E3.out HB9.out
          case false =>
            have E3 : Hid (0 = validE c) := Lib.hid (E2.out.trans rfl).symm
            clear E2
            go_wp2_with (first
              | (go_at_call 38; ((with_reducible refine (NB.out _ BW.out).mono ?_); rintro e w5 ⟨v5, rfl, ho5, hb5⟩; obtain ⟨p5, c5, G5, rfl, r5⟩ := strs_own ho5 SZB.out (by rw [List.length_map]; omega); have R5 := Lib.hid r5; have HB5 := Lib.hid (BW.out.then_ hb5); have BK5 := BK.out.stay hb5; (try clear g2); (try clear g3); have g2 := BK5.c 2 _ rfl; have HK5 := Lib.hid BK5; clear ho5 hb5 r5 BK5))
              | (go_at_call 40; ((with_reducible refine (noName_of c.bs Bk.nm p5 c5 G5 w5.heap.size w5 R5.out.toLo (Nat.le_refl _) (HT.out.later HB5.out)).mono ?_); rw [HQ1.out]; rintro e w6 ⟨rfl, hb6⟩; have HB6 := Lib.hid (HB5.out.then_ hb6); have R6 := Lib.hid (R5.out.toLo.under hb6); have HS6 := Lib.hid hb6.size; have BK6 := HK5.out.stay hb6; (try clear g2); have g2 := BK6.c 2 _ rfl; clear hb6 BK6))
              | (go_at_call 43; ((with_reducible refine (NF.out _ HB6.out).mono ?_); rintro e w7 ⟨v7, rfl, ho7, hb7⟩; obtain ⟨p7, c7, G7, rfl, r7⟩ := strs_own ho7 SZF.out (by rw [List.length_map, HK.out]; omega); rw [List.length_map, HK.out]; have HB7 := Lib.hid (HB6.out.then_ hb7); have RP7 := Lib.hid (reps_of c.fs Fld.nm p7 c7 G7 w7.heap.size w7 r7.toLo (Nat.le_refl _)); rw [HK.out] at RP7; have R67 := Lib.hid (R6.out.under (hb7.mono HS6.out)); have HS7 := Lib.hid (Nat.le_trans HS6.out hb7.size); clear ho7 hb7 r7))
              | (go_at_call 42; ((with_reducible refine RP7.out.mono ?_); rw [HQ2.out]; rintro e w8 ⟨rfl, hb8⟩; have HB8 := Lib.hid (HB7.out.then_ hb8); have R68 := Lib.hid (R67.out.under (hb8.mono HS7.out)); have HS8 := Lib.hid (Nat.le_trans HS7.out hb8.size); clear hb8))
              | (go_at_call 42; ((with_reducible refine (reps_of c.bs Bk.nm p5 c5 G5 w5.heap.size w8 R68.out HS8.out).mono ?_); rw [HQ3.out]; rintro e w9 ⟨rfl, hb9⟩; have HB9 := Lib.hid (HB8.out.then_ hb9); clear hb9)))
            go_ret
            exact tInt_mk E3.out HB9.out

theorem valid_any (c : Cl) (pf : Option Addr) (cf : Nat) (pb : Option Addr) (cb N : Nat) (w : World) (hv : CV (Lo N) w pf cf pb cb c) (hN : N ≤ w.heap.size) (ht : Tab w) :
    Calls Tryz.prog 15 #[cv c.nm c.par (.slice pf c.fs.length cf) (.slice pb c.bs.length cb)] w (tInt (validE c) w) := by
  cases h1 : bad c.nm
  · cases h2 : same c.par emp
    · cases h3 : bad c.par
      · cases h4 : large c
        · exact valid_41 c pf cf pb cb N w hv hN ht h1 h2 h3 h4
        · rw [validE_pre h1 (.inr h3), if_pos h4]
          exact valid_31 c pf cf pb cb N w hv ht h1 h2 h3 h4
      · rw [validE_2 h2 h3]
        exact valid_2 c pf cf pb cb N w hv ht h1 h2 h3
    · cases h4 : large c
      · exact valid_40 c pf cf pb cb N w hv hN ht h1 h2 h4
      · rw [validE_pre h1 (.inl h2), if_pos h4]
        exact valid_30 c pf cf pb cb N w hv ht h1 h2 h4
  · rw [validE_1 h1]
    exact valid_1 c pf cf pb cb N w hv ht h1
end Go.Proofs.YtoigjeoncdfdmaaGreatDoor.ClW
