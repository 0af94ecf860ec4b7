/-
  What the specification's Vars returns.
-/
import Derived.Test.YtoigjeoncdfdmaaGreatDoorClVars
import Derived.Test.YtoigjeoncdfdmaaGreatDoorClRValid
import Derived.Test.YtoigjeoncdfdmaaGreatDoorLexRefF
namespace Go.Proofs.YtoigjeoncdfdmaaGreatDoor.ClW
open Go Go.RowKit Go.Proofs.YtoigjeoncdfdmaaGreatDoor.NumM Go.Proofs.YtoigjeoncdfdmaaGreatDoor.LexW Go.Proofs.YtoigjeoncdfdmaaGreatDoor.LexM Go.Proofs.YtoigjeoncdfdmaaGreatDoor.ClM
open Go.«Sort»

theorem itoa_small {k : Nat} : Lib.itoa (k : Int) = Lib.decDigits k := by
  unfold Lib.itoa
  rw [if_neg (by omega)]
  simp
set_option maxRecDepth 100000 in
set_option maxHeartbeats 8000000 in
theorem varsR_any (c : Cl) (pf : Option Addr) (cf : Nat) (pb : Option Addr) (cb N : Nat) (w : World) (hv : CV (Lo N) w pf cf pb cb c) (hN : N ≤ w.heap.size) :
    Calls Tryz.prog 12 #[cv c.nm c.par (.slice pf c.fs.length cf) (.slice pb c.bs.length cb)] w (tVars (varsL c) w) := by
  obtain ⟨i0, hi, hz0, hz1, hz2⟩ := info_parts infoVar
  have F0 := Blk.new w [.string c.nm, .string c.par, .slice pf c.fs.length cf, .slice pb c.bs.length cb] 25
  have hb0 := ba w (.cells #[.string c.nm, .string c.par, .slice pf c.fs.length cf, .slice pb c.bs.length cb] 25)
  have VC := Lib.hid (validR_any c pf cf pb cb N (w.alloc (.cells #[.string c.nm, .string c.par, .slice pf c.fs.length cf, .slice pb c.bs.length cb] 25)) (hv.under (hb0.mono hN)) (by simp; omega))
  obtain ⟨_, _, Gf, ef, rf⟩ := hv.fs.rowOf
  rw [List.length_map] at ef
  cases ef
  have RF := Lib.hid rf
  have HF := Lib.hid F0
  have HB0 := Lib.hid hb0
  have c0 := F0.c 0 _ rfl
  have c1 := F0.c 1 _ rfl
  have c2 := F0.c 2 _ rfl
  have c3 := F0.c 3 _ rfl
  clear F0 hb0 hv rf
  by_cases hz : validE c = 0
  · have E : Hid (varsL c = c.fs.flatMap fvars) := Lib.hid (by unfold varsL; rw [if_neg (by rw [hz]; simp)])
    have hval := validE_zero.1 hz
    have HV := Lib.hid hval.fs
    have hs16 : c.fs.length ≤ 16 := by
      have := hval.lg
      unfold large at this
      simp only [Bool.or_eq_false_iff, decide_eq_false_iff_not] at this
      omega
    have HL := Lib.hid hs16
    rw [hz] at VC
    obtain ⟨K, hK⟩ : ∃ K, c.fs.length = K := ⟨_, rfl⟩
    have HK := Lib.hid hK
    rw [hK] at hs16 c0 c1 c2 c3 HF HB0 VC ⊢
    clear hz hval hK
    go_enter Tryz.func12, Tryz.ntmps12
    go_wp2_with (go_at_call 16; ((with_reducible refine VC.out.mono ?_); rintro e w1 ⟨rfl, hb1⟩; have HB1 := Lib.hid (HB0.out.then_ hb1); have G1 := Lib.hid (HF.out.stay hb1); clear c0 c1 c2 c3; have HO1 := Lib.hid (World.ownsRow_nil w1 (w.heap.size + 1) 33 4); clear hb1))
    go_loopw [3, 4] (fun u i wr => ∃ j m : Nat, j ≤ K ∧ i = .int .i64 j ∧ Hid (((c.fs.take j).flatMap fvars).length = m) ∧ Hid (wr.ownsRow (w.heap.size + 1) 33 4 u m (((c.fs.take j).flatMap fvars).flatMap Vr.cells)) ∧ Hid (Below w.heap.size w wr) ∧ Hid (Blk wr w.heap.size [.string c.nm, .string c.par, .slice pf K cf, .slice pb c.bs.length cb])) (fun _ i _ => K - (intOf i).toNat)
    case atStart => exact ⟨0, 0, Nat.zero_le _, rfl, Lib.hid rfl, HO1, HB1, G1⟩
    case round =>
      obtain ⟨j, m, hj, rfl, HM, OW, BW, BK⟩ := hrel
      obtain ⟨wa, rfl⟩ : ∃ x, x = wr := ⟨_, rfl⟩
      have c2 := BK.out.c 2 _ rfl
      by_cases hlt : j < K
      · obtain ⟨f, hf⟩ : ∃ f, c.fs[j]? = some f := ⟨_, List.getElem?_eq_getElem (by rw [HK.out]; exact hlt)⟩
        obtain ⟨b, off, rfl, hb, f0, f1, f2, f3, f4, hsz⟩ := (RF.out.under (BW.out.mono hN)).fd hf
        have hok := fieldE_ok0 (HV.out f (List.mem_of_getElem? hf))
        have HFZ := Lib.hid (HV.out f (List.mem_of_getElem? hf))
        have hnm := nm_size hok.1
        have hokk := hok.2
        unfold okF at hokk
        rw [decide_eq_true_iff] at hokk
        obtain ⟨L, hL⟩ : ∃ L : Nat, f.sz = L := ⟨f.sz.toNat, by omega⟩
        have hL8 : L ≤ 8 := by omega
        have HLz := Lib.hid hL
        have HFF := Lib.hid hf
        have hwl := BW.out.size
        rw [hL] at f2
        have HBA : Hid (Below wa.heap.size wa ((wa.alloc (.cells #[.string f.nm, .int .i64 f.wd, .int .i64 (L : Int), .int .i64 f.md, .int .i64 f.ini] 27)).alloc (.cells #[.string f.nm, .int .i64 f.wd, .int .i64 f.md, .int .i64 f.ini] 33))) := Lib.hid ((ba _ _).then_ (ba _ _))
        have FN := (Blk.new wa [.string f.nm, .int .i64 f.wd, .int .i64 (L : Int), .int .i64 f.md, .int .i64 f.ini] 27).alloc (.cells #[.string f.nm, .int .i64 f.wd, .int .i64 f.md, .int .i64 f.ini] 33)
        have VN := Blk.at_ (show (wa.alloc (.cells #[.string f.nm, .int .i64 f.wd, .int .i64 (L : Int), .int .i64 f.md, .int .i64 f.ini] 27)).heap.size = wa.heap.size + 1 by simp) [.string f.nm, .int .i64 f.wd, .int .i64 f.md, .int .i64 f.ini] 33
        have d0 := FN.c 0 _ rfl
        have d1 := FN.c 1 _ rfl
        have d2 := FN.c 2 _ rfl
        have d3 := FN.c 3 _ rfl
        have d4 := FN.c 4 _ rfl
        have v0 := VN.c 0 _ rfl
        have v1 := VN.c 1 _ rfl
        have v2 := VN.c 2 _ rfl
        have v3 := VN.c 3 _ rfl
        have HFN := Lib.hid FN
        have HVN := Lib.hid VN
        obtain ⟨q3, k3, rfl⟩ := own_len OW.out
        have HOB : Hid (∀ g, (Value.slice q3 m k3).ownBlock = some g → g < wa.heap.size) := Lib.hid (fun g e => (OW.out.lt g e).2)
        have HOA := Lib.hid ((OW.out.alloc (.cells #[.string f.nm, .int .i64 f.wd, .int .i64 (L : Int), .int .i64 f.md, .int .i64 f.ini] 27)).alloc (.cells #[.string f.nm, .int .i64 f.wd, .int .i64 f.md, .int .i64 f.ini] 33))
        have hm1 : m ≤ 1000 := by
          rw [← HM.out]
          have := varsTo_le (fs := c.fs) (j := j) (k := 0) HV.out HFZ.out HL.out
          rw [varsTo_zero] at this
          exact this
        clear hf FN VN hb hL hok hokk hsz
        by_cases hz : L = 0
        · have EV : Hid (fvars f = [⟨f.nm, f.wd, f.md, f.ini⟩]) := Lib.hid (by rw [fvars_eq, fnames_zero (by rw [HLz.out, hz]; rfl)]; rfl)
          have VA : Hid ((c.fs.take (j + 1)).flatMap fvars = (c.fs.take j).flatMap fvars ++ [⟨f.nm, f.wd, f.md, f.ini⟩]) := Lib.hid (by rw [flat_snoc HFF.out, EV.out])
          have h1 : ((L : Int) == 0) = true := by rw [hz]; rfl
          have h3 : ¬ 0 < L := by omega
          have HZ := Lib.hid hz
          have HS : Hid (wa.heap.size + 2 ≤ ((wa.alloc (.cells #[.string f.nm, .int .i64 f.wd, .int .i64 (L : Int), .int .i64 f.md, .int .i64 f.ini] 27)).alloc (.cells #[.string f.nm, .int .i64 f.wd, .int .i64 f.md, .int .i64 f.ini] 33)).heap.size) := Lib.hid (by simp)
          clear EV hz
          go_wp2_with (at_builtin; go_loud (refine wpList_append_lies _ rfl _ _ 30 rfl (w.heap.size + 1) 33 i0 (.agg #[.string ⟨#[]⟩, .int .i64 0, .int .i64 0, .int .i64 0]) 4 40 Tryz.underlying30 hi hz0 hz1 hz2 rfl (by decide) _ m _ rfl (HOA.out.alloc _) ⟨wa.heap.size + 2, 0, none⟩ 1 1 [.string f.nm, .int .i64 f.wd, .int .i64 f.md, .int .i64 f.ini] rfl rfl (cells_at (by simp) [.string f.nm, .int .i64 f.wd, .int .i64 f.md, .int .i64 f.ini] _) (by intro u hu; simp only [List.mem_cons, List.not_mem_nil, or_false] at hu; rcases hu with rfl | rfl | rfl | rfl <;> rfl) (by omega) (by unfold maxLen; omega) (by omega) (by simp; omega) _ rfl ?_); go_loud (intro g7 k7 w3 hown' hgrow hat7 _; have HO3 := Lib.hid hown'; have HG3 := Lib.hid hgrow; have FB3 := ((HFN.out.alloc (.cells #[.string f.nm, .int .i64 f.wd, .int .i64 f.md, .int .i64 f.ini] 33)).grown hgrow (fun e => by have := HOB.out _ e.symm; omega)); have e2 := FB3.c 2 _ rfl; have HF3 := Lib.hid FB3; clear hown' hgrow hat7 FB3))
          go_loopw [3, 7] (fun u i wr => u = .slice (some ⟨g7, 0, none⟩) (m + 1) k7 ∧ i = .int .i64 0 ∧ wr = w3) (fun _ _ _ => 0)
          case atStart => exact ⟨rfl, rfl, rfl⟩
          case round =>
            obtain ⟨rfl, rfl, rfl⟩ := hrel
            go_wp2
            go_roundw
            case rel =>
              have hba3 := ba ((wa.alloc (.cells #[.string f.nm, .int .i64 f.wd, .int .i64 (L : Int), .int .i64 f.md, .int .i64 f.ini] 27)).alloc (.cells #[.string f.nm, .int .i64 f.wd, .int .i64 f.md, .int .i64 f.ini] 33)) (.cells #[.string f.nm, .int .i64 f.wd, .int .i64 f.md, .int .i64 f.ini] 33)
              have hbb := (BW.out.then_ HBA.out).then_ hba3
              exact ⟨j + 1, m + 1, by omega, by go_num, Lib.hid (by rw [VA.out, List.length_append, HM.out]; rfl), Lib.hid (by rw [VA.out, List.flatMap_append]; exact HO3.out), Lib.hid (hbb.grown HG3.out hbb.size (fun g e => Nat.le_of_succ_le (OW.out.lt g e).1)), Lib.hid (((BK.out.stay HBA.out).stay hba3).grown HG3.out (fun e => by have := (OW.out.lt _ e.symm).1; omega))⟩
            case measure => simp [intOf]; omega
        · have h1 : ¬ (L : Int) = 0 := by omega
          have h2 : ((L : Int) == 0) = false := by rw [beq_eq_false_iff_ne]; exact h1
          have HO4 : Hid (((wa.alloc (.cells #[.string f.nm, .int .i64 f.wd, .int .i64 (L : Int), .int .i64 f.md, .int .i64 f.ini] 27)).alloc (.cells #[.string f.nm, .int .i64 f.wd, .int .i64 f.md, .int .i64 f.ini] 33)).ownsRow (w.heap.size + 1) 33 4 (.slice q3 m k3) m ((varsTo c.fs j f 0).flatMap Vr.cells)) := Lib.hid (by rw [varsTo_zero]; exact HOA.out)
          have HM4 : Hid ((varsTo c.fs j f 0).length = m) := Lib.hid (by rw [varsTo_zero]; exact HM.out)
          have FNL : Hid ((fnames f).length = L ∧ ∀ k, k < L → (fnames f)[k]? = some (elm f k)) := Lib.hid (by
            have : f.sz ≠ 0 := by rw [HLz.out]; exact h1
            rw [fnames_pos this, HLz.out]
            refine ⟨by rw [List.length_map, List.length_range]; rfl, fun k hk => ?_⟩
            rw [List.getElem?_map, List.getElem?_range (by simpa using hk)]; rfl)
          go_wp2
          go_loopw [3, 7] (fun u i wr => ∃ (k n : Nat) (nx : ByteArray), k ≤ L ∧ i = .int .i64 k ∧ Hid ((varsTo c.fs j f k).length = n) ∧ Hid (wr.ownsRow (w.heap.size + 1) 33 4 u n ((varsTo c.fs j f k).flatMap Vr.cells)) ∧ Hid (Blk wr wa.heap.size [.string f.nm, .int .i64 f.wd, .int .i64 (L : Int), .int .i64 f.md, .int .i64 f.ini]) ∧ Hid (Blk wr (wa.heap.size + 1) [.string nx, .int .i64 f.wd, .int .i64 f.md, .int .i64 f.ini]) ∧ Hid (Below w.heap.size w wr) ∧ Hid (∀ g, u.ownBlock = some g → g < wa.heap.size ∨ wa.heap.size + 2 ≤ g) ∧ Hid (wa.heap.size + 2 ≤ wr.heap.size) ∧ Hid (Blk wr w.heap.size [.string c.nm, .string c.par, .slice (some ⟨b, off, none⟩) K cf, .slice pb c.bs.length cb])) (fun _ i _ => L - (intOf i).toNat)
          case atStart => exact ⟨0, m, f.nm, Nat.zero_le _, rfl, HM4, HO4, HFN, HVN, Lib.hid (BW.out.then_ HBA.out), Lib.hid (fun g e => .inl (HOB.out g e)), Lib.hid (by simp), Lib.hid (BK.out.stay HBA.out)⟩
          case round =>
            obtain ⟨k, n, nx, hk, rfl, HN4, OW2, FB2, VB2, BW2, OB2, SZ2, BK2⟩ := hrel
            have hsz2 := SZ2.out
            (try clear d0 d1 d2 d3 d4); (try clear v0 v1 v2 v3); (try clear c2)
            have d0 := FB2.out.c 0 _ rfl
            have d2 := FB2.out.c 2 _ rfl
            have dl := FB2.out.lt
            by_cases hlt2 : k < L
            · obtain ⟨P, hP, hPs, hPC⟩ := RefF.numR_letter k (by omega) (by omega)
              have FC : Hid (∀ W, Calls Tryz.prog 32 #[.int .i64 k] W fun e w' => e = .returned (.string P) ∧ Below W.heap.size W w') := Lib.hid hPC
              have hT : f.nm ++ ⟨#[91]⟩ ++ P ++ ⟨#[93]⟩ = elm f k := by
                rw [← elm_text f (show k < 10 by omega), RefF.str_of hP, itoa_small]
              have VS := Lib.hid (varsTo_step (fs := c.fs) (j := j) (FNL.out.2 k hlt2))
              have HX := Lib.hid hT
              have g1 : ¬ 9223372036854775807 < f.nm.size + 1 := by omega
              have g2 : ¬ 9223372036854775807 < f.nm.size + 1 + P.size := by omega
              have g3 : ¬ 9223372036854775807 < f.nm.size + 1 + P.size + 1 := by omega
              have v0 := VB2.out.c 0 _ rfl
              have y0 := VB2.out.f 0
              have yl := VB2.out.lt
              have hn : n ≤ 1000 := by rw [← HN4.out]; exact varsTo_le HV.out HFZ.out HL.out
              clear hP hPs hPC hT hnm
              go_wp2
              go_cut [52] (fun s52 wx => s52 = s52 ∧ ∃ wy, Hid (Below wr.heap.size wr wy) ∧ wx = wy.setCell ⟨wa.heap.size + 1, 0, none⟩ (.string (f.nm ++ ⟨#[91]⟩ ++ P ++ ⟨#[93]⟩)))
              case first =>
                go_region_law (go_simp; go_at_call 32; (with_reducible refine (FC.out _).mono ?_); rintro e w4 ⟨rfl, hb4⟩; have HB4 : Hid (Below wr.heap.size wr w4) := Lib.hid (by first | exact hb4 | exact (Below.refl _ _).drew.then_ hb4); have z0 := (FB2.out.stay HB4.out).c 0 _ rfl; have q0 := (VB2.out.stay HB4.out).f 0; have ql := (VB2.out.stay HB4.out).lt; have qc := (VB2.out.stay HB4.out).c 0 _ rfl; clear hb4)
                all_goals
                  go_wp2_with fail
                  go_meet
                  exact ⟨by trivial, _, HB4, rfl⟩
              case rest =>
                obtain ⟨_, wy, HBY, rfl⟩ := hcut
                have hby := HBY.out.size
                have hbw := BW2.out.size
                have hgs := grown_set wy (wa.heap.size + 1) 0 (.string (f.nm ++ ⟨#[91]⟩ ++ P ++ ⟨#[93]⟩))
                have FB7 := Lib.hid ((FB2.out.stay HBY.out).far (b := wa.heap.size + 1) (o := 0) (v := .string (f.nm ++ ⟨#[91]⟩ ++ P ++ ⟨#[93]⟩)) (by omega))
                have VB7 := Lib.hid ((VB2.out.stay HBY.out).set 0 (.string (f.nm ++ ⟨#[91]⟩ ++ P ++ ⟨#[93]⟩)) (by simp))
                have BK7 := Lib.hid ((BK2.out.stay HBY.out).far (b := wa.heap.size + 1) (o := 0) (v := .string (f.nm ++ ⟨#[91]⟩ ++ P ++ ⟨#[93]⟩)) (by omega))
                have OW7 := Lib.hid (own_grown (own_later OW2.out HBY.out) hgs (fun g hg e => by injection e with e; have := OB2.out g hg; omega))
                have BW7 : Hid (Below w.heap.size w _) := Lib.hid ((BW2.out.then_ HBY.out).setCell (p := ⟨wa.heap.size + 1, 0, none⟩) (by show w.heap.size ≤ wa.heap.size + 1; omega) (.string (f.nm ++ ⟨#[91]⟩ ++ P ++ ⟨#[93]⟩)))
                have hs7 : (wy.setCell ⟨wa.heap.size + 1, 0, none⟩ (.string (f.nm ++ ⟨#[91]⟩ ++ P ++ ⟨#[93]⟩))).heap.size = wy.heap.size := setCell_size _ _ _
                rw [HX.out] at FB7 VB7 BK7 OW7 BW7 hs7 ⊢
                generalize wy.setCell ⟨wa.heap.size + 1, 0, none⟩ (.string (elm f k)) = W7 at *
                have hw7 : wr.heap.size ≤ W7.heap.size := by omega
                clear hs7 hby
                have v0 := VB7.out.c 0 _ rfl
                have v1 := VB7.out.c 1 _ rfl
                have v2 := VB7.out.c 2 _ rfl
                have v3 := VB7.out.c 3 _ rfl
                obtain ⟨q2, k2, rfl⟩ := own_len OW7.out
                clear hgs HBY FB2 VB2 BK2 OW2 BW2
                go_wp2_with (at_builtin; go_loud (refine wpList_append_lies _ rfl _ _ 30 rfl (w.heap.size + 1) 33 i0 (.agg #[.string ⟨#[]⟩, .int .i64 0, .int .i64 0, .int .i64 0]) 4 40 Tryz.underlying30 hi hz0 hz1 hz2 rfl (by decide) _ n _ rfl (OW7.out.alloc _) ⟨W7.heap.size, 0, none⟩ 1 1 [.string (elm f k), .int .i64 f.wd, .int .i64 f.md, .int .i64 f.ini] rfl rfl (cells_at rfl [.string (elm f k), .int .i64 f.wd, .int .i64 f.md, .int .i64 f.ini] _) (by intro u hu; simp only [List.mem_cons, List.not_mem_nil, or_false] at hu; rcases hu with rfl | rfl | rfl | rfl <;> rfl) (by omega) (by unfold maxLen; omega) (by omega) (by simp; omega) _ rfl ?_); go_loud (intro g7 k7 w3 hown' hgrow hat7 _; have HO3 := Lib.hid hown'; have HG3 := Lib.hid hgrow; have HT3 := Lib.hid hat7; clear hown' hgrow hat7))
                go_roundw
                case rel =>
                  have hba := ba W7 (.cells #[.string (elm f k), .int .i64 f.wd, .int .i64 f.md, .int .i64 f.ini] 33)
                  have hob := OB2.out
                  have hgs := HG3.out.size
                  rw [World.size_alloc] at hgs
                  have hlo := fun g e => (OW7.out.lt g e).1
                  refine ⟨k + 1, n + 1, elm f k, by omega, by go_num, Lib.hid (by rw [VS.out, List.length_append, HN4.out]; rfl), Lib.hid (by rw [VS.out, List.flatMap_append]; exact HO3.out), Lib.hid ((FB7.out.stay hba).grown HG3.out (fun e => by have := hob _ e.symm; omega)), Lib.hid ((VB7.out.stay hba).grown HG3.out (fun e => by have := hob _ e.symm; omega)), Lib.hid ((BW7.out.then_ hba).grown HG3.out (by rw [World.size_alloc]; omega) (fun g e => by have := hlo g e; omega)), Lib.hid (fun g e => ?_), Lib.hid (by omega), Lib.hid ((BK7.out.stay hba).grown HG3.out (fun e => by have := hlo _ e.symm; omega))⟩
                  have e' : g7 = g := by simpa [Value.ownBlock] using e
                  subst e'
                  rcases HT3.out with h | h
                  · exact hob _ h
                  · right
                    rw [h]
                    simp
                    omega
                case measure => simp [intOf]; omega
            · have hkL : k = L := by omega
              have VA : Hid (varsTo c.fs j f k = (c.fs.take (j + 1)).flatMap fvars) := Lib.hid (varsTo_all HFF.out (by rw [fvars_eq, List.length_map, FNL.out.1]; omega))
              have HM2 : Hid (((c.fs.take (j + 1)).flatMap fvars).length = n) := Lib.hid (by rw [← VA.out]; exact HN4.out)
              have OW3 : Hid (wr.ownsRow (w.heap.size + 1) 33 4 u3 n (((c.fs.take (j + 1)).flatMap fvars).flatMap Vr.cells)) := Lib.hid (by rw [← VA.out]; exact OW2.out)
              clear OW2 VA HN4
              go_wp2
              go_roundw
              case rel => exact ⟨j + 1, n, by omega, by go_num, HM2, OW3, BW2, BK2⟩
              case measure => simp [intOf]; omega
      · have hjK : j = K := by omega
        have E2 : Hid ((c.fs.take j).flatMap fvars = varsL c) := Lib.hid (by rw [E.out, hjK, ← HK.out, List.take_length])
        have OF : Hid (wa.ownsRow (w.heap.size + 1) 33 4 u3 (varsL c).length ((varsL c).flatMap Vr.cells)) := Lib.hid (by have := OW.out; rw [← HM.out, E2.out] at this; exact this)
        clear OW HM E2 E
        go_wp2
        go_ret
        exact ⟨_, rfl, own_low OF.out (Nat.le_succ _), BW.out⟩
  · have E : Hid (varsL c = []) := Lib.hid (by unfold varsL; rw [if_pos hz])
    have hze : (validE c == 0) = false := by rw [beq_eq_false_iff_ne]; exact hz
    have hzn : ¬ validE c = 0 := hz
    rw [E.out]
    generalize validE c = q at *
    clear hz
    go_enter Tryz.func12, Tryz.ntmps12
    go_wp2_with (go_at_call 16; ((with_reducible refine VC.out.mono ?_); rintro e w1 ⟨rfl, hb1⟩; have HB1 := Lib.hid (HB0.out.then_ hb1); clear hb1))
    go_ret
    exact ⟨_, rfl, World.ownsRow_nil _ _ _ _, HB1.out⟩
end Go.Proofs.YtoigjeoncdfdmaaGreatDoor.ClW
