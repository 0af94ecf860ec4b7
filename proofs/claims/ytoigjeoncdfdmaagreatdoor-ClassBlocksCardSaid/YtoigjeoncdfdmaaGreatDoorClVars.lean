/-
  What Vars returns.
-/
import Derived.Test.YtoigjeoncdfdmaaGreatDoorClVarN
namespace Go.Proofs.YtoigjeoncdfdmaaGreatDoor.ClW
open Go Go.RowKit Go.Proofs.YtoigjeoncdfdmaaGreatDoor.NumM Go.Proofs.YtoigjeoncdfdmaaGreatDoor.LexW Go.Proofs.YtoigjeoncdfdmaaGreatDoor.LexM Go.Proofs.YtoigjeoncdfdmaaGreatDoor.ClM
open Go.«Sort»

/-- A variable's cells. -/
def Vr.cells (v : Vr) : List Value := [.string v.nm, .int .i64 v.wd, .int .i64 v.md, .int .i64 v.val]
/-- A slice of variables that the call made. -/
def tVars (l : List Vr) (w : World) (e : Ending) (w' : World) : Prop :=
  ∃ v, e = .returned v ∧ w'.ownsRow w.heap.size 33 4 v l.length (l.flatMap Vr.cells) ∧ Below w.heap.size w w'
theorem infoVar : (Tryz.prog.info? 33).map (fun i => (i.zero, i.size, i.bytes)) = some (some (.agg #[.string ⟨#[]⟩, .int .i64 0, .int .i64 0, .int .i64 0]), 4, 40) := by kernel_rfl
theorem flat_snoc {α β : Type} {f : α → List β} {l : List α} {k : Nat} {x : α} (h : l[k]? = some x) : (l.take (k + 1)).flatMap f = (l.take k).flatMap f ++ f x := by
  obtain ⟨hk, he⟩ := List.getElem?_eq_some_iff.1 h
  rw [List.take_succ_eq_append_getElem hk, List.flatMap_append, he]
  simp
/-- The variables of the first j fields, and of the next one the first k. -/
def varsTo (fs : List Fld) (j : Nat) (x : Fld) (k : Nat) : List Vr := (fs.take j).flatMap fvars ++ (fvars x).take k
theorem varsTo_zero (fs : List Fld) (j : Nat) (x : Fld) : varsTo fs j x 0 = (fs.take j).flatMap fvars := by simp [varsTo]
theorem varsTo_all {fs : List Fld} {j : Nat} {x : Fld} (h : fs[j]? = some x) {k : Nat} (hk : (fvars x).length ≤ k) : varsTo fs j x k = (fs.take (j + 1)).flatMap fvars := by
  rw [flat_snoc h]
  unfold varsTo
  rw [List.take_of_length_le hk]
theorem varsTo_step {fs : List Fld} {j : Nat} {x : Fld} {k : Nat} {n : ByteArray} (h : (fnames x)[k]? = some n) : varsTo fs j x (k + 1) = varsTo fs j x k ++ [⟨n, x.wd, x.md, x.ini⟩] := by
  have : (fvars x)[k]? = some ⟨n, x.wd, x.md, x.ini⟩ := by rw [fvars_eq, List.getElem?_map, h]; rfl
  obtain ⟨hk, he⟩ := List.getElem?_eq_some_iff.1 this
  unfold varsTo
  rw [List.take_succ_eq_append_getElem hk, he, List.append_assoc]
theorem fvars_len {f : Fld} (h : fieldE f = 0) : (fvars f).length ≤ 8 := by
  rw [fvars_eq, List.length_map]
  exact fnames_len (fieldE_ok0 h).2
theorem flat_le {fs : List Fld} (h : ∀ f ∈ fs, fieldE f = 0) : (fs.flatMap fvars).length ≤ 8 * fs.length := by
  induction fs with
  | nil => simp
  | cons a r ih =>
    rw [List.flatMap_cons, List.length_append, List.length_cons]
    have h1 := fvars_len (h a (List.mem_cons_self ..))
    have h2 := ih (fun f hf => h f (List.mem_cons_of_mem _ hf))
    omega
theorem varsTo_le {fs : List Fld} {j k : Nat} {x : Fld} (h : ∀ f ∈ fs, fieldE f = 0) (hx : fieldE x = 0) (hl : fs.length ≤ 16) : (varsTo fs j x k).length ≤ 1000 := by
  unfold varsTo
  rw [List.length_append]
  have h1 := flat_le (fs := fs.take j) (fun f hf => h f (List.mem_of_mem_take hf))
  have h2 := fvars_len hx
  have h3 : ((fvars x).take k).length ≤ (fvars x).length := by rw [List.length_take]; omega
  have h4 : (fs.take j).length ≤ fs.length := by rw [List.length_take]; omega
  omega
set_option maxRecDepth 100000 in
set_option maxHeartbeats 8000000 in
theorem vars_any (c : Cl) (pf : Option Addr) (cf : Nat) (pb : Option Addr) (cb N : Nat) (w : World) (hv : CV (Lo N) w pf cf pb cb c) (hN : N ≤ w.heap.size) (ht : Tab w) :
    Calls Tryz.prog 11 #[cv c.nm c.par (.slice pf c.fs.length cf) (.slice pb c.bs.length cb)] w (tVars (varsL c) w) := by
  obtain ⟨i0, hi, hz0, hz1, hz2⟩ := info_parts infoVar
  have F0 := Blk.new w [.string c.nm, .string c.par, .slice pf c.fs.length cf, .slice pb c.bs.length cb] 25
  have hb0 := ba w (.cells #[.string c.nm, .string c.par, .slice pf c.fs.length cf, .slice pb c.bs.length cb] 25)
  have VC := Lib.hid (valid_any c pf cf pb cb N (w.alloc (.cells #[.string c.nm, .string c.par, .slice pf c.fs.length cf, .slice pb c.bs.length cb] 25)) (hv.under (hb0.mono hN)) (by simp; omega) (ht.later hb0))
  obtain ⟨_, _, Gf, ef, rf⟩ := hv.fs.rowOf
  rw [List.length_map] at ef
  cases ef
  have RF := Lib.hid rf
  have HF := Lib.hid F0
  have HB0 := Lib.hid hb0
  have c0 := F0.c 0 _ rfl
  have c1 := F0.c 1 _ rfl
  have c2 := F0.c 2 _ rfl
  have c3 := F0.c 3 _ rfl
  clear F0 hb0 hv ht rf
  by_cases hz : validE c = 0
  · have E : Hid (varsL c = c.fs.flatMap fvars) := Lib.hid (by unfold varsL; rw [if_neg (by rw [hz]; simp)])
    have hval := validE_zero.1 hz
    have HV := Lib.hid hval.fs
    have hs16 : c.fs.length ≤ 16 := by
      have := hval.lg
      unfold large at this
      simp only [Bool.or_eq_false_iff, decide_eq_false_iff_not] at this
      omega
    have HL := Lib.hid hs16
    rw [hz] at VC
    obtain ⟨K, hK⟩ : ∃ K, c.fs.length = K := ⟨_, rfl⟩
    have HK := Lib.hid hK
    rw [hK] at hs16 c0 c1 c2 c3 HF HB0 VC ⊢
    clear hz hval hK
    have HO0 := Lib.hid (World.ownsRow_nil w (w.heap.size) 33 4)
    go_enter Tryz.func11, Tryz.ntmps11
    go_wp2_with (go_at_call 15; ((with_reducible refine VC.out.mono ?_); rintro e w1 ⟨rfl, hb1⟩; have HB1 := Lib.hid (HB0.out.then_ hb1); have G1 := HF.out.stay hb1; clear c0 c1 c2 c3; have c0 := G1.c 0 _ rfl; have c1 := G1.c 1 _ rfl; have c2 := G1.c 2 _ rfl; have c3 := G1.c 3 _ rfl; have HO1 := Lib.hid (World.ownsRow_nil w1 (w.heap.size) 33 4); clear hb1 G1))
    go_loopw [3, 14] (fun u i wr => ∃ j m : Nat, j ≤ K ∧ i = .int .i64 j ∧ Hid (((c.fs.take j).flatMap fvars).length = m) ∧ Hid (wr.ownsRow w.heap.size 33 4 u m (((c.fs.take j).flatMap fvars).flatMap Vr.cells)) ∧ Hid (Below w.heap.size w wr)) (fun _ i _ => K - (intOf i).toNat)
    case atStart => exact ⟨0, 0, Nat.zero_le _, rfl, Lib.hid rfl, HO1, HB1⟩
    case round =>
      obtain ⟨j, m, hj, rfl, HM, OW, BW⟩ := hrel
      (try clear c0); (try clear c1); (try clear c2); (try clear c3)
      obtain ⟨wa, rfl⟩ : ∃ x, x = wr := ⟨_, rfl⟩
      by_cases hlt : j < K
      · obtain ⟨f, hf⟩ : ∃ f, c.fs[j]? = some f := ⟨_, List.getElem?_eq_getElem (by rw [HK.out]; exact hlt)⟩
        obtain ⟨b, off, rfl, hb, f0, f1, f2, f3, f4, hsz⟩ := (RF.out.under (BW.out.mono hN)).fd hf
        have HFZ := Lib.hid (HV.out f (List.mem_of_getElem? hf))
        have FN := Blk.new wa [.string f.nm, .int .i64 f.wd, .int .i64 f.sz, .int .i64 f.md, .int .i64 f.ini] 27
        have d0 := FN.c 0 _ rfl
        have d1 := FN.c 1 _ rfl
        have d2 := FN.c 2 _ rfl
        have d3 := FN.c 3 _ rfl
        have d4 := FN.c 4 _ rfl
        have HBA : Hid (Below w.heap.size w (wa.alloc (.cells #[.string f.nm, .int .i64 f.wd, .int .i64 f.sz, .int .i64 f.md, .int .i64 f.ini] 27))) := Lib.hid (BW.out.then_ (ba _ _))
        have NC := Lib.hid (varNames_any f (wa.alloc (.cells #[.string f.nm, .int .i64 f.wd, .int .i64 f.sz, .int .i64 f.md, .int .i64 f.ini] 27)) HFZ.out)
        have HFN := Lib.hid FN
        have HFF := Lib.hid hf
        obtain ⟨L, hL⟩ : ∃ L, (fnames f).length = L := ⟨_, rfl⟩
        have HLN := Lib.hid hL
        have hL8 : L ≤ 8 := by rw [← hL]; exact fnames_len (fieldE_ok0 HFZ.out).2
        have hwl := BW.out.size
        have SZN : Hid (∀ s ∈ fnames f, s.size ≤ 140737488351232) := Lib.hid (by
          have h1 := nm_size (fieldE_ok0 HFZ.out).1
          intro s hs
          unfold fnames at hs
          split at hs
          · rw [List.mem_singleton] at hs; rw [hs]; omega
          · obtain ⟨i, _, rfl⟩ := List.mem_map.1 hs
            show (elm f i).data.size ≤ _
            unfold elm
            have h2 : f.nm.data.toList.length = f.nm.size := Array.length_toList
            simp [h2]
            omega)
        have HO4 : Hid (wa.ownsRow w.heap.size 33 4 u3 m ((varsTo c.fs j f 0).flatMap Vr.cells)) := Lib.hid (by rw [varsTo_zero]; exact OW.out)
        have HM4 : Hid ((varsTo c.fs j f 0).length = m) := Lib.hid (by rw [varsTo_zero]; exact HM.out)
        clear hf FN hb hL
        go_wp2_with (go_at_call 31; ((with_reducible refine NC.out.mono ?_); rintro e w5 ⟨v5, rfl, ho5, hb5⟩; obtain ⟨p5, c5, G5, rfl, r5⟩ := strs_own ho5 SZN.out (by rw [HLN.out]; omega); rw [HLN.out]; have HB5 := Lib.hid (HBA.out.then_ hb5); have HR5 : Hid (RowA (fun g => wa.heap.size + 1 ≤ g ∧ g < w5.heap.size) w5 .strs p5 c5 G5 (SL (fnames f))) := Lib.hid (r5.kept (fun g h => ⟨by have := h.1; simpa using this, h.2⟩) (fun _ _ _ _ hv => hv)); have FN5 := Lib.hid (HFN.out.stay hb5); have HO5 := Lib.hid (own_later (HO4.out.alloc (.cells #[.string f.nm, .int .i64 f.wd, .int .i64 f.sz, .int .i64 f.md, .int .i64 f.ini] 27)) hb5); have hz5 := HB5.out.size; clear ho5 hb5 r5 d0 d1 d2 d3 d4))
        have hwa : wa.heap.size < w5.heap.size := FN5.out.lt
        have HOB : Hid (∀ g, u3.ownBlock = some g → g < wa.heap.size ∨ w5.heap.size ≤ g) := Lib.hid (fun g e => .inl (OW.out.lt g e).2)
        go_loopw [3, 21] (fun u i wr => ∃ k n : Nat, k ≤ L ∧ i = .int .i64 k ∧ Hid ((varsTo c.fs j f k).length = n) ∧ Hid (wr.ownsRow w.heap.size 33 4 u n ((varsTo c.fs j f k).flatMap Vr.cells)) ∧ Hid (Blk wr wa.heap.size [.string f.nm, .int .i64 f.wd, .int .i64 f.sz, .int .i64 f.md, .int .i64 f.ini]) ∧ Hid (Below w.heap.size w wr) ∧ Hid (RowA (fun g => wa.heap.size + 1 ≤ g ∧ g < w5.heap.size) wr .strs p5 c5 G5 (SL (fnames f))) ∧ Hid (∀ g, u.ownBlock = some g → g < wa.heap.size ∨ w5.heap.size ≤ g) ∧ Hid (w5.heap.size ≤ wr.heap.size)) (fun _ i _ => L - (intOf i).toNat)
        case atStart => exact ⟨0, m, Nat.zero_le _, rfl, HM4, HO5, FN5, HB5, HR5, HOB, Lib.hid (Nat.le_refl _)⟩
        case round =>
          obtain ⟨k, n, hk, rfl, HN4, OW2, BK2, BW2, R2, OB2, SZ2⟩ := hrel
          have hsz2 := SZ2.out
          by_cases hlt2 : k < L
          · obtain ⟨t, ht⟩ : ∃ t, (fnames f)[k]? = some t := ⟨_, List.getElem?_eq_getElem (by rw [HLN.out]; exact hlt2)⟩
            obtain ⟨b2, off2, rfl, hb2, e0, hs2⟩ := R2.out.stS ht
            have VS := Lib.hid (varsTo_step (fs := c.fs) (j := j) ht)
            have hn : n ≤ 1000 := by rw [← HN4.out]; exact varsTo_le HV.out HFZ.out HL.out
            have g1 := BK2.out.c 1 _ rfl
            have g3 := BK2.out.c 3 _ rfl
            have g4 := BK2.out.c 4 _ rfl
            obtain ⟨q2, k2, rfl⟩ := own_len OW2.out
            clear ht
            go_wp2_with (at_builtin; go_loud (refine wpList_append_lies _ rfl _ _ 30 rfl w.heap.size 33 i0 (.agg #[.string ⟨#[]⟩, .int .i64 0, .int .i64 0, .int .i64 0]) 4 40 Tryz.underlying30 hi hz0 hz1 hz2 rfl (by decide) _ n _ rfl (OW2.out.alloc _) ⟨wr.heap.size, 0, none⟩ 1 1 [.string t, .int .i64 f.wd, .int .i64 f.md, .int .i64 f.ini] rfl rfl (cells_at rfl [.string t, .int .i64 f.wd, .int .i64 f.md, .int .i64 f.ini] _) (by intro u hu; simp only [List.mem_cons, List.not_mem_nil, or_false] at hu; rcases hu with rfl | rfl | rfl | rfl <;> rfl) (by omega) (by unfold maxLen; omega) (by omega) (by have := BW2.out.size; simp; omega) _ rfl ?_); go_loud (intro g7 k7 w3 hown' hgrow hat7 _; have HO3 := Lib.hid hown'; have HG3 := Lib.hid hgrow; have HT3 := Lib.hid hat7; clear hown' hgrow hat7))
            go_roundw
            case rel =>
              have hba := ba wr (.cells #[.string t, .int .i64 f.wd, .int .i64 f.md, .int .i64 f.ini] 33)
              have hob := OB2.out
              have hgs := HG3.out.size
              rw [World.size_alloc] at hgs
              have hw0 := BW2.out.size
              refine ⟨k + 1, n + 1, by omega, by go_num, Lib.hid (by rw [VS.out, List.length_append, HN4.out]; rfl), Lib.hid (by rw [VS.out, List.flatMap_append]; exact HO3.out), Lib.hid ((BK2.out.stay hba).grown HG3.out (fun e => by have := hob _ e.symm; omega)), Lib.hid ((BW2.out.then_ hba).grown HG3.out (by rw [World.size_alloc]; omega) (fun g e => (OW2.out.lt g e).1)), Lib.hid (R2.out.kept (fun _ h => h) (fun g o h v hv => ?_)), Lib.hid (fun g e => ?_), Lib.hid (by omega)⟩
              · refine (World.cell?_of_block (w := wr.alloc _) (a := ⟨g, o, none⟩) (HG3.out.block g (by rw [World.size_alloc]; have := h.2; omega) (fun e => by have := hob g e.symm; have := h.1; have := h.2; omega))).trans ((hba.cell (p := ⟨g, o, none⟩) (show g < wr.heap.size by have := h.2; omega)).trans hv)
              · have e' : g7 = g := by simpa [Value.ownBlock] using e
                subst e'
                rcases HT3.out with h | h
                · exact hob _ h
                · right
                  rw [h]
                  simp
                  omega
            case measure => simp [intOf]; omega
          · have hkL : k = L := by omega
            have VA : Hid (varsTo c.fs j f k = (c.fs.take (j + 1)).flatMap fvars) := Lib.hid (varsTo_all HFF.out (by rw [fvars_eq, List.length_map, HLN.out]; omega))
            have HM2 : Hid (((c.fs.take (j + 1)).flatMap fvars).length = n) := Lib.hid (by rw [← VA.out]; exact HN4.out)
            have OW3 : Hid (wr.ownsRow w.heap.size 33 4 u3 n (((c.fs.take (j + 1)).flatMap fvars).flatMap Vr.cells)) := Lib.hid (by rw [← VA.out]; exact OW2.out)
            clear OW2 VA HN4
            go_wp2
            go_roundw
            case rel => exact ⟨j + 1, n, by omega, by go_num, HM2, OW3, BW2⟩
            case measure => simp [intOf]; omega
      · have hjK : j = K := by omega
        have E2 : Hid ((c.fs.take j).flatMap fvars = varsL c) := Lib.hid (by rw [E.out, hjK, ← HK.out, List.take_length])
        have OF : Hid (wa.ownsRow w.heap.size 33 4 u3 (varsL c).length ((varsL c).flatMap Vr.cells)) := Lib.hid (by have := OW.out; rw [← HM.out, E2.out] at this; exact this)
        clear OW HM E2 E
        go_wp2
        go_ret
        exact ⟨_, rfl, OF.out, BW.out⟩
  · have E : Hid (varsL c = []) := Lib.hid (by unfold varsL; rw [if_pos hz])
    have hze : (validE c == 0) = false := by rw [beq_eq_false_iff_ne]; exact hz
    have hzn : ¬ validE c = 0 := hz
    rw [E.out]
    generalize validE c = q at *
    clear hz
    go_enter Tryz.func11, Tryz.ntmps11
    go_wp2_with (go_at_call 15; ((with_reducible refine VC.out.mono ?_); rintro e w1 ⟨rfl, hb1⟩; have HB1 := Lib.hid (HB0.out.then_ hb1); clear hb1))
    go_ret
    exact ⟨_, rfl, World.ownsRow_nil _ _ _ _, HB1.out⟩
end Go.Proofs.YtoigjeoncdfdmaaGreatDoor.ClW
