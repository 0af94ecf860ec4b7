/-
  What the specification's up and inherited return.
-/
import Derived.Test.YtoigjeoncdfdmaaGreatDoorClRValid
namespace Go.Proofs.YtoigjeoncdfdmaaGreatDoor.ClW
open Go Go.RowKit Go.Shelf Go.Proofs.YtoigjeoncdfdmaaGreatDoor.NumM Go.Proofs.YtoigjeoncdfdmaaGreatDoor.LexW Go.Proofs.YtoigjeoncdfdmaaGreatDoor.LexM Go.Proofs.YtoigjeoncdfdmaaGreatDoor.ClM

attribute [local go_sem] Oper.semAt_some

/-- What is held between two rounds of up. -/
structure LnU (N : Nat) (src : List Cl) (c : Cl) (w wr : World) (v : Value) (j : Nat) : Prop where
  ex : ∃ pre d pf cf pb cb, pre.length = j ∧ chain src 32 c = pre ++ chain src (32 - j) d ∧ Blk wr w.heap.size (cc4 d pf cf pb cb) ∧ CV (Lo N) wr pf cf pb cb d ∧ LRow N (w.heap.size + 1) wr v (pre ++ [d])
  low : Below w.heap.size w wr
set_option maxRecDepth 100000 in
set_option maxHeartbeats 8000000 in
theorem up_any (src : List Cl) (c : Cl) (p : Option Addr) (cap : Nat) (G : Nat → Nat → Value) (pf : Option Addr) (cf : Nat) (pb : Option Addr) (cb N : Nat) (w : World) (ha : RowA (Lo N) w .classes p cap G (src.map Cl.lf)) (hc : CV (Lo N) w pf cf pb cb c) (hN : N ≤ w.heap.size) :
    Calls Tryz.prog 50 #[.slice p src.length cap, cv c.nm c.par (.slice pf c.fs.length cf) (.slice pb c.bs.length cb)] w (tLine N (lineR src c) w) := by
  obtain ⟨i0, hi, hz0, hz1, hz2⟩ := info_parts infoCl
  have HA := Lib.hid ha
  have hb1 : Below w.heap.size w (w.alloc (.cells (cc4 c pf cf pb cb).toArray 25)) := ba w _
  have FB := Blk.new w (cc4 c pf cf pb cb) 25
  have hL0 : LnU N src c w ((w.alloc (.cells (cc4 c pf cf pb cb).toArray 25)).alloc (.cells (cc4 c pf cf pb cb).toArray 25)) (.slice (some ⟨w.heap.size + 1, 0, none⟩) 1 1) 0 :=
    ⟨⟨[], c, pf, cf, pb, cb, rfl, rfl, FB.alloc _, (hc.under (hb1.mono hN)).under ((ba _ _).mono (by simp; omega)), LRow.one (by simp) (Nat.le_refl _) (hc.under (hb1.mono hN)) (by simp; omega)⟩, hb1.then_ (ba _ _)⟩
  have HL0 := Lib.hid hL0
  have EL : Hid (lineR src c = chain src 32 c) := Lib.hid rfl
  obtain ⟨n, hnn⟩ : ∃ n, src.length = n := ⟨_, rfl⟩
  have HN := Lib.hid hnn
  rw [hnn, EL.out]
  clear ha hb1 FB hL0 hnn hc EL
  go_enter Tryz.func50, Tryz.ntmps50
  go_wp2
  go_loopw [5] (fun v wr => ∃ (j : Nat) (p5 : Option Addr) (c5 : Nat), j ≤ 32 ∧ v = .slice p5 (j + 1) c5 ∧ Hid (LnU N src c w wr v j)) (fun v _ => 32 + 1 - lenOf v)
  case atStart => exact ⟨0, _, _, Nat.zero_le _, rfl, HL0⟩
  case round =>
    obtain ⟨j, p5, c5, hj, rfl, LI⟩ := hrel
    obtain ⟨⟨pre, d, qf, kf, qb, kb, h1, h2, h4, h5, h6⟩, h7⟩ := LI.out
    have k0 := h4.c 0 _ rfl
    have k1 := h4.c 1 _ rfl
    have k2 := h4.c 2 _ rfl
    have k3 := h4.c 3 _ rfl
    have kl := h4.lt
    have H2 := Lib.hid h2
    have H4 := Lib.hid h4
    have H5 := Lib.hid h5
    have H6 := Lib.hid h6
    have H7 := Lib.hid h7
    clear h2 h4 h5 h6 h7 LI
    have hz7 := H7.out.size
    have HRE : Hid (∀ (l : List Cl) (wx : World), chain src 32 c = pre ++ l → l = [d] → Below wr.heap.size wr wx → tLine N (chain src 32 c) w (.returned (.slice p5 (j + 1) c5)) wx) := Lib.hid fun l wx e1 e2 hx => ⟨_, rfl, by rw [e1, e2]; obtain ⟨xs, ho, hc⟩ := H6.out.later hx (Nat.le_trans hN hz7); exact ⟨xs, own_low ho (by omega), hc⟩, H7.out.then_ hx⟩
    cases hs : same d.par emp
    · have e1 := same_nil hs
      by_cases hlt : j < 32
      · have d0 : ((j : Int) + 1) ≤ 32 := by omega
        obtain ⟨k, hk⟩ : ∃ k, 32 - j = k + 1 := ⟨32 - j - 1, by omega⟩
        obtain ⟨o, ho⟩ : ∃ o, fnd src d.par = o := ⟨_, rfl⟩
        have FC : Hid (∀ W, Below w.heap.size w W → Calls Tryz.prog 19 #[.slice p n cap, .string d.par] W (tFnd N o W)) := Lib.hid fun W hW => by
          have := find_any src d.par p cap G N W (HA.out.under (hW.mono hN)) (Nat.le_trans hN hW.size)
          rw [ho, HN.out] at this
          exact this
        cases o with
        | none =>
          have R := Lib.hid (HRE.out _ · H2.out (by rw [hk, chain, if_neg (by rw [hs]; simp), ho]))
          clear hs ho HRE
          go_wp2_with (first
            | (go_at_call 19; ((with_reducible refine (FC.out _ H7.out).mono ?_); rintro e w5 ⟨qf5, kf5, qb5, kb5, rfl, hcv, hb5⟩; have HB5 := Lib.hid hb5; clear hcv hb5 k0 k1 k2 k3)))
          go_ret
          exact R.out _ (HB5.out.then_ (ba _ _))
        | some d' =>
          have HC : Hid (chain src 32 c = (pre ++ [d]) ++ chain src (32 - (j + 1)) d') := Lib.hid (by
            have := H2.out
            rw [this, List.append_assoc]
            congr 1
            rw [hk, chain, if_neg (by rw [hs]; simp), ho, show 32 - (j + 1) = k by omega]
            rfl)
          clear hs ho HRE
          obtain ⟨xs0, ho0, hc0⟩ := H6.out
          have hpl : (pre ++ [d]).length = j + 1 := by rw [List.length_append, h1]; rfl
          rw [hpl] at ho0
          have HO0 := Lib.hid ho0
          have HC0 := Lib.hid hc0
          have HPL := Lib.hid hpl
          clear ho0 hc0 hpl
          go_wp2_with (first
            | (go_at_call 19; ((with_reducible refine (FC.out _ H7.out).mono ?_); rintro e w5 ⟨qf5, kf5, qb5, kb5, rfl, hcv, hb5⟩; have Y5 := H4.out.stay hb5; have y0 := Y5.f 0; have y1 := Y5.f 1; have y2 := Y5.f 2; have y3 := Y5.f 3; have yl := Y5.lt; have z0 := Y5.c 0 _ rfl; have z1 := Y5.c 1 _ rfl; have z2 := Y5.c 2 _ rfl; have z3 := Y5.c 3 _ rfl; have HY := Lib.hid Y5; have HCV5 : Hid (CV (Lo N) w5 qf5 kf5 qb5 kb5 d') := Lib.hid hcv; have HB5 := Lib.hid hb5; have hz5 := hb5.size; have GT : Hid (wr.grownBy ((put4 w5 w.heap.size d' qf5 kf5 qb5 kb5 25).alloc (.cells (cc4 d' qf5 kf5 qb5 kb5).toArray 25)) (some w.heap.size)) := Lib.hid (((grown_below hb5 _).trans (put4_grown _ _ _ _ _ _ _ _)).trans (grown_below (ba _ _) _)); have HO6 : Hid (((put4 w5 w.heap.size d' qf5 kf5 qb5 kb5 25).alloc (.cells (cc4 d' qf5 kf5 qb5 kb5).toArray 25)).ownsRow (w.heap.size + 1) 25 4 (.slice p5 (j + 1) c5) (j + 1) xs0) := Lib.hid (own_grown HO0.out GT.out (fun b hb e => by cases e; have := (HO0.out.lt _ hb).1; omega)); clear hcv hb5 k0 k1 k2 k3))
            | (at_builtin; go_loud (refine wpList_append_lies _ rfl _ _ 38 rfl (w.heap.size + 1) 25 i0 (.agg #[.string ⟨#[]⟩, .string ⟨#[]⟩, .slice none 0 0, .slice none 0 0]) 4 80 Tryz.underlying38 hi hz0 hz1 hz2 rfl (by decide) _ (j + 1) xs0 rfl HO6.out ⟨w5.heap.size + 1, 0, none⟩ 1 1 (cc4 d' qf5 kf5 qb5 kb5) rfl rfl (cells_at (by simp only [World.size_alloc, setCell_size]) (cc4 d' qf5 kf5 qb5 kb5) _) (by intro u hu; simp only [List.mem_cons, List.not_mem_nil, or_false] at hu; rcases hu with rfl | rfl | rfl | rfl <;> rfl) (by omega) (by unfold maxLen; omega) (by omega) (by simp only [World.size_alloc, setCell_size]; omega) _ rfl ?_); go_loud (intro g7 k7 w3 hown' hgrow hat7 _; have HO3 := Lib.hid hown'; have HG3 := Lib.hid hgrow; clear hown' hgrow hat7)))
          go_roundw
          case rel =>
            have hs4 := put4_size w5 w.heap.size d' qf5 kf5 qb5 kb5 25
            have hsT := GT.out.size
            have hNW : w.heap.size ≤ wr.heap.size := hz7
            have hcv6 : CV (Lo N) ((put4 w5 w.heap.size d' qf5 kf5 qb5 kb5 25).alloc (.cells (cc4 d' qf5 kf5 qb5 kb5).toArray 25)) qf5 kf5 qb5 kb5 d' := HCV5.out.grown ((put4_grown _ _ _ _ _ _ _ _).trans (grown_below (ba _ _) _)) (by omega) (fun b e => by cases e; exact hN)
            have hvb : ∀ b, (Value.slice p5 (j + 1) c5).ownBlock = some b → w.heap.size + 1 ≤ b := fun b e => (HO6.out.lt b e).1
            refine ⟨j + 1, some ⟨g7, 0, none⟩, k7, by omega, by rfl, Lib.hid ⟨⟨pre ++ [d], d', qf5, kf5, qb5, kb5, HPL.out, HC.out, ((put4_blk HY.out qf5 kf5 qb5 kb5 _).alloc _).grown HG3.out (fun e => by have := hvb _ e.symm; omega), hcv6.grown HG3.out (by rw [World.size_alloc]; omega) (fun b e => by have := hvb _ e; omega), ?_⟩, ?_⟩⟩
            · exact LRow.snoc (v := .slice p5 (j + 1) c5) (HC0.out.grown GT.out (Nat.le_trans hN hNW) (fun b e => by cases e; exact hN)) (by rw [HPL.out]; exact HO6.out.1) hcv6 (by rw [HPL.out]; exact HO3.out) HG3.out (by rw [World.size_alloc]; omega) (fun g e => by have := hvb _ e; omega)
            · exact (H7.out.grown GT.out hNW (fun b e => by cases e; exact Nat.le_refl _)).grown HG3.out (by rw [World.size_alloc]; omega) (fun b e => by have := hvb _ e; omega)
          case measure => simp [lenOf]; omega
      · have d0 : ¬ ((j : Int) + 1) ≤ 32 := by omega
        have R := Lib.hid (HRE.out _ wr H2.out (by rw [show 32 - j = 0 by omega]; rfl) (Below.refl _ _))
        clear HRE
        go_wp2
        go_ret
        exact R.out
    · have e1 := same_nil hs
      have R := Lib.hid (HRE.out _ wr H2.out (by
        cases hk : 32 - j with
        | zero => rfl
        | succ k => rw [chain, if_pos hs]) (Below.refl _ _))
      clear HRE
      go_wp2
      go_ret
      exact R.out
theorem inh_at {x : Cl} {r : List Cl} {i k : Nat} {d : Cl} {f : Fld} (hi : (x :: r)[i]? = some d) (h1 : 1 ≤ i) (hk : x.fs[k]? = some f) (ha : d.fs.any (fun g => same g.nm f.nm) = true) : inhB (x :: r) = true := by
  obtain ⟨i', rfl⟩ : ∃ i', i = i' + 1 := ⟨i - 1, by omega⟩
  rw [List.getElem?_cons_succ] at hi
  exact List.any_eq_true.2 ⟨d, List.mem_of_getElem? hi, List.any_eq_true.2 ⟨f, List.mem_of_getElem? hk, ha⟩⟩
/-- No field so far. -/
def NoInh (x : Cl) (r : List Cl) (i k : Nat) : Prop := (∀ d ∈ r.take (i - 1), ∀ f ∈ x.fs, d.fs.any (fun g => same g.nm f.nm) = false) ∧ ∀ d, (x :: r)[i]? = some d → ∀ f ∈ x.fs.take k, d.fs.any (fun g => same g.nm f.nm) = false
theorem noInh_k {x : Cl} {r : List Cl} {i k : Nat} {d : Cl} {f : Fld} (h : NoInh x r i k) (hi : (x :: r)[i]? = some d) (hk : x.fs[k]? = some f) (ha : d.fs.any (fun g => same g.nm f.nm) = false) : NoInh x r i (k + 1) := by
  refine ⟨h.1, fun e he g hg => ?_⟩
  rw [hi] at he
  cases he
  obtain ⟨hkl, hx⟩ := List.getElem?_eq_some_iff.1 hk
  rw [List.take_succ_eq_append_getElem hkl, List.mem_append, List.mem_singleton, hx] at hg
  rcases hg with hg | hg
  · exact h.2 d hi g hg
  · rw [hg]; exact ha
theorem noInh_i {x : Cl} {r : List Cl} {i k : Nat} (h : NoInh x r i k) (h1 : 1 ≤ i) (hi : i < (x :: r).length) (hk : x.fs.length ≤ k) : NoInh x r (i + 1) 0 := by
  obtain ⟨i', rfl⟩ : ∃ i', i = i' + 1 := ⟨i - 1, by omega⟩
  rw [List.length_cons] at hi
  refine ⟨fun d hd f hf => ?_, fun d _ f hf => by simp at hf⟩
  have hr : i' < r.length := by omega
  rw [show i' + 1 + 1 - 1 = i' + 1 by omega, List.take_succ_eq_append_getElem hr, List.mem_append, List.mem_singleton] at hd
  rcases hd with hd | hd
  · exact h.1 d hd f hf
  · exact h.2 d (by rw [List.getElem?_cons_succ, hd, List.getElem?_eq_getElem hr]) f (by rw [List.take_of_length_le hk]; exact hf)
theorem noInh_all {x : Cl} {r : List Cl} {i : Nat} (h : NoInh x r i 0) (hi : (x :: r).length ≤ i) : inhB (x :: r) = false := by
  rw [List.length_cons] at hi
  show List.any r _ = false
  rw [List.any_eq_false]
  intro d hd e
  obtain ⟨f, hf, e⟩ := List.any_eq_true.1 e
  have := h.1 d (by rw [List.take_of_length_le (by omega)]; exact hd) f hf
  rw [this] at e
  cases e
set_option maxRecDepth 100000 in
set_option maxHeartbeats 8000000 in
theorem inherited_any (x : Cl) (r : List Cl) (p : Option Addr) (cap : Nat) (G : Nat → Nat → Value) (N : Nat) (w : World) (ha : RowA (Lo N) w .classes p cap G ((x :: r).map Cl.lf)) (hN : N ≤ w.heap.size) :
    Calls Tryz.prog 51 #[.slice p (x :: r).length cap] w (tBool (inhB (x :: r)) w) := by
  have hl := ha.hl
  rw [List.length_map] at hl
  simp only [byt] at hl
  have HA := Lib.hid ha
  obtain ⟨b, off, pf, cf, pb, cb, rfl, hb, x0, x1, x2, x3, hxv⟩ := ha.cl (i := 0) (c := x) rfl
  simp only [Nat.zero_mul, Nat.add_zero] at x2
  have HXV := Lib.hid hxv
  have HX2 := Lib.hid x2
  have hb' : b < w.heap.size := Nat.lt_of_lt_of_le hb hN
  obtain ⟨_, _, Gx, ex, rx⟩ := hxv.fs.rowOf
  rw [List.length_map] at ex
  cases ex
  have RX := Lib.hid rx
  have hlx := rx.hl
  rw [List.length_map] at hlx
  simp only [byt] at hlx
  obtain ⟨K, hK⟩ : ∃ K, (x :: r).length = K := ⟨_, rfl⟩
  obtain ⟨M, hM⟩ : ∃ K, x.fs.length = K := ⟨_, rfl⟩
  have HK := Lib.hid hK
  have HM := Lib.hid hM
  rw [hK] at hl ⊢
  rw [hM] at x2 HX2 hlx
  have hK1 : 1 ≤ K := by rw [← hK, List.length_cons]; omega
  have HN0 : Hid (NoInh x r 1 0) := Lib.hid ⟨fun d hd => by simp at hd, fun d _ f hf => by simp at hf⟩
  have HB0 := Lib.hid (Below.refl w.heap.size w)
  clear ha hK hM x0 x1 x3 hxv rx x2 hb
  go_enter Tryz.func51, Tryz.ntmps51
  go_wp2
  go_loopw [3] (fun i wr => ∃ j : Nat, 1 ≤ j ∧ j ≤ K ∧ i = .int .i64 j ∧ Hid (NoInh x r j 0) ∧ Hid (Below w.heap.size w wr)) (fun i _ => K - (intOf i).toNat)
  case atStart => exact ⟨1, Nat.le_refl _, hK1, rfl, HN0, HB0⟩
  case round =>
    obtain ⟨j, hj1, hj, rfl, NI, BW⟩ := hrel
    obtain ⟨wa, rfl⟩ : ∃ x, x = wr := ⟨_, rfl⟩
    by_cases hlt : j < K
    · obtain ⟨d, hd⟩ : ∃ d, (x :: r)[j]? = some d := ⟨_, List.getElem?_eq_getElem (by rw [HK.out]; exact hlt)⟩
      have HD := Lib.hid hd
      clear hd
      go_wp2
      go_loopw [4] (fun i wr => ∃ k : Nat, k ≤ M ∧ i = .int .i64 k ∧ Hid (NoInh x r j k) ∧ Hid (Below w.heap.size w wr)) (fun i _ => M - (intOf i).toNat)
      case atStart => exact ⟨0, Nat.zero_le _, rfl, NI, BW⟩
      case round =>
        clear NI BW
        obtain ⟨k, hk, rfl, NI, BW⟩ := hrel
        have x2 := (BW.out.cell (p := ⟨b, off + 2, none⟩) hb').trans HX2.out
        by_cases hlt2 : k < M
        · obtain ⟨f, hf⟩ : ∃ f, x.fs[k]? = some f := ⟨_, List.getElem?_eq_getElem (by rw [HM.out]; exact hlt2)⟩
          obtain ⟨b2, off2, rfl, hb2, f0, f1, f2, f3, f4, hsz⟩ := (RX.out.under (BW.out.mono hN)).fd hf
          obtain ⟨b', off', qf, kf, qb, kb, e', hb3, y0, y1, y2, y3, hyv⟩ := (HA.out.under (BW.out.mono hN)).cl HD.out
          cases e'
          obtain ⟨_, _, Gd, ed, rd⟩ := hyv.fs.rowOf
          rw [List.length_map] at ed
          cases ed
          have VC : Hid (∀ W, Below wr.heap.size wr W → Calls Tryz.prog 45 #[.slice qf d.fs.length kf, .string f.nm] W fun e w' => e = .returned (.bool (d.fs.any (fun a => same a.nm f.nm))) ∧ W = w') := Lib.hid (fun W hW => field_any d.fs f.nm qf kf Gd N W (rd.under (hW.mono (Nat.le_trans hN BW.out.size))))
          have HF := Lib.hid hf
          generalize d.fs.length = D at *
          clear hf hb2 hb3 y0 y1 y3 hyv rd f1 f2 f3 f4
          cases hz : d.fs.any (fun a => same a.nm f.nm)
          · have NI2 := Lib.hid (noInh_k NI.out HD.out HF.out hz)
            rw [hz] at VC
            clear hz
            go_wp2
            go_quiet ((go_at_call 45; exact quietL (VC.out _ dB)))
            go_wp2
            go_roundw
            case rel => exact ⟨k + 1, by omega, by go_num, NI2, Lib.hid (drewB BW.out)⟩
            case measure => simp [intOf]; omega
          · have E := Lib.hid (inh_at HD.out hj1 HF.out hz)
            rw [hz] at VC
            clear hz
            go_wp2
            go_quiet ((go_at_call 45; exact quietL (VC.out _ dB)))
            go_wp2
            go_ret
            exact tBool_mk E.out.symm (drewB BW.out)
        · have NI2 := Lib.hid (noInh_i NI.out hj1 (by rw [HK.out]; exact hlt) (by rw [HM.out]; omega))
          go_wp2
          go_roundw
          case rel => exact ⟨j + 1, by omega, by omega, by go_num, NI2, BW⟩
          case measure => simp [intOf]; omega
    · have E := Lib.hid (noInh_all NI.out (by rw [HK.out]; omega))
      go_wp2
      go_ret
      exact tBool_mk E.out.symm BW.out
end Go.Proofs.YtoigjeoncdfdmaaGreatDoor.ClW
