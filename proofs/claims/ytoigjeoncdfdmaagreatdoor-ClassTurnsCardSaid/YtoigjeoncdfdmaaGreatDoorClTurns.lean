/-
  ClassTurns returns true.
-/
import Derived.Test.YtoigjeoncdfdmaaGreatDoorClAwake
import Derived.Test.YtoigjeoncdfdmaaGreatDoorClSmall
import Derived.Test.YtoigjeoncdfdmaaGreatDoorClLawM
import Derived.Test.YtoigjeoncdfdmaaGreatDoorClLine
import Derived.Test.YtoigjeoncdfdmaaGreatDoorClFamC
import Derived.Maps.AppendAt
namespace Go.Proofs.YtoigjeoncdfdmaaGreatDoor.ClW
open Go Go.RowKit Go.Shelf Go.Proofs.YtoigjeoncdfdmaaGreatDoor.NumM Go.Proofs.YtoigjeoncdfdmaaGreatDoor.LexW Go.Proofs.YtoigjeoncdfdmaaGreatDoor.LexM Go.Proofs.YtoigjeoncdfdmaaGreatDoor.ClM
attribute [local go_sem] Oper.semAt_some

theorem bounds8 {a : Int} (h : (Lit.int .u8 a).wf = true) : 0 ≤ a ∧ a ≤ 255 := by
  have e1 : IntKind.u8.min = 0 := rfl
  have e2 : IntKind.u8.max = 255 := rfl
  simp [Lit.wf, e1, e2] at h
  exact h
/-- What a row of classes in memory reads as. -/
theorem flatC_ck {N : Nat} {w : World} {p : Option Addr} {cap : Nat} {F : Nat → Nat → Value} {cs : List Cl} (h : RowA (Lo N) w .classes p cap F (cs.map Cl.lf)) : CkC N w cs (flatF 4 cs.length F) := by
  refine ⟨fun i c hi => ?_⟩
  have hil := (List.getElem?_eq_some_iff.1 hi).1
  have hg : (cs.map Cl.lf)[i]? = some c.lf := by rw [List.getElem?_map, hi]; rfl
  obtain ⟨e0, s0⟩ := (h.hx i _ 0 _ .s hg rfl rfl).sOf
  obtain ⟨e1, s1⟩ := (h.hx i _ 1 _ .s hg rfl rfl).sOf
  have a2 := h.hx i _ 2 _ (.r .fields) hg rfl rfl
  have a3 := h.hx i _ 3 _ (.r .blocks) hg rfl rfl
  obtain ⟨pf, cf, Gf, e2, _⟩ := a2.rowOf
  obtain ⟨pb, cb, Gb, e3, _⟩ := a3.rowOf
  rw [List.length_map] at e2 e3
  rw [e2] at a2
  rw [e3] at a3
  refine ⟨pf, cf, pb, cb, ?_, ?_, ?_, ?_, ⟨s0, s1, a2, a3⟩⟩
  · have := flatF_get (F := F) (k := 4) hil (show 0 < 4 by omega); rw [e0] at this; exact this
  · have := flatF_get (F := F) (k := 4) hil (show 1 < 4 by omega); rw [e1] at this; exact this
  · have := flatF_get (F := F) (k := 4) hil (show 2 < 4 by omega); rw [e2] at this; exact this
  · have := flatF_get (F := F) (k := 4) hil (show 3 < 4 by omega); rw [e3] at this; exact this
theorem CkC.drop {N : Nat} {w : World} {cs : List Cl} {xs : List Value} (h : CkC N w cs xs) (n : Nat) : CkC N w (cs.drop n) (xs.drop (n * 4)) := by
  refine ⟨fun i c hi => ?_⟩
  rw [List.getElem?_drop] at hi
  obtain ⟨pf, cf, pb, cb, h1, h2, h3, h4, h5⟩ := h.at_ _ c hi
  refine ⟨pf, cf, pb, cb, ?_, ?_, ?_, ?_, h5⟩
  · rw [List.getElem?_drop, show n * 4 + i * 4 = (n + i) * 4 by omega]; exact h1
  · rw [List.getElem?_drop, show n * 4 + (i * 4 + 1) = (n + i) * 4 + 1 by omega]; exact h2
  · rw [List.getElem?_drop, show n * 4 + (i * 4 + 2) = (n + i) * 4 + 2 by omega]; exact h3
  · rw [List.getElem?_drop, show n * 4 + (i * 4 + 3) = (n + i) * 4 + 3 by omega]; exact h4
theorem CkC.take {N : Nat} {w : World} {cs : List Cl} {xs : List Value} (h : CkC N w cs xs) (n : Nat) : CkC N w (cs.take n) (xs.take (n * 4)) := by
  refine ⟨fun i c hi => ?_⟩
  have hin : i < n := by
    have := (List.getElem?_eq_some_iff.1 hi).1
    rw [List.length_take] at this
    omega
  rw [List.getElem?_take_of_lt hin] at hi
  obtain ⟨pf, cf, pb, cb, h1, h2, h3, h4, h5⟩ := h.at_ _ c hi
  refine ⟨pf, cf, pb, cb, ?_, ?_, ?_, ?_, h5⟩
  · rw [List.getElem?_take_of_lt (by omega)]; exact h1
  · rw [List.getElem?_take_of_lt (by omega)]; exact h2
  · rw [List.getElem?_take_of_lt (by omega)]; exact h3
  · rw [List.getElem?_take_of_lt (by omega)]; exact h4
theorem CkC.append {N : Nat} {w : World} {cs ds : List Cl} {xs ys : List Value} (h : CkC N w cs xs) (hl : xs.length = cs.length * 4) (k : CkC N w ds ys) : CkC N w (cs ++ ds) (xs ++ ys) := by
  refine ⟨fun i c hi => ?_⟩
  rcases Nat.lt_or_ge i cs.length with hlt | hge
  · rw [List.getElem?_append_left hlt] at hi
    obtain ⟨pf, cf, pb, cb, h1, h2, h3, h4, h5⟩ := h.at_ _ c hi
    refine ⟨pf, cf, pb, cb, ?_, ?_, ?_, ?_, h5⟩
    · rw [List.getElem?_append_left (by omega)]; exact h1
    · rw [List.getElem?_append_left (by omega)]; exact h2
    · rw [List.getElem?_append_left (by omega)]; exact h3
    · rw [List.getElem?_append_left (by omega)]; exact h4
  · rw [List.getElem?_append_right hge] at hi
    obtain ⟨pf, cf, pb, cb, h1, h2, h3, h4, h5⟩ := k.at_ _ c hi
    refine ⟨pf, cf, pb, cb, ?_, ?_, ?_, ?_, h5⟩
    · rw [List.getElem?_append_right (by omega), show i * 4 - xs.length = (i - cs.length) * 4 by omega]; exact h1
    · rw [List.getElem?_append_right (by omega), show i * 4 + 1 - xs.length = (i - cs.length) * 4 + 1 by omega]; exact h2
    · rw [List.getElem?_append_right (by omega), show i * 4 + 2 - xs.length = (i - cs.length) * 4 + 2 by omega]; exact h3
    · rw [List.getElem?_append_right (by omega), show i * 4 + 3 - xs.length = (i - cs.length) * 4 + 3 by omega]; exact h4
/-- The turned source. -/
theorem turned_row {N B : Nat} {w : World} {src : List Cl} {G : Nat → Nat → Value} {v : Value} {n : Nat} (h : CkC N w src (flatF 4 src.length G)) (hn : n ≤ src.length)
    (ho : w.ownsRow B 25 4 v src.length ((flatF 4 src.length G).drop (n * 4) ++ (flatF 4 src.length G).take (n * 4))) : LRow N B w v (turned src n) := by
  refine ⟨_, by rw [turned_len]; exact ho, ?_⟩
  unfold turned
  exact (h.drop n).append (by rw [List.length_drop, flatF_len, List.length_drop]; omega) (h.take n)
theorem flat_cell {S : Nat → Prop} {w : World} {b off cap : Nat} {G : Nat → Nat → Value} {cs : List Cl} (h : RowA S w .classes (some ⟨b, off, none⟩) cap G (cs.map Cl.lf)) {o : Nat} {u : Value} (hu : (flatF 4 cs.length G)[o]? = some u) : w.cell? ⟨b, off + o, none⟩ = some u := by
  obtain ⟨ho, rfl⟩ := flatF_at hu
  have hc : 0 < cs.length := by omega
  obtain ⟨b', off', e, _, hcell⟩ := h.hp (by rw [List.length_map]; exact hc)
  cases e
  have := hcell (o / 4) (o % 4) (by rw [List.length_map]; omega) (by show o % 4 < 4; omega)
  rw [show (shp Kd.classes).length = 4 from rfl, show off + o / 4 * 4 + o % 4 = off + o by omega] at this
  exact this
theorem flat_one {S : Nat → Prop} {w : World} {p : Option Addr} {cap : Nat} {G : Nat → Nat → Value} {N : Nat} {cs : List Cl} (_ : RowA S w .classes p cap G (cs.map Cl.lf)) (k : CkC N w cs (flatF 4 cs.length G)) : ∀ u ∈ flatF 4 cs.length G, u.oneCell' = true := by
  intro u hu
  obtain ⟨o, ho⟩ := List.getElem?_of_mem hu
  have hl := (List.getElem?_eq_some_iff.1 ho).1
  rw [flatF_len] at hl
  obtain ⟨c, hc⟩ : ∃ c, cs[o / 4]? = some c := ⟨_, List.getElem?_eq_getElem (by omega)⟩
  obtain ⟨pf, cf, pb, cb, h1, h2, h3, h4, _⟩ := k.at_ _ c hc
  have hr : o % 4 = 0 ∨ o % 4 = 1 ∨ o % 4 = 2 ∨ o % 4 = 3 := by omega
  rcases hr with hr | hr | hr | hr
  · rw [show o = o / 4 * 4 by omega, h1] at ho; cases ho; rfl
  · rw [show o = o / 4 * 4 + 1 by omega, h2] at ho; cases ho; rfl
  · rw [show o = o / 4 * 4 + 2 by omega, h3] at ho; cases ho; rfl
  · rw [show o = o / 4 * 4 + 3 by omega, h4] at ho; cases ho; rfl
set_option maxRecDepth 100000 in
set_option maxHeartbeats 8000000 in
theorem turns_any (src : List Cl) (x : ByteArray) (k : Nat) (p : Option Addr) (cap : Nat) (G : Nat → Nat → Value) (w : World) (hk : k ≤ 255) (ha : RowA (Lo w.heap.size) w .classes p cap G (src.map Cl.lf)) (ht : Tab w) :
    Calls Tryz.prog 7 #[.slice p src.length cap, .string x, .int .u8 k] w (tBool true w) := by
  obtain ⟨i0, hi, hz0, hz1, hz2⟩ := info_parts infoCl
  obtain ⟨t, h40, hf⟩ := few_more src p cap G _ w ha (Nat.le_refl _)
  have FC := Lib.hid hf
  have HT : Hid (∀ W, Below w.heap.size w W → Tab W) := Lib.hid fun W hW => ht.later hW
  obtain ⟨K, hK⟩ : ∃ n, src.length = n := ⟨_, rfl⟩
  have HK := Lib.hid hK
  have hl := ha.hl
  have hc := ha.hc
  rw [List.length_map, hK] at hl hc
  simp only [byt] at hl
  have HA := Lib.hid ha
  have hKb : K ≤ 140737488351232 := by omega
  rw [hK] at FC h40 ⊢
  clear hf ht hK ha
  by_cases hK0 : K = 0
  · subst hK0
    cases t <;>
    · go_enter Tryz.func7, Tryz.ntmps7
      go_wp2_with (first
        | (go_at_call 17; ((with_reducible refine FC.out.mono ?_); rintro e w1 ⟨rfl, hb1⟩; have HB1 := Lib.hid hb1; clear hb1))
        | (go_at_call 10; ((with_reducible refine (awake_any w1 (HT.out w1 HB1.out)).mono ?_); rintro e w2 ⟨rfl, hb2⟩; have HB2 := Lib.hid (HB1.out.then_ hb2); clear hb2)))
      go_ret
      exact ⟨rfl, HB2.out⟩
  · cases t
    · go_enter Tryz.func7, Tryz.ntmps7
      go_wp2_with (first
        | (go_at_call 17; ((with_reducible refine FC.out.mono ?_); rintro e w1 ⟨rfl, hb1⟩; have HB1 := Lib.hid hb1; clear hb1))
        | (go_at_call 10; ((with_reducible refine (awake_any w1 (HT.out w1 HB1.out)).mono ?_); rintro e w2 ⟨rfl, hb2⟩; have HB2 := Lib.hid (HB1.out.then_ hb2); clear hb2)))
      go_ret
      exact ⟨rfl, HB2.out⟩
    · have h40 := h40 rfl
      obtain ⟨b, off, rfl, hbS, hcell⟩ := HA.out.hp (by rw [List.length_map, HK.out]; omega)
      clear hcell
      obtain ⟨n, hnn⟩ : ∃ n, k % K = n := ⟨_, rfl⟩
      have hnK : n < K := by rw [← hnn]; exact Nat.mod_lt _ (by omega)
      have hmod : (k : Int) % (K : Int) = (n : Int) := by rw [← hnn]; omega
      have hne : ¬ cap = n := by omega
      have XL : Hid ((flatF 4 src.length G).length = K * 4) := Lib.hid (by rw [flatF_len, HK.out])
      have CKW : Hid (∀ W, Below w.heap.size w W → CkC w.heap.size W src (flatF 4 src.length G)) := Lib.hid fun W hW => flatC_ck (HA.out.under hW)
      have OC : Hid (∀ u ∈ flatF 4 src.length G, u.oneCell' = true) := Lib.hid (flat_one HA.out (flatC_ck HA.out))
      have CE : Hid (∀ W, Below w.heap.size w W → ∀ o u, (flatF 4 src.length G)[o]? = some u → W.cell? ⟨b, off + o, none⟩ = some u) := Lib.hid fun W hW o u hu => flat_cell (HA.out.under hW) hu
      have CT : Hid (∀ B W v, Below w.heap.size w W → W.ownsRow B 25 4 v K (([] ++ (flatF 4 src.length G).drop (n * 4)) ++ (flatF 4 src.length G).take (n * 4)) → LRow w.heap.size B W v (turned src n)) := Lib.hid fun B W v hW ho => by
        rw [← HK.out] at ho
        exact turned_row (CKW.out W hW) (by rw [HK.out]; omega) ho
      obtain ⟨hy2, hiff⟩ := turned_flat src n x
      obtain ⟨y, hy⟩ : ∃ c, (flatE src x).1 = c := ⟨_, rfl⟩
      obtain ⟨e1, he1⟩ : ∃ n, (flatE src x).2 = n := ⟨_, rfl⟩
      obtain ⟨e2, he2⟩ : ∃ m, (flatE (turned src n) x).2 = m := ⟨_, rfl⟩
      rw [hy] at hy2
      rw [he1, he2] at hiff
      have FF1 : Hid (∀ W, Below w.heap.size w W → Calls Tryz.prog 25 #[.slice (some ⟨b, off, none⟩) K cap, .string x] W fun e w' => ∃ pf cf pb cb, e = .returned (.tuple #[cv y.nm y.par (.slice pf y.fs.length cf) (.slice pb y.bs.length cb), .int .i64 e1]) ∧ CV (Lo w'.heap.size) w' pf cf pb cb y ∧ Below W.heap.size W w') := Lib.hid fun W hW => by
        have := flatten_any src x _ cap G _ W (HA.out.under hW) hW.size (HT.out W hW)
        unfold tFlatE at this
        rw [hy, he1, HK.out] at this
        exact this
      have FF2 : Hid (∀ (q : Option Addr) (qc : Nat) (M : Nat → Nat → Value) (w3 W : World), RowA (Lo w3.heap.size) w3 .classes q qc M ((turned src n).map Cl.lf) → Below w3.heap.size w3 W → Below w.heap.size w W → Calls Tryz.prog 25 #[.slice q K qc, .string x] W fun e w' => ∃ pf cf pb cb, e = .returned (.tuple #[cv y.nm y.par (.slice pf y.fs.length cf) (.slice pb y.bs.length cb), .int .i64 e2]) ∧ CV (Lo w'.heap.size) w' pf cf pb cb y ∧ Below W.heap.size W w') := Lib.hid fun q qc M w3 W hr h3 hW => by
        have := flatten_any (turned src n) x q qc M _ W (hr.under h3) h3.size (HT.out W hW)
        unfold tFlatE at this
        rw [hy2, he2, turned_len, HK.out] at this
        exact this
      clear hy hy2 he1 he2
      generalize flatF 4 src.length G = xs at *
      have L1 : Hid ((xs.drop (n * 4)).length = (K - n) * 4) := Lib.hid (by rw [List.length_drop, XL.out]; omega)
      have L2 : Hid ((xs.take (n * 4)).length = n * 4) := Lib.hid (by rw [List.length_take, XL.out]; omega)
      have N1 : Hid (∀ W, Below w.heap.size w W → ∀ (j : Nat) (u : Value), (xs.drop (n * 4))[j]? = some u → W.cell? ((⟨b, off + n * 4, none⟩ : Addr).add j) = some u) := Lib.hid fun W hW j u hu => by
        rw [List.getElem?_drop] at hu
        have := CE.out W hW _ u hu
        rw [← Nat.add_assoc] at this
        rw [addr_add]; exact this
      have N2 : Hid (∀ W, Below w.heap.size w W → ∀ (j : Nat) (u : Value), (xs.take (n * 4))[j]? = some u → W.cell? ((⟨b, off, none⟩ : Addr).add j) = some u) := Lib.hid fun W hW j u hu => by
        have hj := (List.getElem?_eq_some_iff.1 hu).1
        rw [List.length_take] at hj
        rw [List.getElem?_take_of_lt (by omega)] at hu
        rw [addr_add]; exact CE.out W hW _ u hu
      have hcase : (e1 = 0 ∧ e2 = 0) ∨ ((e1 == 0) = false ∧ (e2 == 0) = false ∧ ¬ e1 = 0 ∧ ¬ e2 = 0) := by
        by_cases h : e1 = 0
        · exact .inl ⟨h, hiff.2 h⟩
        · have h2 : ¬ e2 = 0 := fun h2 => h (hiff.1 h2)
          exact .inr ⟨by rw [beq_eq_false_iff_ne]; exact h, by rw [beq_eq_false_iff_ne]; exact h2, h, h2⟩
      clear hiff
      rcases hcase with ⟨rfl, rfl⟩ | ⟨g1, g2, g3, g4⟩ <;>
      · go_enter Tryz.func7, Tryz.ntmps7
        go_wp2_with (first
          | (go_at_call 17; ((with_reducible refine FC.out.mono ?_); rintro e w1 ⟨rfl, hb1⟩; have HB1 := Lib.hid hb1; have O1 := Lib.hid (World.ownsRow_nil w1 w1.heap.size 25 4); clear hb1))
          | (at_builtin; (refine wpList_append_own_at _ rfl _ _ 38 rfl w1.heap.size 25 i0 (.agg #[.string ⟨#[]⟩, .string ⟨#[]⟩, .slice none 0 0, .slice none 0 0]) 4 80 Tryz.underlying38 hi hz0 hz1 hz2 rfl (by decide) _ 0 [] rfl O1.out ⟨b, off + n * 4, none⟩ (K - n) (cap - n) (xs.drop (n * 4)) rfl L1.out (N1.out w1 HB1.out) (fun u hu => OC.out u (List.mem_of_mem_drop hu)) (by unfold maxLen; omega) (by omega) (Nat.le_refl _) ?_); (intro v2 w2 hown2 hgrow2 _ hat2; have O2 := Lib.hid hown2; have H2 := Lib.hid (HB1.out.grown hgrow2 HB1.out.size (fun b hb => Nat.le_trans HB1.out.size (own_block O1.out b hb))); have HS2 := Lib.hid hgrow2.size; clear hown2 hgrow2 hat2))
          | (at_builtin; (refine wpList_append_own_at _ rfl _ _ 38 rfl w1.heap.size 25 i0 (.agg #[.string ⟨#[]⟩, .string ⟨#[]⟩, .slice none 0 0, .slice none 0 0]) 4 80 Tryz.underlying38 hi hz0 hz1 hz2 rfl (by decide) _ _ _ rfl O2.out ⟨b, off, none⟩ n cap (xs.take (n * 4)) rfl L2.out (N2.out w2 H2.out) (fun u hu => OC.out u (List.mem_of_mem_take hu)) (by unfold maxLen; omega) (by omega) HS2.out ?_); (intro v3 w3 hown3 hgrow3 _ hat3; have H3 := Lib.hid (H2.out.grown hgrow3 H2.out.size (fun b hb => Nat.le_trans HB1.out.size (own_block O2.out b hb))); rw [show 0 + (K - n) + n = K by omega] at hown3; obtain ⟨p3, k3, G3, hv3, r3⟩ := (CT.out _ _ _ H3.out hown3).toLo (by rw [turned_len, HK.out]; omega) H3.out.size; rw [turned_len, HK.out] at hv3; subst hv3; have R3 := Lib.hid r3; clear hown3 hgrow3 hat3 r3))
          | (go_at_call 25; ((with_reducible refine (FF1.out w3 H3.out).mono ?_); rintro e w4 ⟨pf, cf, pb, cb, rfl, hcv, hb4⟩; have hn := ba w4 (.cells #[.string y.nm, .string y.par, .slice pf y.fs.length cf, .slice pb y.bs.length cb] 25); have Y4 := Lib.hid (Blk.new w4 [.string y.nm, .string y.par, .slice pf y.fs.length cf, .slice pb y.bs.length cb] 25); have HL4 := Lib.hid (hb4.then_ hn); have HB4 := Lib.hid ((H3.out.then_ hb4).then_ hn); have HC4 := Lib.hid ((hcv.under hn).wide hn.size); clear hb4 hcv hn))
          | (go_at_call 25; ((with_reducible refine (FF2.out _ _ _ _ _ R3.out HL4.out HB4.out).mono ?_); rintro e w5 ⟨qf, df, qb, db, rfl, hcv, hb5⟩; have hn := ba w5 (.cells #[.string y.nm, .string y.par, .slice qf y.fs.length df, .slice qb y.bs.length db] 25); have X5 := Blk.new w5 [.string y.nm, .string y.par, .slice qf y.fs.length df, .slice qb y.bs.length db] 25; have hl5 := hb5.then_ hn; have X4 := Y4.out.stay hl5; have HB5 := Lib.hid (HB4.out.then_ hl5); have SC := Lib.hid (sameC_any y _ _ pf pb qf qb cf cb df db ((HC4.out.under hl5).wide hl5.size) ((hcv.under hn).wide hn.size) (Nat.le_refl _)); have c0 := X4.c 0 _ rfl; have c1 := X4.c 1 _ rfl; have c2 := X4.c 2 _ rfl; have c3 := X4.c 3 _ rfl; have d0 := X5.c 0 _ rfl; have d1 := X5.c 1 _ rfl; have d2 := X5.c 2 _ rfl; have d3 := X5.c 3 _ rfl; clear hb5 hcv hn hl5 X4 X5))
          | (go_at_call 22; ((with_reducible refine SC.out.mono ?_); rintro e w6 ⟨rfl, hb6⟩; have HB6 := Lib.hid (HB5.out.then_ hb6); clear hb6))
          | (go_at_call 10; ((with_reducible refine (awake_any w6 (HT.out w6 HB6.out)).mono ?_); rintro e w7 ⟨rfl, hb7⟩; have HB7 := Lib.hid (HB6.out.then_ hb7); clear hb7)))
        go_ret
        exact ⟨rfl, HB7.out⟩

end Go.Proofs.YtoigjeoncdfdmaaGreatDoor.ClW
