/-
  What rebuilt returns, handed clone, folded and the closure of Subst. Written by gen_exrebuild.py.
-/
import Derived.Test.YtdiackcefojfkaaGreatDoorExBuild
namespace Go.Proofs.YtdiackcefojfkaaGreatDoor.ExW
open Go Go.RowKit Go.Proofs.YtdiackcefojfkaaGreatDoor.NumM Go.Proofs.YtdiackcefojfkaaGreatDoor.LexW Go.Proofs.YtdiackcefojfkaaGreatDoor.LexM Go.Proofs.YtdiackcefojfkaaGreatDoor.ExM

/-- An expression in new memory is returned. -/
def tFr (x : Ex) (w : World) (e : Ending) (w' : World) : Prop := ∃ v, e = .returned v ∧ Fr w.heap.size w' v x ∧ Below w.heap.size w w'
def resF (g : Ex → Ex) (ks : List Ex) (pl : Nat → Option Addr) (cl : Nat → Nat) (a r : Nat) : Value := match ks[a]? with | some x => cellR (g x) (pl a) (cl a) r | none => .int .i64 0
theorem res_at {g : Ex → Ex} {ks : List Ex} {pl : Nat → Option Addr} {cl : Nat → Nat} {a r : Nat} {x : Ex} (h : ks[a]? = some x) : resF g ks pl cl a r = cellR (g x) (pl a) (cl a) r := by unfold resF; rw [h]
def Row (g : Ex → Ex) (ks : List Ex) (pl : Nat → Option Addr) (cl : Nat → Nat) (gb K j : Nat) (wr : World) : Prop :=
  ∃ F pl2 cl2, RowAt wr gb K F ∧ (∀ a r, a < j → F a r = resF g ks pl2 cl2 a r) ∧ (∀ a r, j ≤ a → F a r = origF pl cl ks a r) ∧ (∀ a x, a < j → ks[a]? = some x → (g x).args.length ≤ cl2 a ∧ Fr (gb + 1) wr (xv (g x).op (g x).n (g x).nm (.slice (pl2 a) (g x).args.length (cl2 a))) (g x))
theorem row_step {g : Ex → Ex} {ks : List Ex} {pl : Nat → Option Addr} {cl : Nat → Nat} {gb K j : Nat} {wr w5 : World} {a : Ex} {p5 : Option Addr} {c5 : Nat} (h : Row g ks pl cl gb K j wr) (hb : Below wr.heap.size wr w5) (hj : j < K) (hak : ks[j]? = some a)
    (hf : Fr (gb + 1) w5 (xv (g a).op (g a).n (g a).nm (.slice p5 (g a).args.length c5)) (g a)) (hc : (g a).args.length ≤ c5) :
    Row g ks pl cl gb K (j + 1) ((((w5.setCell ⟨gb, j * 4, none⟩ (.int .i64 (g a).op)).setCell ⟨gb, j * 4 + 1, none⟩ (.int .i64 (g a).n)).setCell ⟨gb, j * 4 + 2, none⟩ (.string (g a).nm)).setCell ⟨gb, j * 4 + 3, none⟩ (.slice p5 (g a).args.length c5)) := by
  obtain ⟨F, pl2, cl2, hrow, hres, horg, hfr⟩ := h
  refine ⟨_, fun b => if b = j then p5 else pl2 b, fun b => if b = j then c5 else cl2 b, (hrow.stay hb).put hj _ _ _ _, fun b r hb => ?_, fun b r hb => ?_, fun b x hb hx => ?_⟩
  · by_cases e : b = j
    · subst e
      rw [if_pos rfl, res_at hak]
      simp only [if_true]
      match r with
      | 0 => rfl
      | 1 => rfl
      | 2 => rfl
      | (r + 3) => rfl
    · rw [if_neg e, hres b r (by omega)]
      unfold resF
      simp only [if_neg e]
  · rw [if_neg (by omega)]; exact horg b r (by omega)
  · by_cases e : b = j
    · subst e
      rw [hak] at hx
      cases hx
      simp only [if_true]
      exact ⟨hc, (((hf.set (by omega)).set (by omega)).set (by omega)).set (by omega)⟩
    · obtain ⟨h1, h2⟩ := hfr b x (by omega) hx
      simp only [if_neg e]
      exact ⟨h1, ((((h2.later ‹Below wr.heap.size wr w5›).set (by omega)).set (by omega)).set (by omega)).set (by omega)⟩
theorem row_done {g : Ex → Ex} {ks : List Ex} {pl : Nat → Option Addr} {cl : Nat → Nat} {gb K lo : Nat} {wr : World} {o n : Int} {s : ByteArray} {cap' : Nat} (h : Row g ks pl cl gb K K wr) (hK : ks.length = K) (hlo : lo ≤ gb) (hs : s.size ≤ 140737488351232) (hk : K ≤ 10000) (hc : K ≤ cap') :
    Fr lo wr (xv o n s (.slice (some ⟨gb, 0, none⟩) K cap')) (.mk o n s (ks.map g)) := by
  obtain ⟨F, pl2, cl2, hrow, hres, _, hfr⟩ := h
  have hl : (ks.map g).length = K := by rw [List.length_map, hK]
  have := ExS.mk (S := fun b => lo ≤ b ∧ b < wr.heap.size) (w := wr) (o := o) (n := n) (s := s) (ks := ks.map g) (p := some ⟨gb, 0, none⟩) (cap := cap') pl2 cl2 hs (by rw [hl]; omega) (by rw [hl]; exact hc)
    (fun _ => ⟨gb, 0, rfl, ⟨hlo, hrow.lt⟩, fun i a hi => by
      rw [List.getElem?_map] at hi
      obtain ⟨x, hx, rfl⟩ := Option.map_eq_some_iff.1 hi
      have hik : i < K := by rw [← hK]; exact (List.getElem?_eq_some_iff.1 hx).1
      have q := fun r hr => hrow.cell i r hik hr
      simp only [hres i _ hik, res_at hx] at q
      exact ⟨by rw [Nat.zero_add]; exact q 0 (by omega), by rw [Nat.zero_add]; exact q 1 (by omega), by rw [Nat.zero_add]; exact q 2 (by omega), by rw [Nat.zero_add]; exact q 3 (by omega)⟩⟩)
    (fun i a hi => by
      rw [List.getElem?_map] at hi
      obtain ⟨x, hx, rfl⟩ := Option.map_eq_some_iff.1 hi
      have hik : i < K := by rw [← hK]; exact (List.getElem?_eq_some_iff.1 hx).1
      exact (hfr i x hik hx).2.low (by omega))
  rw [hl] at this
  exact this
theorem fr_nil {lo : Nat} {w : World} {o n : Int} {s : ByteArray} {p : Option Addr} {cap : Nat} (hs : s.size ≤ 140737488351232) : Fr lo w (xv o n s (.slice p 0 cap)) (.mk o n s []) :=
  ExS.mk (ks := []) (fun _ => none) (fun _ => 0) hs (by simp) (by simp) (fun h => by simp at h) (fun i a hi => by simp at hi)
set_option maxRecDepth 100000 in
set_option maxHeartbeats 16000000 in
theorem rebuilt_clone (g : Ex → Ex) (ks : List Ex) (pl : Nat → Option Addr) (cl : Nat → Nat) (o n : Int) (s : ByteArray) (p : Option Addr) (cap N : Nat) (w : World) (ha : ArgsAt N w p cap pl cl ks) (hN : N ≤ w.heap.size) (hk : ks.length ≤ 10000) (hs : s.size ≤ 140737488351232)
    (hc : ∀ a ∈ ks, ∀ W v, Below w.heap.size w W → ExAt N W v a → Calls Tryz.prog 49 #[v] W (tFr (g a) W)) :
    Calls Tryz.prog 54 #[xv o n s (.slice p ks.length cap), .func (.func 49) #[] #[]] w (tFr (.mk o n s (ks.map g)) w) := by
  have HA := Lib.hid ha
  have HC := Lib.hid hc
  obtain ⟨K, hK⟩ : ∃ K, ks.length = K := ⟨_, rfl⟩
  have HK := Lib.hid hK
  have hb1 : Below w.heap.size w ((w.alloc (.cells #[.int .i64 o, .int .i64 n, .string s, .slice p K cap] 24)).alloc (.cells #[.int .i64 0, .int .i64 0, .string ⟨#[]⟩, .slice none 0 0] 24)) := ((Below.refl _ _).alloc (Nat.le_refl _) _).alloc (by simp) _
  have CC := sliceClone_any ks pl cl p cap _ N (ha.under (hb1.mono hN)) (by have := hb1.size; omega) hk
  rw [hK] at hk CC ⊢
  have CC := Lib.hid CC
  have HB1 := Lib.hid hb1
  have HF := Lib.hid ((Four.new w (.int .i64 o) (.int .i64 n) (.string s) (.slice p K cap) 24).alloc (.cells #[.int .i64 0, .int .i64 0, .string ⟨#[]⟩, .slice none 0 0] 24))
  have four2 := Four.new (w.alloc (.cells #[.int .i64 o, .int .i64 n, .string s, .slice p K cap] 24)) (.int .i64 0) (.int .i64 0) (.string ⟨#[]⟩) (.slice none 0 0) 24
  rw [World.size_alloc] at four2
  have HF2 := Lib.hid four2
  clear ha hc hK hb1 four2
  go_enter Tryz.func54, Tryz.ntmps54
  go_wp2_with (go_at_call 76; ((with_reducible refine CC.out.mono ?_); rintro e w2 ⟨p', cap', rfl, hcp, hb2, hrow⟩; have f1 := HF.out.stay hb2; have c0 := f1.c0; have c1 := f1.c1; have c2 := f1.c2; have c3 := f1.c3; have fz3 := f1.f3; have HF1 := Lib.hid f1; have HR := Lib.hid hrow; have HB2 := Lib.hid hb2; have HCP := Lib.hid hcp; clear f1 hrow hb2 hcp))
  obtain ⟨W0, hW0⟩ : ∃ W0, w2.setCell ⟨w.heap.size, 3, none⟩ (.slice p' K cap') = W0 := ⟨_, rfl⟩
  have hsz2 := HB2.out.size
  have hbW : Below w.heap.size w W0 := by rw [← hW0]; exact (HB1.out.trans (HB2.out.mono (by simp; omega))).setCell (p := ⟨w.heap.size, 3, none⟩) (Nat.le_refl _) _
  have f4 : Four W0 w.heap.size (.int .i64 o) (.int .i64 n) (.string s) (.slice p' K cap') := by rw [← hW0]; exact HF1.out.set3 _
  have f5 : Four W0 (w.heap.size + 1) (.int .i64 0) (.int .i64 0) (.string ⟨#[]⟩) (.slice none 0 0) := by rw [← hW0]; exact (HF2.out.stay HB2.out).far (by omega)
  obtain ⟨gb, hgb⟩ : ∃ gb, 0 < K → p' = some ⟨gb, 0, none⟩ ∧ w.heap.size + 1 < gb ∧ RowAt W0 gb K (origF pl cl ks) := by
    rcases Nat.eq_zero_or_pos K with h | h
    · exact ⟨0, fun x => by omega⟩
    · obtain ⟨gb, e1, e2, e3⟩ := HR.out h
      simp at e2
      refine ⟨gb, fun _ => ⟨e1, by omega, ?_⟩⟩
      rw [← hW0]
      exact ⟨by rw [setCell_size]; exact e3.lt, fun a r ha hr => by rw [World.cell?_setCell_other _ _ _ _ (fun e => by have := congrArg Addr.block e; simp at this; omega)]; exact e3.cell a r ha hr, fun o => by rw [World.frozen?_setCell]; exact e3.frz o⟩
  have c4 := f4.c3
  have HG := Lib.hid hgb
  have HBW := Lib.hid hbW
  have HF4 := Lib.hid f4
  have HF5 := Lib.hid f5
  rw [hW0]
  clear hW0 hgb hbW f4 f5 c0 c1 c2 c3 fz3
  go_loopw [14] (fun i wr => ∃ j : Nat, j ≤ K ∧ i = .int .i64 j ∧ Hid (Four wr w.heap.size (.int .i64 o) (.int .i64 n) (.string s) (.slice p' K cap')) ∧ Hid (Four wr (w.heap.size + 1) (.int .i64 0) (.int .i64 0) (.string ⟨#[]⟩) (.slice none 0 0)) ∧ Hid (Below w.heap.size w wr) ∧
    Hid (0 < K → Row g ks pl cl gb K j wr)) (fun i _ => K - (intOf i).toNat)
  case atStart => exact ⟨0, Nat.zero_le _, rfl, HF4, HF5, HBW, Lib.hid fun h => ⟨_, pl, cl, (HG.out h).2.2, fun a r ha => by omega, fun a r _ => rfl, fun a x ha => by omega⟩⟩
  case round =>
    obtain ⟨j, hj, rfl, F4, F5, BW, RW⟩ := hrel
    by_cases hlt : j < K
    · obtain ⟨rfl, hgw, _⟩ := HG.out (by omega)
      obtain ⟨F, pl2, cl2, hrow, _, horg, _⟩ := RW.out (by omega)
      obtain ⟨a, hak⟩ : ∃ a, ks[j]? = some a := ⟨_, List.getElem?_eq_getElem (by rw [HK.out]; exact hlt)⟩
      have q0 := hrow.cell j 0 hlt (by omega)
      have q1 := hrow.cell j 1 hlt (by omega)
      have q2 := hrow.cell j 2 hlt (by omega)
      have q3 := hrow.cell j 3 hlt (by omega)
      rw [horg j _ (Nat.le_refl _), orig_at hak] at q0 q1 q2 q3
      have ca0 : wr.cell? ⟨gb, j * 4, none⟩ = some (.int .i64 a.op) := q0
      have ca1 : wr.cell? ⟨gb, j * 4 + 1, none⟩ = some (.int .i64 a.n) := q1
      have ca2 : wr.cell? ⟨gb, j * 4 + 2, none⟩ = some (.string a.nm) := q2
      have ca3 : wr.cell? ⟨gb, j * 4 + 3, none⟩ = some (.slice (pl j) a.args.length (cl j)) := q3
      have hxa := HA.out.hx j a hak
      obtain ⟨ao, hao⟩ : ∃ x, a.op = x := ⟨_, rfl⟩
      obtain ⟨an, han⟩ : ∃ x, a.n = x := ⟨_, rfl⟩
      obtain ⟨am, ham⟩ : ∃ x, a.nm = x := ⟨_, rfl⟩
      obtain ⟨ak, hka⟩ : ∃ x, a.args.length = x := ⟨_, rfl⟩
      obtain ⟨ap, hap⟩ : ∃ x, pl j = x := ⟨_, rfl⟩
      obtain ⟨ac, hac⟩ : ∃ x, cl j = x := ⟨_, rfl⟩
      rw [hao] at ca0 hxa
      rw [han] at ca1 hxa
      rw [ham] at ca2 hxa
      rw [hka, hap, hac] at ca3 hxa
      have HCA : Hid (∀ W, Below w.heap.size w W → Calls Tryz.prog 49 #[xv ao an am (.slice ap ak ac)] W (tFr (g a) W)) := Lib.hid fun W hb => HC.out a (List.mem_of_getElem? hak) W _ hb (hxa.under (hb.mono hN))
      have HROW := Lib.hid hrow
      have HAK := Lib.hid hak
      have c4r := F4.out.c3
      have hgl := hrow.lt
      have hfl := F4.out.lt
      clear q0 q1 q2 q3 hxa hrow horg hak hao han ham hka hap hac c4
      have hbA : Below wr.heap.size wr (wr.alloc (.cells #[.int .i64 ao, .int .i64 an, .string am, .slice ap ak ac] 24)) := (Below.refl _ _).alloc (Nat.le_refl _) _
      have HBA := Lib.hid hbA
      have HBA2 : Hid (Below w.heap.size w (wr.alloc (.cells #[.int .i64 ao, .int .i64 an, .string am, .slice ap ak ac] 24))) := Lib.hid (BW.out.trans (hbA.mono BW.out.size))
      have FA := Four.new wr (.int .i64 ao) (.int .i64 an) (.string am) (.slice ap ak ac) 24
      clear hbA
      go_wp2
      clear ca0 ca1 ca2 ca3
      obtain ⟨wa, hwa⟩ : ∃ wa, wr.alloc (.cells #[.int .i64 ao, .int .i64 an, .string am, .slice ap ak ac] 24) = wa := ⟨_, rfl⟩
      rw [hwa] at HBA HBA2 FA ⊢
      have d0 := FA.c0
      have d1 := FA.c1
      have d2 := FA.c2
      have d3 := FA.c3
      have d4 := (F4.out.stay HBA.out).c3
      clear hwa c4r
      go_region_with (first | (go_at_call 49; refine (HCA.out _ (by first | exact HBA2.out | exact HBA2.out.drew)).mono ?_; rintro e w5 ⟨v5, rfl, hfr5, hb5⟩; obtain ⟨p5, c5, rfl, h5s, h5c⟩ := hfr5.form; have HB5 : Hid (Below wa.heap.size wa w5) := Lib.hid (by first | exact hb5 | exact (Below.refl _ _).drew.trans hb5); have HFR5 := Lib.hid hfr5; have d5 := (HB5.out.cell (p := ⟨w.heap.size, 3, none⟩) (cell_lt d4)).trans d4; have r5 := (HROW.out.stay HBA.out).stay HB5.out; have e0 : w5.cell? ⟨gb, j * 4, none⟩ = some (F j 0) := r5.cell j 0 hlt (by omega); have e1 : w5.cell? ⟨gb, j * 4 + 1, none⟩ = some (F j 1) := r5.cell j 1 hlt (by omega); have e2 : w5.cell? ⟨gb, j * 4 + 2, none⟩ = some (F j 2) := r5.cell j 2 hlt (by omega); have e3 : w5.cell? ⟨gb, j * 4 + 3, none⟩ = some (F j 3) := r5.cell j 3 hlt (by omega); have z0 := r5.frz (j * 4); have z1 := r5.frz (j * 4 + 1); have z2 := r5.frz (j * 4 + 2); have z3 := r5.frz (j * 4 + 3); have HR5 := Lib.hid r5; clear hb5 hfr5 r5))
      all_goals
        go_wp2
        go_roundw
        case rel => exact ⟨j + 1, by omega, by go_num, Lib.hid (((((((F4.out.stay HBA.out).stay HB5.out).far (by omega)).far (by omega)).far (by omega)).far (by omega))), Lib.hid (((((((F5.out.stay HBA.out).stay HB5.out).far (by omega)).far (by omega)).far (by omega)).far (by omega))),
          Lib.hid (below_put4 (HBA2.out.then_ HB5.out) (by omega) j _ _ _ _), Lib.hid fun h0 => row_step (RW.out h0) (HBA.out.then_ HB5.out) hlt HAK.out (HFR5.out.low (by have := HBA.out.size; first | omega | (show gb + 1 ≤ wa.heap.size; omega))) h5c⟩
        case measure => simp [intOf]; omega
    · have hjK : j = K := by omega
      have HJK := Lib.hid hjK
      have r0 := F4.out.c0
      have r1 := F4.out.c1
      have r2 := F4.out.c2
      have r3 := F4.out.c3
      have s0 := F5.out.c0
      have s1 := F5.out.c1
      have s2 := F5.out.c2
      have s3 := F5.out.c3
      have s4 := F5.out.f0
      have s5 := F5.out.f1
      have s6 := F5.out.f2
      have s7 := F5.out.f3
      clear hjK
      go_wp2
      have hp := F5.out.put (.int .i64 o) (.int .i64 n) (.string s) (.slice p' K cap')
      have p0 := hp.c0
      have p1 := hp.c1
      have p2 := hp.c2
      have p3 := hp.c3
      refine bodyPost_ret (v := xv o n s (.slice p' K cap')) (by simp [results, Tryz.results54, go_sem, p0, p1, p2, p3]) rfl ⟨_, rfl, ?_, below_put BW.out (by omega) _ _ _ _⟩
      rcases Nat.eq_zero_or_pos K with h0 | h0
      · have hnil : ks = [] := List.length_eq_zero_iff.1 (by rw [HK.out, h0])
        rw [hnil, h0]
        exact fr_nil hs
      · obtain ⟨e1, e2, _⟩ := HG.out h0
        have hr := RW.out h0
        rw [HJK.out] at hr
        have := row_done (lo := w.heap.size + 2) (o := o) (n := n) (s := s) hr HK.out (by omega) hs hk HCP.out
        rw [e1]
        exact ((((this.set (g := w.heap.size + 1) (by omega)).set (by omega)).set (by omega)).set (by omega)).low (by omega)
set_option maxRecDepth 100000 in
set_option maxHeartbeats 16000000 in
theorem rebuilt_folded (g : Ex → Ex) (ks : List Ex) (pl : Nat → Option Addr) (cl : Nat → Nat) (o n : Int) (s : ByteArray) (p : Option Addr) (cap N : Nat) (w : World) (ha : ArgsAt N w p cap pl cl ks) (hN : N ≤ w.heap.size) (hk : ks.length ≤ 10000) (hs : s.size ≤ 140737488351232)
    (hc : ∀ a ∈ ks, ∀ W v, Below w.heap.size w W → ExAt N W v a → Calls Tryz.prog 50 #[v] W (tFr (g a) W)) :
    Calls Tryz.prog 54 #[xv o n s (.slice p ks.length cap), .func (.func 50) #[] #[]] w (tFr (.mk o n s (ks.map g)) w) := by
  have HA := Lib.hid ha
  have HC := Lib.hid hc
  obtain ⟨K, hK⟩ : ∃ K, ks.length = K := ⟨_, rfl⟩
  have HK := Lib.hid hK
  have hb1 : Below w.heap.size w ((w.alloc (.cells #[.int .i64 o, .int .i64 n, .string s, .slice p K cap] 24)).alloc (.cells #[.int .i64 0, .int .i64 0, .string ⟨#[]⟩, .slice none 0 0] 24)) := ((Below.refl _ _).alloc (Nat.le_refl _) _).alloc (by simp) _
  have CC := sliceClone_any ks pl cl p cap _ N (ha.under (hb1.mono hN)) (by have := hb1.size; omega) hk
  rw [hK] at hk CC ⊢
  have CC := Lib.hid CC
  have HB1 := Lib.hid hb1
  have HF := Lib.hid ((Four.new w (.int .i64 o) (.int .i64 n) (.string s) (.slice p K cap) 24).alloc (.cells #[.int .i64 0, .int .i64 0, .string ⟨#[]⟩, .slice none 0 0] 24))
  have four2 := Four.new (w.alloc (.cells #[.int .i64 o, .int .i64 n, .string s, .slice p K cap] 24)) (.int .i64 0) (.int .i64 0) (.string ⟨#[]⟩) (.slice none 0 0) 24
  rw [World.size_alloc] at four2
  have HF2 := Lib.hid four2
  clear ha hc hK hb1 four2
  go_enter Tryz.func54, Tryz.ntmps54
  go_wp2_with (go_at_call 76; ((with_reducible refine CC.out.mono ?_); rintro e w2 ⟨p', cap', rfl, hcp, hb2, hrow⟩; have f1 := HF.out.stay hb2; have c0 := f1.c0; have c1 := f1.c1; have c2 := f1.c2; have c3 := f1.c3; have fz3 := f1.f3; have HF1 := Lib.hid f1; have HR := Lib.hid hrow; have HB2 := Lib.hid hb2; have HCP := Lib.hid hcp; clear f1 hrow hb2 hcp))
  obtain ⟨W0, hW0⟩ : ∃ W0, w2.setCell ⟨w.heap.size, 3, none⟩ (.slice p' K cap') = W0 := ⟨_, rfl⟩
  have hsz2 := HB2.out.size
  have hbW : Below w.heap.size w W0 := by rw [← hW0]; exact (HB1.out.trans (HB2.out.mono (by simp; omega))).setCell (p := ⟨w.heap.size, 3, none⟩) (Nat.le_refl _) _
  have f4 : Four W0 w.heap.size (.int .i64 o) (.int .i64 n) (.string s) (.slice p' K cap') := by rw [← hW0]; exact HF1.out.set3 _
  have f5 : Four W0 (w.heap.size + 1) (.int .i64 0) (.int .i64 0) (.string ⟨#[]⟩) (.slice none 0 0) := by rw [← hW0]; exact (HF2.out.stay HB2.out).far (by omega)
  obtain ⟨gb, hgb⟩ : ∃ gb, 0 < K → p' = some ⟨gb, 0, none⟩ ∧ w.heap.size + 1 < gb ∧ RowAt W0 gb K (origF pl cl ks) := by
    rcases Nat.eq_zero_or_pos K with h | h
    · exact ⟨0, fun x => by omega⟩
    · obtain ⟨gb, e1, e2, e3⟩ := HR.out h
      simp at e2
      refine ⟨gb, fun _ => ⟨e1, by omega, ?_⟩⟩
      rw [← hW0]
      exact ⟨by rw [setCell_size]; exact e3.lt, fun a r ha hr => by rw [World.cell?_setCell_other _ _ _ _ (fun e => by have := congrArg Addr.block e; simp at this; omega)]; exact e3.cell a r ha hr, fun o => by rw [World.frozen?_setCell]; exact e3.frz o⟩
  have c4 := f4.c3
  have HG := Lib.hid hgb
  have HBW := Lib.hid hbW
  have HF4 := Lib.hid f4
  have HF5 := Lib.hid f5
  rw [hW0]
  clear hW0 hgb hbW f4 f5 c0 c1 c2 c3 fz3
  go_loopw [14] (fun i wr => ∃ j : Nat, j ≤ K ∧ i = .int .i64 j ∧ Hid (Four wr w.heap.size (.int .i64 o) (.int .i64 n) (.string s) (.slice p' K cap')) ∧ Hid (Four wr (w.heap.size + 1) (.int .i64 0) (.int .i64 0) (.string ⟨#[]⟩) (.slice none 0 0)) ∧ Hid (Below w.heap.size w wr) ∧
    Hid (0 < K → Row g ks pl cl gb K j wr)) (fun i _ => K - (intOf i).toNat)
  case atStart => exact ⟨0, Nat.zero_le _, rfl, HF4, HF5, HBW, Lib.hid fun h => ⟨_, pl, cl, (HG.out h).2.2, fun a r ha => by omega, fun a r _ => rfl, fun a x ha => by omega⟩⟩
  case round =>
    obtain ⟨j, hj, rfl, F4, F5, BW, RW⟩ := hrel
    by_cases hlt : j < K
    · obtain ⟨rfl, hgw, _⟩ := HG.out (by omega)
      obtain ⟨F, pl2, cl2, hrow, _, horg, _⟩ := RW.out (by omega)
      obtain ⟨a, hak⟩ : ∃ a, ks[j]? = some a := ⟨_, List.getElem?_eq_getElem (by rw [HK.out]; exact hlt)⟩
      have q0 := hrow.cell j 0 hlt (by omega)
      have q1 := hrow.cell j 1 hlt (by omega)
      have q2 := hrow.cell j 2 hlt (by omega)
      have q3 := hrow.cell j 3 hlt (by omega)
      rw [horg j _ (Nat.le_refl _), orig_at hak] at q0 q1 q2 q3
      have ca0 : wr.cell? ⟨gb, j * 4, none⟩ = some (.int .i64 a.op) := q0
      have ca1 : wr.cell? ⟨gb, j * 4 + 1, none⟩ = some (.int .i64 a.n) := q1
      have ca2 : wr.cell? ⟨gb, j * 4 + 2, none⟩ = some (.string a.nm) := q2
      have ca3 : wr.cell? ⟨gb, j * 4 + 3, none⟩ = some (.slice (pl j) a.args.length (cl j)) := q3
      have hxa := HA.out.hx j a hak
      obtain ⟨ao, hao⟩ : ∃ x, a.op = x := ⟨_, rfl⟩
      obtain ⟨an, han⟩ : ∃ x, a.n = x := ⟨_, rfl⟩
      obtain ⟨am, ham⟩ : ∃ x, a.nm = x := ⟨_, rfl⟩
      obtain ⟨ak, hka⟩ : ∃ x, a.args.length = x := ⟨_, rfl⟩
      obtain ⟨ap, hap⟩ : ∃ x, pl j = x := ⟨_, rfl⟩
      obtain ⟨ac, hac⟩ : ∃ x, cl j = x := ⟨_, rfl⟩
      rw [hao] at ca0 hxa
      rw [han] at ca1 hxa
      rw [ham] at ca2 hxa
      rw [hka, hap, hac] at ca3 hxa
      have HCA : Hid (∀ W, Below w.heap.size w W → Calls Tryz.prog 50 #[xv ao an am (.slice ap ak ac)] W (tFr (g a) W)) := Lib.hid fun W hb => HC.out a (List.mem_of_getElem? hak) W _ hb (hxa.under (hb.mono hN))
      have HROW := Lib.hid hrow
      have HAK := Lib.hid hak
      have c4r := F4.out.c3
      have hgl := hrow.lt
      have hfl := F4.out.lt
      clear q0 q1 q2 q3 hxa hrow horg hak hao han ham hka hap hac c4
      have hbA : Below wr.heap.size wr (wr.alloc (.cells #[.int .i64 ao, .int .i64 an, .string am, .slice ap ak ac] 24)) := (Below.refl _ _).alloc (Nat.le_refl _) _
      have HBA := Lib.hid hbA
      have HBA2 : Hid (Below w.heap.size w (wr.alloc (.cells #[.int .i64 ao, .int .i64 an, .string am, .slice ap ak ac] 24))) := Lib.hid (BW.out.trans (hbA.mono BW.out.size))
      have FA := Four.new wr (.int .i64 ao) (.int .i64 an) (.string am) (.slice ap ak ac) 24
      clear hbA
      go_wp2
      clear ca0 ca1 ca2 ca3
      obtain ⟨wa, hwa⟩ : ∃ wa, wr.alloc (.cells #[.int .i64 ao, .int .i64 an, .string am, .slice ap ak ac] 24) = wa := ⟨_, rfl⟩
      rw [hwa] at HBA HBA2 FA ⊢
      have d0 := FA.c0
      have d1 := FA.c1
      have d2 := FA.c2
      have d3 := FA.c3
      have d4 := (F4.out.stay HBA.out).c3
      clear hwa c4r
      go_region_with (first | (go_at_call 50; refine (HCA.out _ (by first | exact HBA2.out | exact HBA2.out.drew)).mono ?_; rintro e w5 ⟨v5, rfl, hfr5, hb5⟩; obtain ⟨p5, c5, rfl, h5s, h5c⟩ := hfr5.form; have HB5 : Hid (Below wa.heap.size wa w5) := Lib.hid (by first | exact hb5 | exact (Below.refl _ _).drew.trans hb5); have HFR5 := Lib.hid hfr5; have d5 := (HB5.out.cell (p := ⟨w.heap.size, 3, none⟩) (cell_lt d4)).trans d4; have r5 := (HROW.out.stay HBA.out).stay HB5.out; have e0 : w5.cell? ⟨gb, j * 4, none⟩ = some (F j 0) := r5.cell j 0 hlt (by omega); have e1 : w5.cell? ⟨gb, j * 4 + 1, none⟩ = some (F j 1) := r5.cell j 1 hlt (by omega); have e2 : w5.cell? ⟨gb, j * 4 + 2, none⟩ = some (F j 2) := r5.cell j 2 hlt (by omega); have e3 : w5.cell? ⟨gb, j * 4 + 3, none⟩ = some (F j 3) := r5.cell j 3 hlt (by omega); have z0 := r5.frz (j * 4); have z1 := r5.frz (j * 4 + 1); have z2 := r5.frz (j * 4 + 2); have z3 := r5.frz (j * 4 + 3); have HR5 := Lib.hid r5; clear hb5 hfr5 r5))
      all_goals
        go_wp2
        go_roundw
        case rel => exact ⟨j + 1, by omega, by go_num, Lib.hid (((((((F4.out.stay HBA.out).stay HB5.out).far (by omega)).far (by omega)).far (by omega)).far (by omega))), Lib.hid (((((((F5.out.stay HBA.out).stay HB5.out).far (by omega)).far (by omega)).far (by omega)).far (by omega))),
          Lib.hid (below_put4 (HBA2.out.then_ HB5.out) (by omega) j _ _ _ _), Lib.hid fun h0 => row_step (RW.out h0) (HBA.out.then_ HB5.out) hlt HAK.out (HFR5.out.low (by have := HBA.out.size; first | omega | (show gb + 1 ≤ wa.heap.size; omega))) h5c⟩
        case measure => simp [intOf]; omega
    · have hjK : j = K := by omega
      have HJK := Lib.hid hjK
      have r0 := F4.out.c0
      have r1 := F4.out.c1
      have r2 := F4.out.c2
      have r3 := F4.out.c3
      have s0 := F5.out.c0
      have s1 := F5.out.c1
      have s2 := F5.out.c2
      have s3 := F5.out.c3
      have s4 := F5.out.f0
      have s5 := F5.out.f1
      have s6 := F5.out.f2
      have s7 := F5.out.f3
      clear hjK
      go_wp2
      have hp := F5.out.put (.int .i64 o) (.int .i64 n) (.string s) (.slice p' K cap')
      have p0 := hp.c0
      have p1 := hp.c1
      have p2 := hp.c2
      have p3 := hp.c3
      refine bodyPost_ret (v := xv o n s (.slice p' K cap')) (by simp [results, Tryz.results54, go_sem, p0, p1, p2, p3]) rfl ⟨_, rfl, ?_, below_put BW.out (by omega) _ _ _ _⟩
      rcases Nat.eq_zero_or_pos K with h0 | h0
      · have hnil : ks = [] := List.length_eq_zero_iff.1 (by rw [HK.out, h0])
        rw [hnil, h0]
        exact fr_nil hs
      · obtain ⟨e1, e2, _⟩ := HG.out h0
        have hr := RW.out h0
        rw [HJK.out] at hr
        have := row_done (lo := w.heap.size + 2) (o := o) (n := n) (s := s) hr HK.out (by omega) hs hk HCP.out
        rw [e1]
        exact ((((this.set (g := w.heap.size + 1) (by omega)).set (by omega)).set (by omega)).set (by omega)).low (by omega)
set_option maxRecDepth 100000 in
set_option maxHeartbeats 16000000 in
theorem rebuilt_subst (g : Ex → Ex) (ks : List Ex) (pl : Nat → Option Addr) (cl : Nat → Nat) (o n : Int) (s : ByteArray) (p : Option Addr) (cap N : Nat) (w : World) (nb bb rb : Nat) (ha : ArgsAt N w p cap pl cl ks) (hN : N ≤ w.heap.size) (hk : ks.length ≤ 10000) (hs : s.size ≤ 140737488351232)
    (hc : ∀ a ∈ ks, ∀ W v, Below w.heap.size w W → ExAt N W v a → Calls Tryz.prog 53 #[v, .pointer (some ⟨nb, 0, none⟩), .pointer (some ⟨bb, 0, none⟩), .pointer (some ⟨rb, 0, none⟩)] W (tFr (g a) W)) :
    Calls Tryz.prog 54 #[xv o n s (.slice p ks.length cap), .func (.func 53) #[] #[.pointer (some ⟨nb, 0, none⟩), .pointer (some ⟨bb, 0, none⟩), .pointer (some ⟨rb, 0, none⟩)]] w (tFr (.mk o n s (ks.map g)) w) := by
  have HA := Lib.hid ha
  have HC := Lib.hid hc
  obtain ⟨K, hK⟩ : ∃ K, ks.length = K := ⟨_, rfl⟩
  have HK := Lib.hid hK
  have hb1 : Below w.heap.size w ((w.alloc (.cells #[.int .i64 o, .int .i64 n, .string s, .slice p K cap] 24)).alloc (.cells #[.int .i64 0, .int .i64 0, .string ⟨#[]⟩, .slice none 0 0] 24)) := ((Below.refl _ _).alloc (Nat.le_refl _) _).alloc (by simp) _
  have CC := sliceClone_any ks pl cl p cap _ N (ha.under (hb1.mono hN)) (by have := hb1.size; omega) hk
  rw [hK] at hk CC ⊢
  have CC := Lib.hid CC
  have HB1 := Lib.hid hb1
  have HF := Lib.hid ((Four.new w (.int .i64 o) (.int .i64 n) (.string s) (.slice p K cap) 24).alloc (.cells #[.int .i64 0, .int .i64 0, .string ⟨#[]⟩, .slice none 0 0] 24))
  have four2 := Four.new (w.alloc (.cells #[.int .i64 o, .int .i64 n, .string s, .slice p K cap] 24)) (.int .i64 0) (.int .i64 0) (.string ⟨#[]⟩) (.slice none 0 0) 24
  rw [World.size_alloc] at four2
  have HF2 := Lib.hid four2
  clear ha hc hK hb1 four2
  go_enter Tryz.func54, Tryz.ntmps54
  go_wp2_with (go_at_call 76; ((with_reducible refine CC.out.mono ?_); rintro e w2 ⟨p', cap', rfl, hcp, hb2, hrow⟩; have f1 := HF.out.stay hb2; have c0 := f1.c0; have c1 := f1.c1; have c2 := f1.c2; have c3 := f1.c3; have fz3 := f1.f3; have HF1 := Lib.hid f1; have HR := Lib.hid hrow; have HB2 := Lib.hid hb2; have HCP := Lib.hid hcp; clear f1 hrow hb2 hcp))
  obtain ⟨W0, hW0⟩ : ∃ W0, w2.setCell ⟨w.heap.size, 3, none⟩ (.slice p' K cap') = W0 := ⟨_, rfl⟩
  have hsz2 := HB2.out.size
  have hbW : Below w.heap.size w W0 := by rw [← hW0]; exact (HB1.out.trans (HB2.out.mono (by simp; omega))).setCell (p := ⟨w.heap.size, 3, none⟩) (Nat.le_refl _) _
  have f4 : Four W0 w.heap.size (.int .i64 o) (.int .i64 n) (.string s) (.slice p' K cap') := by rw [← hW0]; exact HF1.out.set3 _
  have f5 : Four W0 (w.heap.size + 1) (.int .i64 0) (.int .i64 0) (.string ⟨#[]⟩) (.slice none 0 0) := by rw [← hW0]; exact (HF2.out.stay HB2.out).far (by omega)
  obtain ⟨gb, hgb⟩ : ∃ gb, 0 < K → p' = some ⟨gb, 0, none⟩ ∧ w.heap.size + 1 < gb ∧ RowAt W0 gb K (origF pl cl ks) := by
    rcases Nat.eq_zero_or_pos K with h | h
    · exact ⟨0, fun x => by omega⟩
    · obtain ⟨gb, e1, e2, e3⟩ := HR.out h
      simp at e2
      refine ⟨gb, fun _ => ⟨e1, by omega, ?_⟩⟩
      rw [← hW0]
      exact ⟨by rw [setCell_size]; exact e3.lt, fun a r ha hr => by rw [World.cell?_setCell_other _ _ _ _ (fun e => by have := congrArg Addr.block e; simp at this; omega)]; exact e3.cell a r ha hr, fun o => by rw [World.frozen?_setCell]; exact e3.frz o⟩
  have c4 := f4.c3
  have HG := Lib.hid hgb
  have HBW := Lib.hid hbW
  have HF4 := Lib.hid f4
  have HF5 := Lib.hid f5
  rw [hW0]
  clear hW0 hgb hbW f4 f5 c0 c1 c2 c3 fz3
  go_loopw [14] (fun i wr => ∃ j : Nat, j ≤ K ∧ i = .int .i64 j ∧ Hid (Four wr w.heap.size (.int .i64 o) (.int .i64 n) (.string s) (.slice p' K cap')) ∧ Hid (Four wr (w.heap.size + 1) (.int .i64 0) (.int .i64 0) (.string ⟨#[]⟩) (.slice none 0 0)) ∧ Hid (Below w.heap.size w wr) ∧
    Hid (0 < K → Row g ks pl cl gb K j wr)) (fun i _ => K - (intOf i).toNat)
  case atStart => exact ⟨0, Nat.zero_le _, rfl, HF4, HF5, HBW, Lib.hid fun h => ⟨_, pl, cl, (HG.out h).2.2, fun a r ha => by omega, fun a r _ => rfl, fun a x ha => by omega⟩⟩
  case round =>
    obtain ⟨j, hj, rfl, F4, F5, BW, RW⟩ := hrel
    by_cases hlt : j < K
    · obtain ⟨rfl, hgw, _⟩ := HG.out (by omega)
      obtain ⟨F, pl2, cl2, hrow, _, horg, _⟩ := RW.out (by omega)
      obtain ⟨a, hak⟩ : ∃ a, ks[j]? = some a := ⟨_, List.getElem?_eq_getElem (by rw [HK.out]; exact hlt)⟩
      have q0 := hrow.cell j 0 hlt (by omega)
      have q1 := hrow.cell j 1 hlt (by omega)
      have q2 := hrow.cell j 2 hlt (by omega)
      have q3 := hrow.cell j 3 hlt (by omega)
      rw [horg j _ (Nat.le_refl _), orig_at hak] at q0 q1 q2 q3
      have ca0 : wr.cell? ⟨gb, j * 4, none⟩ = some (.int .i64 a.op) := q0
      have ca1 : wr.cell? ⟨gb, j * 4 + 1, none⟩ = some (.int .i64 a.n) := q1
      have ca2 : wr.cell? ⟨gb, j * 4 + 2, none⟩ = some (.string a.nm) := q2
      have ca3 : wr.cell? ⟨gb, j * 4 + 3, none⟩ = some (.slice (pl j) a.args.length (cl j)) := q3
      have hxa := HA.out.hx j a hak
      obtain ⟨ao, hao⟩ : ∃ x, a.op = x := ⟨_, rfl⟩
      obtain ⟨an, han⟩ : ∃ x, a.n = x := ⟨_, rfl⟩
      obtain ⟨am, ham⟩ : ∃ x, a.nm = x := ⟨_, rfl⟩
      obtain ⟨ak, hka⟩ : ∃ x, a.args.length = x := ⟨_, rfl⟩
      obtain ⟨ap, hap⟩ : ∃ x, pl j = x := ⟨_, rfl⟩
      obtain ⟨ac, hac⟩ : ∃ x, cl j = x := ⟨_, rfl⟩
      rw [hao] at ca0 hxa
      rw [han] at ca1 hxa
      rw [ham] at ca2 hxa
      rw [hka, hap, hac] at ca3 hxa
      have HCA : Hid (∀ W, Below w.heap.size w W → Calls Tryz.prog 53 #[xv ao an am (.slice ap ak ac), .pointer (some ⟨nb, 0, none⟩), .pointer (some ⟨bb, 0, none⟩), .pointer (some ⟨rb, 0, none⟩)] W (tFr (g a) W)) := Lib.hid fun W hb => HC.out a (List.mem_of_getElem? hak) W _ hb (hxa.under (hb.mono hN))
      have HROW := Lib.hid hrow
      have HAK := Lib.hid hak
      have c4r := F4.out.c3
      have hgl := hrow.lt
      have hfl := F4.out.lt
      clear q0 q1 q2 q3 hxa hrow horg hak hao han ham hka hap hac c4
      have hbA : Below wr.heap.size wr (wr.alloc (.cells #[.int .i64 ao, .int .i64 an, .string am, .slice ap ak ac] 24)) := (Below.refl _ _).alloc (Nat.le_refl _) _
      have HBA := Lib.hid hbA
      have HBA2 : Hid (Below w.heap.size w (wr.alloc (.cells #[.int .i64 ao, .int .i64 an, .string am, .slice ap ak ac] 24))) := Lib.hid (BW.out.trans (hbA.mono BW.out.size))
      have FA := Four.new wr (.int .i64 ao) (.int .i64 an) (.string am) (.slice ap ak ac) 24
      clear hbA
      go_wp2
      clear ca0 ca1 ca2 ca3
      obtain ⟨wa, hwa⟩ : ∃ wa, wr.alloc (.cells #[.int .i64 ao, .int .i64 an, .string am, .slice ap ak ac] 24) = wa := ⟨_, rfl⟩
      rw [hwa] at HBA HBA2 FA ⊢
      have d0 := FA.c0
      have d1 := FA.c1
      have d2 := FA.c2
      have d3 := FA.c3
      have d4 := (F4.out.stay HBA.out).c3
      clear hwa c4r
      go_region_with (first | (go_at_call 53; refine (HCA.out _ (by first | exact HBA2.out | exact HBA2.out.drew)).mono ?_; rintro e w5 ⟨v5, rfl, hfr5, hb5⟩; obtain ⟨p5, c5, rfl, h5s, h5c⟩ := hfr5.form; have HB5 : Hid (Below wa.heap.size wa w5) := Lib.hid (by first | exact hb5 | exact (Below.refl _ _).drew.trans hb5); have HFR5 := Lib.hid hfr5; have d5 := (HB5.out.cell (p := ⟨w.heap.size, 3, none⟩) (cell_lt d4)).trans d4; have r5 := (HROW.out.stay HBA.out).stay HB5.out; have e0 : w5.cell? ⟨gb, j * 4, none⟩ = some (F j 0) := r5.cell j 0 hlt (by omega); have e1 : w5.cell? ⟨gb, j * 4 + 1, none⟩ = some (F j 1) := r5.cell j 1 hlt (by omega); have e2 : w5.cell? ⟨gb, j * 4 + 2, none⟩ = some (F j 2) := r5.cell j 2 hlt (by omega); have e3 : w5.cell? ⟨gb, j * 4 + 3, none⟩ = some (F j 3) := r5.cell j 3 hlt (by omega); have z0 := r5.frz (j * 4); have z1 := r5.frz (j * 4 + 1); have z2 := r5.frz (j * 4 + 2); have z3 := r5.frz (j * 4 + 3); have HR5 := Lib.hid r5; clear hb5 hfr5 r5))
      all_goals
        go_wp2
        go_roundw
        case rel => exact ⟨j + 1, by omega, by go_num, Lib.hid (((((((F4.out.stay HBA.out).stay HB5.out).far (by omega)).far (by omega)).far (by omega)).far (by omega))), Lib.hid (((((((F5.out.stay HBA.out).stay HB5.out).far (by omega)).far (by omega)).far (by omega)).far (by omega))),
          Lib.hid (below_put4 (HBA2.out.then_ HB5.out) (by omega) j _ _ _ _), Lib.hid fun h0 => row_step (RW.out h0) (HBA.out.then_ HB5.out) hlt HAK.out (HFR5.out.low (by have := HBA.out.size; first | omega | (show gb + 1 ≤ wa.heap.size; omega))) h5c⟩
        case measure => simp [intOf]; omega
    · have hjK : j = K := by omega
      have HJK := Lib.hid hjK
      have r0 := F4.out.c0
      have r1 := F4.out.c1
      have r2 := F4.out.c2
      have r3 := F4.out.c3
      have s0 := F5.out.c0
      have s1 := F5.out.c1
      have s2 := F5.out.c2
      have s3 := F5.out.c3
      have s4 := F5.out.f0
      have s5 := F5.out.f1
      have s6 := F5.out.f2
      have s7 := F5.out.f3
      clear hjK
      go_wp2
      have hp := F5.out.put (.int .i64 o) (.int .i64 n) (.string s) (.slice p' K cap')
      have p0 := hp.c0
      have p1 := hp.c1
      have p2 := hp.c2
      have p3 := hp.c3
      refine bodyPost_ret (v := xv o n s (.slice p' K cap')) (by simp [results, Tryz.results54, go_sem, p0, p1, p2, p3]) rfl ⟨_, rfl, ?_, below_put BW.out (by omega) _ _ _ _⟩
      rcases Nat.eq_zero_or_pos K with h0 | h0
      · have hnil : ks = [] := List.length_eq_zero_iff.1 (by rw [HK.out, h0])
        rw [hnil, h0]
        exact fr_nil hs
      · obtain ⟨e1, e2, _⟩ := HG.out h0
        have hr := RW.out h0
        rw [HJK.out] at hr
        have := row_done (lo := w.heap.size + 2) (o := o) (n := n) (s := s) hr HK.out (by omega) hs hk HCP.out
        rw [e1]
        exact ((((this.set (g := w.heap.size + 1) (by omega)).set (by omega)).set (by omega)).set (by omega)).low (by omega)
end Go.Proofs.YtdiackcefojfkaaGreatDoor.ExW
