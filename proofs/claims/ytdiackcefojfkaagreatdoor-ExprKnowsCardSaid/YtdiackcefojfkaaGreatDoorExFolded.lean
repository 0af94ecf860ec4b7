/-
  What folded, Fold and Subst return.
-/
import Derived.Test.YtdiackcefojfkaaGreatDoorExClone
namespace Go.Proofs.YtdiackcefojfkaaGreatDoor.ExW
open Go Go.RowKit Go.Proofs.YtdiackcefojfkaaGreatDoor.NumM Go.Proofs.YtdiackcefojfkaaGreatDoor.LexW Go.Proofs.YtdiackcefojfkaaGreatDoor.LexM Go.Proofs.YtdiackcefojfkaaGreatDoor.ExM

theorem kids33 {o n : Int} {s : ByteArray} {ks : List Ex} (h : Ok (.mk o n s ks)) : ks.length ≤ 33 := by
  have hok := (ok_mk _ _ _ _).1 h
  have ht := flt_takes hok.1
  have ho := takes_op ht
  unfold takesS at ht
  split at ht
  · simp at ht; omega
  · rw [decide_eq_true_eq] at ht
    have : arS o ≤ 3 := by unfold arS; repeat' split <;> omega
    omega
theorem slice_inj {a b c : Value} {p p' : Option Addr} {k k' q q' : Nat} (h : (Value.agg #[a, b, c, .slice p k q]) = .agg #[a, b, c, .slice p' k' q']) : p = p' ∧ q = q' := by
  simp at h
  exact ⟨h.1, h.2.2⟩
theorem fr_form {S : Nat → Prop} {w : World} {v : Value} {o n : Int} {s : ByteArray} {ks : List Ex} (h : ExS S w v (.mk o n s ks)) : ∃ p cap, v = xv o n s (.slice p ks.length cap) ∧ s.size ≤ 140737488351232 ∧ ks.length ≤ cap := h.form
theorem at_form {N : Nat} {w : World} {v : Value} {o n : Int} {s : ByteArray} {ks : List Ex} (h : ExAt N w v (.mk o n s ks)) : ∃ p cap pl cl, v = xv o n s (.slice p ks.length cap) ∧ s.size ≤ 140737488351232 ∧ ArgsAt N w p cap pl cl ks := h.form
/-- What folded returns, its operands already folded. -/
def tNode (o n : Int) (s : ByteArray) (ks : List Ex) (w : World) (e : Ending) (w' : World) : Prop := tFr (foldN o n s ks) w e w'
theorem tNode_no {o n : Int} {s : ByteArray} {ks : List Ex} {w w' : World} {v : Value} (h : (!asksB o && ks.all isC) = false) (hf : Fr w.heap.size w' v (.mk o n s ks)) (hb : Below w.heap.size w w') : tNode o n s ks w (.returned v) w' := by
  refine ⟨v, rfl, ?_, hb⟩
  unfold foldN
  rw [if_neg (by rw [h]; simp)]
  exact hf
theorem tNode_yes {o n : Int} {s : ByteArray} {ks : List Ex} {w w' : World} (h : (!asksB o && ks.all isC) = true) (hb : Below w.heap.size w w') : tNode o n s ks w (.returned (xv 1 (opS o (ks.map Ex.n)) ⟨#[]⟩ (.slice none 0 0))) w' := by
  refine ⟨_, rfl, ?_, hb⟩
  unfold foldN
  rw [if_pos h]
  exact fr_nil (by simp [ByteArray.size])
set_option maxRecDepth 100000 in
set_option maxHeartbeats 16000000 in
theorem folded_any (e : Ex) : ∀ (N : Nat) (w : World) (v : Value), ExAt N w v e → N ≤ w.heap.size → sz e ≤ 10000 → Ok e → Tab w → Calls Tryz.prog 50 #[v] w (tFr (fo e) w) := by
  induction e using Ex.ind with
  | h o n s ks ih =>
    intro N w v hx hN hsz hok ht
    obtain ⟨p, cap, pl, cl, rfl, hs, ha⟩ := hx.form
    simp only [Ex.op, Ex.n, Ex.nm, Ex.args] at hs ha ⊢
    have hok' := (ok_mk _ _ _ _).1 hok
    have hE' : Ok (.mk o n s (ks.map fo)) := by
      rw [ok_mk]
      refine ⟨by rw [List.length_map]; exact hok'.1, fun a ha => ?_⟩
      obtain ⟨b, hb, rfl⟩ := List.mem_map.1 ha
      exact fo_ok b (hok'.2 b hb)
    have hkl : (ks.map fo).length ≤ 33 := kids33 hE'
    have hse : sz (.mk o n s (ks.map fo)) ≤ 10000 := by
      rw [sz_mk] at hsz ⊢
      have := szs_map (ks := ks) (f := fo) (fun a _ => (fo_size a).1)
      omega
    rw [sz_mk] at hsz
    have hl := len_szs ks
    rw [fo_mk]
    have hb1 : Below w.heap.size w ((w.alloc (.cells #[.int .i64 o, .int .i64 n, .string s, .slice p ks.length cap] 24)).alloc (.cells #[.int .i64 0, .int .i64 0, .string ⟨#[]⟩, .slice none 0 0] 24)) := ((Below.refl _ _).alloc (Nat.le_refl _) _).alloc (by simp) _
    have RC := Lib.hid (rebuilt_folded fo ks pl cl o n s p cap N _ (ha.under (hb1.mono hN)) (by have := hb1.size; omega) (by omega) hs (fun a ha' W v hW hx' => ih a ha' N W v hx' (by have := hW.size; have := hb1.size; omega) (by have := sz_mem ha'; omega) (hok'.2 a ha') ((ht.later hb1).later hW)))
    have HT := Lib.hid (ht.later hb1)
    have HT0 := Lib.hid ht
    have HB1 := Lib.hid hb1
    have four1 := (Four.new w (.int .i64 o) (.int .i64 n) (.string s) (.slice p ks.length cap) 24).alloc (.cells #[.int .i64 0, .int .i64 0, .string ⟨#[]⟩, .slice none 0 0] 24)
    have four2 := Four.new (w.alloc (.cells #[.int .i64 o, .int .i64 n, .string s, .slice p ks.length cap] 24)) (.int .i64 0) (.int .i64 0) (.string ⟨#[]⟩) (.slice none 0 0) 24
    rw [World.size_alloc] at four2
    have d0 := four1.c0
    have d1 := four1.c1
    have d2 := four1.c2
    have d3 := four1.c3
    have HF1 := Lib.hid four1
    have HF2 := Lib.hid four2
    have HOK := Lib.hid hE'
    have HSE := Lib.hid hse
    change Calls _ _ _ _ (tNode o n s (ks.map fo) w)
    clear ha hx ih hb1 four1 four2 ht hok hok' hs hE' hsz hl hse
    generalize ks.length = K at *
    generalize ks.map fo = fs at *
    have ISC : Hid (∀ W, Calls Tryz.prog 73 #[.int .i64 o] W fun e w' => e = .returned (.bool (!asksB o)) ∧ W = w') := Lib.hid fun W => isComp_any o W
    have CTN : Hid (∀ (W : World) p2 c2 pl2 cl2, ArgsAt W.heap.size W p2 c2 pl2 cl2 fs → Calls Tryz.prog 74 #[.slice p2 fs.length c2, .func (.func 75) #[] #[]] W fun e w' => e = .returned (.bool (!fs.all isC)) ∧ Below W.heap.size W w') := Lib.hid fun W p2 c2 pl2 cl2 h => contains_any fs pl2 cl2 p2 c2 _ W h (Nat.le_refl _) (by omega)
    have EVC : Hid (asksB o = false → fs.all isC = true → ∀ (W : World) v, ExAt W.heap.size W v (.mk o n s fs) → Tab W → Calls Tryz.prog 27 #[v, .slice none 0 0] W (tEv (opS o (fs.map Ex.n), 0) W)) := Lib.hid fun ha hc W v hv ht => by
      have := eval_any [] (.slice none 0 0) v (.mk o n s fs) W hv (SigsAt.nil W) HSE.out ht
      rw [eval_node HOK.out hc ha (by omega)] at this
      exact this
    have FL : Hid (fs.length ≤ 33) := Lib.hid hkl
    have hws := HB1.out.size
    simp only [World.size_alloc] at hws
    clear hkl HSE
    have fin : Hid (∀ (W : World) v, Fr (w.heap.size + 2) W v (.mk o n s fs) → ∀ x0 x1 x2 x3, Fr w.heap.size ((((W.setCell ⟨w.heap.size + 1, 0, none⟩ x0).setCell ⟨w.heap.size + 1, 1, none⟩ x1).setCell ⟨w.heap.size + 1, 2, none⟩ x2).setCell ⟨w.heap.size + 1, 3, none⟩ x3) v (.mk o n s fs)) :=
      Lib.hid fun W v h x0 x1 x2 x3 => ((((h.set (g := w.heap.size + 1) (by omega)).set (by omega)).set (by omega)).set (by omega)).low (by omega)
    have SET : Hid (∀ (W : World) v, Fr (w.heap.size + 2) W v (.mk o n s fs) → ∀ x0 x1 x2 x3, Fr (w.heap.size + 2) ((((W.setCell ⟨w.heap.size, 0, none⟩ x0).setCell ⟨w.heap.size, 1, none⟩ x1).setCell ⟨w.heap.size, 2, none⟩ x2).setCell ⟨w.heap.size, 3, none⟩ x3) v (.mk o n s fs)) :=
      Lib.hid fun W v h x0 x1 x2 x3 => ((((h.set (g := w.heap.size) (by omega)).set (by omega)).set (by omega)).set (by omega))
    generalize hA : asksB o = q at *
    have HAS := Lib.hid hA
    clear hA
    cases q
    · have EV1 := Lib.hid (EVC.out rfl)
      generalize hC : fs.all isC = r at *
      have HAC := Lib.hid hC
      clear hC EVC
      cases r
      · clear EV1
        go_enter Tryz.func50, Tryz.ntmps50
        go_wp2_with (first
          | (go_at_call 54; ((with_reducible refine RC.out.mono ?_); rintro e w2 ⟨v2, rfl, hfr, hb2⟩; obtain ⟨p2, c2, rfl, hs2, hc2⟩ := fr_form hfr; have f4 := HF1.out.stay hb2; have s0 := f4.c0; have s1 := f4.c1; have s2 := f4.c2; have s3 := f4.c3; have s4 := f4.f0; have s5 := f4.f1; have s6 := f4.f2; have s7 := f4.f3; have HF4 := Lib.hid f4; have HF5 := Lib.hid (HF2.out.stay hb2); have HFR := Lib.hid hfr; have HB2 := Lib.hid (HB1.out.then_ hb2); clear hfr hb2 f4 d0 d1 d2 d3))
          | (go_at_call 73; ((with_reducible refine (ISC.out _).mono ?_); rintro e w3 ⟨rfl, hw⟩; have F6 := HF4.out.put (.int .i64 o) (.int .i64 n) (.string s) (.slice p2 fs.length c2); have F7 := (((HF5.out.far (b := w.heap.size) (o := 0) (v := .int .i64 o) (by omega)).far (b := w.heap.size) (o := 1) (v := .int .i64 n) (by omega)).far (b := w.heap.size) (o := 2) (v := .string s) (by omega)).far (b := w.heap.size) (o := 3) (v := .slice p2 fs.length c2) (by omega); have hb3 := below_put HB2.out (Nat.le_refl _) (.int .i64 o) (.int .i64 n) (.string s) (.slice p2 fs.length c2); have hf3 := SET.out w2 _ (by have := HFR.out; simp only [World.size_alloc] at this; exact this) (.int .i64 o) (.int .i64 n) (.string s) (.slice p2 fs.length c2); rw [hw] at F6 F7 hb3 hf3; clear hw s0 s1 s2 s3 s4 s5 s6 s7; have s0 := F6.c0; have s1 := F6.c1; have s2 := F6.c2; have s3 := F6.c3; have u4 := F7.f0; have u5 := F7.f1; have u6 := F7.f2; have u7 := F7.f3; have u0 := F7.c0; have u1 := F7.c1; have u2 := F7.c2; have u3 := F7.c3; have HF6 := Lib.hid F6; have HF7 := Lib.hid F7; have HB3 := Lib.hid hb3; have HF3 := Lib.hid hf3; clear F6 F7 hb3 hf3))
          | (go_at_call 74; (obtain ⟨pX, cX, plX, clX, eX, _, hAX⟩ := at_form HF3.out.at_; obtain ⟨rfl, rfl⟩ := slice_inj eX; (with_reducible refine (CTN.out _ _ _ _ _ hAX).mono ?_); rintro e w4 ⟨rfl, hb4⟩; have F8 := HF6.out.stay hb4; have F9 := HF7.out.stay hb4; clear s0 s1 s2 s3 u0 u1 u2 u3 u4 u5 u6 u7 hAX eX; have s0 := F8.c0; have s1 := F8.c1; have s2 := F8.c2; have s3 := F8.c3; have u4 := F9.f0; have u5 := F9.f1; have u6 := F9.f2; have u7 := F9.f3; have u0 := F9.c0; have u1 := F9.c1; have u2 := F9.c2; have u3 := F9.c3; have HF9 := Lib.hid F9; have HFR4 := Lib.hid (HF3.out.later hb4); have HB4 := Lib.hid (HB3.out.then_ hb4); clear F8 F9 hb4)))
        have hp := HF9.out.put (.int .i64 o) (.int .i64 n) (.string s) (.slice p2 fs.length c2)
        have p0 := hp.c0
        have p1 := hp.c1
        have p2' := hp.c2
        have p3 := hp.c3
        refine bodyPost_ret (v := xv o n s (.slice p2 fs.length c2)) (by simp [results, Tryz.results50, go_sem, p0, p1, p2', p3]) rfl ?_
        exact tNode_no (by rw [HAS.out, HAC.out]; rfl) (fin.out _ _ HFR4.out _ _ _ _) (below_put HB4.out (by omega) _ _ _ _)

      · go_enter Tryz.func50, Tryz.ntmps50
        go_wp2_with (first
          | (go_at_call 54; ((with_reducible refine RC.out.mono ?_); rintro e w2 ⟨v2, rfl, hfr, hb2⟩; obtain ⟨p2, c2, rfl, hs2, hc2⟩ := fr_form hfr; have f4 := HF1.out.stay hb2; have s0 := f4.c0; have s1 := f4.c1; have s2 := f4.c2; have s3 := f4.c3; have s4 := f4.f0; have s5 := f4.f1; have s6 := f4.f2; have s7 := f4.f3; have HF4 := Lib.hid f4; have HF5 := Lib.hid (HF2.out.stay hb2); have HFR := Lib.hid hfr; have HB2 := Lib.hid (HB1.out.then_ hb2); clear hfr hb2 f4 d0 d1 d2 d3))
          | (go_at_call 73; ((with_reducible refine (ISC.out _).mono ?_); rintro e w3 ⟨rfl, hw⟩; have F6 := HF4.out.put (.int .i64 o) (.int .i64 n) (.string s) (.slice p2 fs.length c2); have F7 := (((HF5.out.far (b := w.heap.size) (o := 0) (v := .int .i64 o) (by omega)).far (b := w.heap.size) (o := 1) (v := .int .i64 n) (by omega)).far (b := w.heap.size) (o := 2) (v := .string s) (by omega)).far (b := w.heap.size) (o := 3) (v := .slice p2 fs.length c2) (by omega); have hb3 := below_put HB2.out (Nat.le_refl _) (.int .i64 o) (.int .i64 n) (.string s) (.slice p2 fs.length c2); have hf3 := SET.out w2 _ (by have := HFR.out; simp only [World.size_alloc] at this; exact this) (.int .i64 o) (.int .i64 n) (.string s) (.slice p2 fs.length c2); rw [hw] at F6 F7 hb3 hf3; clear hw s0 s1 s2 s3 s4 s5 s6 s7; have s0 := F6.c0; have s1 := F6.c1; have s2 := F6.c2; have s3 := F6.c3; have u4 := F7.f0; have u5 := F7.f1; have u6 := F7.f2; have u7 := F7.f3; have u0 := F7.c0; have u1 := F7.c1; have u2 := F7.c2; have u3 := F7.c3; have HF6 := Lib.hid F6; have HF7 := Lib.hid F7; have HB3 := Lib.hid hb3; have HF3 := Lib.hid hf3; clear F6 F7 hb3 hf3))
          | (go_at_call 74; (obtain ⟨pX, cX, plX, clX, eX, _, hAX⟩ := at_form HF3.out.at_; obtain ⟨rfl, rfl⟩ := slice_inj eX; (with_reducible refine (CTN.out _ _ _ _ _ hAX).mono ?_); rintro e w4 ⟨rfl, hb4⟩; have F8 := HF6.out.stay hb4; have F9 := HF7.out.stay hb4; clear s0 s1 s2 s3 u0 u1 u2 u3 u4 u5 u6 u7 hAX eX; have s0 := F8.c0; have s1 := F8.c1; have s2 := F8.c2; have s3 := F8.c3; have u4 := F9.f0; have u5 := F9.f1; have u6 := F9.f2; have u7 := F9.f3; have u0 := F9.c0; have u1 := F9.c1; have u2 := F9.c2; have u3 := F9.c3; have HF9 := Lib.hid F9; have HFR4 := Lib.hid (HF3.out.later hb4); have HB4 := Lib.hid (HB3.out.then_ hb4); clear F8 F9 hb4))
          | (go_at_call 27; ((with_reducible refine (EV1.out trivial _ _ HFR4.out.at_ (HT0.out.later HB4.out)).mono ?_); rintro e w5 ⟨rfl, hb5⟩; have F9 := HF9.out.stay hb5; clear s0 s1 s2 s3 u0 u1 u2 u3 u4 u5 u6 u7; have u4 := F9.f0; have u5 := F9.f1; have u6 := F9.f2; have u7 := F9.f3; have u0 := F9.c0; have u1 := F9.c1; have u2 := F9.c2; have u3 := F9.c3; have HF10 := Lib.hid F9; have HB5 := Lib.hid (HB4.out.then_ hb5); clear F9 hb5)))
        have hp := HF10.out.put (.int .i64 1) (.int .i64 (opS o (fs.map Ex.n))) (.string ⟨#[]⟩) (.slice none 0 0)
        have p0 := hp.c0
        have p1 := hp.c1
        have p2' := hp.c2
        have p3 := hp.c3
        refine bodyPost_ret (v := xv 1 (opS o (fs.map Ex.n)) ⟨#[]⟩ (.slice none 0 0)) (by simp [results, Tryz.results50, go_sem, p0, p1, p2', p3]) rfl ?_
        exact tNode_yes (by rw [HAS.out, HAC.out]; rfl) (below_put HB5.out (by omega) _ _ _ _)
    · clear EVC CTN
      go_enter Tryz.func50, Tryz.ntmps50
      go_wp2_with (first
        | (go_at_call 54; ((with_reducible refine RC.out.mono ?_); rintro e w2 ⟨v2, rfl, hfr, hb2⟩; obtain ⟨p2, c2, rfl, hs2, hc2⟩ := fr_form hfr; have f4 := HF1.out.stay hb2; have s0 := f4.c0; have s1 := f4.c1; have s2 := f4.c2; have s3 := f4.c3; have s4 := f4.f0; have s5 := f4.f1; have s6 := f4.f2; have s7 := f4.f3; have HF4 := Lib.hid f4; have HF5 := Lib.hid (HF2.out.stay hb2); have HFR := Lib.hid hfr; have HB2 := Lib.hid (HB1.out.then_ hb2); clear hfr hb2 f4 d0 d1 d2 d3))
        | (go_at_call 73; ((with_reducible refine (ISC.out _).mono ?_); rintro e w3 ⟨rfl, hw⟩; have F6 := HF4.out.put (.int .i64 o) (.int .i64 n) (.string s) (.slice p2 fs.length c2); have F7 := (((HF5.out.far (b := w.heap.size) (o := 0) (v := .int .i64 o) (by omega)).far (b := w.heap.size) (o := 1) (v := .int .i64 n) (by omega)).far (b := w.heap.size) (o := 2) (v := .string s) (by omega)).far (b := w.heap.size) (o := 3) (v := .slice p2 fs.length c2) (by omega); have hb3 := below_put HB2.out (Nat.le_refl _) (.int .i64 o) (.int .i64 n) (.string s) (.slice p2 fs.length c2); have hf3 := SET.out w2 _ (by have := HFR.out; simp only [World.size_alloc] at this; exact this) (.int .i64 o) (.int .i64 n) (.string s) (.slice p2 fs.length c2); rw [hw] at F6 F7 hb3 hf3; clear hw s0 s1 s2 s3 s4 s5 s6 s7; have s0 := F6.c0; have s1 := F6.c1; have s2 := F6.c2; have s3 := F6.c3; have u4 := F7.f0; have u5 := F7.f1; have u6 := F7.f2; have u7 := F7.f3; have u0 := F7.c0; have u1 := F7.c1; have u2 := F7.c2; have u3 := F7.c3; have HF6 := Lib.hid F6; have HF7 := Lib.hid F7; have HB3 := Lib.hid hb3; have HF3 := Lib.hid hf3; clear F6 F7 hb3 hf3)))
      have hp := HF7.out.put (.int .i64 o) (.int .i64 n) (.string s) (.slice p2 fs.length c2)
      have p0 := hp.c0
      have p1 := hp.c1
      have p2' := hp.c2
      have p3 := hp.c3
      refine bodyPost_ret (v := xv o n s (.slice p2 fs.length c2)) (by simp [results, Tryz.results50, go_sem, p0, p1, p2', p3]) rfl ?_
      exact tNode_no (by rw [HAS.out]; rfl) (fin.out _ _ HF3.out _ _ _ _) (below_put HB3.out (by omega) _ _ _ _)

end Go.Proofs.YtdiackcefojfkaaGreatDoor.ExW
