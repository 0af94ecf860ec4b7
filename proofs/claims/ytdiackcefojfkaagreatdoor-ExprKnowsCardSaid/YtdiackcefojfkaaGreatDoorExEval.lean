/-
  What the code's Eval returns.
-/
import Derived.Test.YtdiackcefojfkaaGreatDoorExValue
import Derived.Test.YtdiackcefojfkaaGreatDoorExValid
import Derived.Laws.EntriesVeiled
namespace Go.Proofs.YtdiackcefojfkaaGreatDoor.ExW
open Go Go.RowKit Go.Proofs.YtdiackcefojfkaaGreatDoor.NumM Go.Proofs.YtdiackcefojfkaaGreatDoor.LexW Go.Proofs.YtdiackcefojfkaaGreatDoor.LexM Go.Proofs.YtdiackcefojfkaaGreatDoor.ExM

/-- Block b has turned, and new ones may have been laid. -/
structure Upd (b : Nat) (w w' : World) : Prop where
  os : w'.os = w.os
  tape : w'.tape = w.tape
  output : w'.output = w.output
  size : w.heap.size ≤ w'.heap.size
  block : ∀ j, j < w.heap.size → j ≠ b → w'.heap[j]? = w.heap[j]?
theorem Upd.of {b : Nat} {w w' : World} (h : Below w.heap.size w w') : Upd b w w' := ⟨h.os, h.tape, h.output, h.size, fun j hj _ => h.block j hj⟩
theorem Upd.refl (b : Nat) (w : World) : Upd b w w := Upd.of (Below.refl _ _)
theorem Upd.trans {b : Nat} {w w' w'' : World} (h : Upd b w w') (k : Upd b w' w'') : Upd b w w'' :=
  ⟨k.os.trans h.os, k.tape.trans h.tape, k.output.trans h.output, Nat.le_trans h.size k.size, fun j hj hn => (k.block j (Nat.lt_of_lt_of_le hj h.size) hn).trans (h.block j hj hn)⟩
theorem Upd.below {b N : Nat} {w w' : World} (h : Upd b w w') (hN : N ≤ b) (hs : N ≤ w.heap.size) : Below N w w' := ⟨h.os, h.tape, h.output, h.size, fun j hj => h.block j (by omega) (by omega)⟩
theorem Upd.boxed {b B : Nat} {w w' : World} {t : TypeId} {v : Value} (h : Upd b w w') (hb : Boxed w B t v) (hn : B ≠ b) : Boxed w' B t v := (h.block B hb.lt hn).trans hb
theorem Upd.set {b : Nat} {w w' : World} (h : Upd b w w') (v : Value) : Upd b w (w'.setCell ⟨b, 0, none⟩ v) :=
  h.trans ⟨rfl, rfl, rfl, by simp [World.setCell], fun j _ hn => Below.heap_setCell _ _ _ _ hn⟩
theorem Upd.four {b g : Nat} {w w' : World} {x0 x1 x2 x3 : Value} (h : Upd b w w') (hf : Four w g x0 x1 x2 x3) (hn : g ≠ b) : Four w' g x0 x1 x2 x3 := by
  have hb := h.block g hf.lt hn
  exact ⟨Nat.lt_of_lt_of_le hf.lt h.size, (World.cell?_of_block (w := w) hb).trans hf.c0, (World.cell?_of_block (w := w) hb).trans hf.c1, (World.cell?_of_block (w := w) hb).trans hf.c2, (World.cell?_of_block (w := w) hb).trans hf.c3,
    (World.frozen?_of_block (w := w) hb).trans hf.f0, (World.frozen?_of_block (w := w) hb).trans hf.f1, (World.frozen?_of_block (w := w) hb).trans hf.f2, (World.frozen?_of_block (w := w) hb).trans hf.f3⟩
theorem Upd.setNew {b B o : Nat} {w w' : World} (h : Upd b w w') (hB : w.heap.size ≤ B) (v : Value) : Upd b w (w'.setCell ⟨B, o, none⟩ v) :=
  ⟨h.os, h.tape, h.output, Nat.le_trans h.size (by simp [World.setCell]), fun j hj hn => (Below.heap_setCell _ _ _ _ (by simp; omega)).trans (h.block j hj hn)⟩
theorem run_room (K : Nat) (hK : K ≤ 33) (a : Addr) (W : World) : (Instr.sliceAt 63 (.pointer (some a)) none (some (.int .i64 (K : Int))) none).run Tryz.prog W = .ok (.slice (some a) K 33) W := by
  have hal : Tryz.prog.arrayLen 63 = 33 := by unfold Program.arrayLen; rw [Tryz.underlying63]
  have hel : Tryz.prog.elem 63 = 3 := by unfold Program.elem; rw [Tryz.underlying63]
  rw [run_sliceAt_array_h W 63 a (by rw [hal, hel, Tryz.underlying63]) .i64 K (by omega) (by rw [hal]; omega), hal, hel]
  simp [slicedAt, go_sem]
/-- The first k of these integers, and noughts. -/
def rowF (l : List Int) (k : Nat) : Nat → Value := fun j => if j < k then .int .i64 (ix l j) else .int .i64 0
theorem rowF_next {l : List Int} {k : Nat} {x : Int} (h : ix l k = x) (j : Nat) : (if j = k then Value.int .i64 x else rowF l k j) = rowF l (k + 1) j := by
  unfold rowF
  by_cases e : j = k
  · subst e; rw [if_pos rfl, if_pos (by omega), h]
  · rw [if_neg e]
    by_cases g : j < k
    · rw [if_pos g, if_pos (by omega)]
    · rw [if_neg g, if_neg (by omega)]
theorem ix_evs {env : Env} {ks : List Ex} {k : Nat} {a : Ex} (h : ks[k]? = some a) : ix (evs env ks) k = ExM.ev env a := by
  unfold ix
  rw [evs_map, List.getD_eq_getElem?_getD, List.getElem?_map, h]; rfl
theorem kns_take {env : Env} {ks : List Ex} {k : Nat} {a : Ex} (h : ks[k]? = some a) : kns env (ks.take (k + 1)) = (kns env (ks.take k) && kn env a) := by
  obtain ⟨hk, he⟩ := List.getElem?_eq_some_iff.1 h
  rw [kns_all, kns_all, List.take_succ_eq_append_getElem hk, List.all_append, he]; simp
theorem ints_of_row {w : World} {b n K : Nat} {t : TypeId} {l : List Int} (h : w.rowIs b t n (rowF l K)) (hl : l.length = K) (hn : K ≤ n) : IntsAt w b 0 l :=
  ⟨h.lt, fun i v hi => by
    have hil := (List.getElem?_eq_some_iff.1 hi).1
    have := h.cell (i := i) (by omega)
    rw [Nat.zero_add, this]
    unfold rowF ix
    rw [if_pos (by omega), List.getD_eq_getElem?_getD, hi]; rfl⟩
set_option maxRecDepth 100000 in
set_option maxHeartbeats 8000000 in
theorem value_in (env : Env) (ev : Value) (w0 : World) (vb eb kb : Nat) (hE : SigsAt w0 ev env) (hkb : w0.heap.size ≤ kb) (hvk : vb ≠ kb) (hek : eb ≠ kb) (e : Ex) :
    ∀ (v : Value) (k : Bool) (W : World), ExAt w0.heap.size w0 v e → Ok e → Below w0.heap.size w0 W →
      Boxed W vb 28 (.func (.func 46) #[] #[.pointer (some ⟨vb, 0, none⟩), .pointer (some ⟨eb, 0, none⟩), .pointer (some ⟨kb, 0, none⟩)]) →
      Boxed W eb 35 ev → Boxed W kb 4 (.bool k) →
      Calls Tryz.prog 46 #[v, .pointer (some ⟨vb, 0, none⟩), .pointer (some ⟨eb, 0, none⟩), .pointer (some ⟨kb, 0, none⟩)] W fun x w' => x = .returned (.int .i64 (ExM.ev env e)) ∧ Boxed w' kb 4 (.bool (k && kn env e)) ∧ Upd kb W w' := by
  induction e using Ex.ind with
  | h o num s ks ih =>
    intro v k W hx hok hB bV bE bK
    obtain ⟨p, cap, pl, cl, rfl, hs, ha⟩ := hx.form
    simp only [Ex.op, Ex.n, Ex.nm, Ex.args] at hs ha ⊢
    rw [ok_mk] at hok
    have hK33 : ks.length ≤ 33 := by
      have ht := flt_takes hok.1
      have ho := takes_op ht
      unfold takesS at ht
      split at ht
      · simp at ht; omega
      · rw [decide_eq_true_eq] at ht
        have : arS o ≤ 3 := by unfold arS; repeat' split <;> omega
        omega
    obtain ⟨K, hK⟩ : ∃ K, ks.length = K := ⟨_, rfl⟩
    have HK := Lib.hid hK
    rw [hK] at hK33 ⊢
    clear hK
    have hkl := bK.lt
    have hsl := fun a W => run_room K hK33 a W
    have four := Four.new W (.int .i64 o) (.int .i64 num) (.string s) (.slice p K cap) 24
    have c3 := (four.alloc (.cells #[.int .i64 0, .int .i64 0, .int .i64 0, .int .i64 0, .int .i64 0, .int .i64 0, .int .i64 0, .int .i64 0, .int .i64 0, .int .i64 0, .int .i64 0, .int .i64 0, .int .i64 0, .int .i64 0, .int .i64 0, .int .i64 0, .int .i64 0, .int .i64 0, .int .i64 0, .int .i64 0, .int .i64 0, .int .i64 0, .int .i64 0, .int .i64 0, .int .i64 0, .int .i64 0, .int .i64 0, .int .i64 0, .int .i64 0, .int .i64 0, .int .i64 0, .int .i64 0, .int .i64 0] 63)).c3
    have HF := Lib.hid (four.alloc (.cells #[.int .i64 0, .int .i64 0, .int .i64 0, .int .i64 0, .int .i64 0, .int .i64 0, .int .i64 0, .int .i64 0, .int .i64 0, .int .i64 0, .int .i64 0, .int .i64 0, .int .i64 0, .int .i64 0, .int .i64 0, .int .i64 0, .int .i64 0, .int .i64 0, .int .i64 0, .int .i64 0, .int .i64 0, .int .i64 0, .int .i64 0, .int .i64 0, .int .i64 0, .int .i64 0, .int .i64 0, .int .i64 0, .int .i64 0, .int .i64 0, .int .i64 0, .int .i64 0, .int .i64 0] 63))
    have HR0 : Hid (((W.alloc (.cells #[.int .i64 o, .int .i64 num, .string s, .slice p K cap] 24)).alloc (.cells #[.int .i64 0, .int .i64 0, .int .i64 0, .int .i64 0, .int .i64 0, .int .i64 0, .int .i64 0, .int .i64 0, .int .i64 0, .int .i64 0, .int .i64 0, .int .i64 0, .int .i64 0, .int .i64 0, .int .i64 0, .int .i64 0, .int .i64 0, .int .i64 0, .int .i64 0, .int .i64 0, .int .i64 0, .int .i64 0, .int .i64 0, .int .i64 0, .int .i64 0, .int .i64 0, .int .i64 0, .int .i64 0, .int .i64 0, .int .i64 0, .int .i64 0, .int .i64 0, .int .i64 0] 63)).rowIs (W.heap.size + 1) 63 33 (rowF (evs env ks) 0)) := Lib.hid (by
      have := World.rowIs_alloc (W.alloc (.cells #[.int .i64 o, .int .i64 num, .string s, .slice p K cap] 24)) #[.int .i64 0, .int .i64 0, .int .i64 0, .int .i64 0, .int .i64 0, .int .i64 0, .int .i64 0, .int .i64 0, .int .i64 0, .int .i64 0, .int .i64 0, .int .i64 0, .int .i64 0, .int .i64 0, .int .i64 0, .int .i64 0, .int .i64 0, .int .i64 0, .int .i64 0, .int .i64 0, .int .i64 0, .int .i64 0, .int .i64 0, .int .i64 0, .int .i64 0, .int .i64 0, .int .i64 0, .int .i64 0, .int .i64 0, .int .i64 0, .int .i64 0, .int .i64 0, .int .i64 0] 63 (rowF (evs env ks) 0) (by
        intro i hi
        have hi33 : i < 33 := hi
        have : rowF (evs env ks) 0 i = .int .i64 0 := by unfold rowF; rw [if_neg (by omega)]
        rw [this]
        show (Array.replicate 33 (Value.int .i64 0))[i]? = _
        rw [Array.getElem?_replicate, if_pos hi33])
      rw [World.size_alloc] at this
      exact this)
    have HU0 : Hid (Upd kb W ((W.alloc (.cells #[.int .i64 o, .int .i64 num, .string s, .slice p K cap] 24)).alloc (.cells #[.int .i64 0, .int .i64 0, .int .i64 0, .int .i64 0, .int .i64 0, .int .i64 0, .int .i64 0, .int .i64 0, .int .i64 0, .int .i64 0, .int .i64 0, .int .i64 0, .int .i64 0, .int .i64 0, .int .i64 0, .int .i64 0, .int .i64 0, .int .i64 0, .int .i64 0, .int .i64 0, .int .i64 0, .int .i64 0, .int .i64 0, .int .i64 0, .int .i64 0, .int .i64 0, .int .i64 0, .int .i64 0, .int .i64 0, .int .i64 0, .int .i64 0, .int .i64 0, .int .i64 0] 63))) := Lib.hid (Upd.of (((Below.refl _ _).alloc (Nat.le_refl _) _).alloc (by simp) _))
    have HA := Lib.hid ha
    have HIH := Lib.hid ih
    have HOK := Lib.hid hok
    have HB := Lib.hid hB
    have HV := Lib.hid bV
    have HE := Lib.hid bE
    have HKN := Lib.hid bK
    have hws := hB.size
    have HSE := Lib.hid hE
    have hvl := bV.lt
    have hel := bE.lt
    clear four ha ih hok hB bV bE bK hx hE
    go_enter Tryz.func46, Tryz.ntmps46
    go_wp2
    go_loopw [19] (fun i wr => ∃ j : Nat, j ≤ K ∧ i = .int .i64 j ∧ Hid (wr.rowIs (W.heap.size + 1) 63 33 (rowF (evs env ks) j)) ∧ Hid (Boxed wr kb 4 (.bool (k && kns env (ks.take j)))) ∧ Hid (Upd kb W wr) ∧ Hid (Four wr W.heap.size (.int .i64 o) (.int .i64 num) (.string s) (.slice p K cap))) (fun i _ => K - (intOf i).toNat)
    case atStart => exact ⟨0, Nat.zero_le _, rfl, HR0, Lib.hid (by rw [List.take_zero, kns_all]; simpa using (HKN.out.alloc _).alloc _), HU0, HF⟩
    case round =>
      obtain ⟨j, hj, rfl, ROW, KN, UP, FN⟩ := hrel
      clear c3
      by_cases hlt : j < K
      · obtain ⟨b, off, rfl, hbs, hcell⟩ := HA.out.hp (by rw [HK.out]; omega)
        obtain ⟨a, hak⟩ : ∃ a, ks[j]? = some a := ⟨_, List.getElem?_eq_getElem (by rw [HK.out]; exact hlt)⟩
        obtain ⟨q0, q1, q2, q3⟩ := hcell j a hak
        have hbw : Below w0.heap.size w0 wr := HB.out.trans (UP.out.below hkb hws)
        have ca0 : wr.cell? ⟨b, off + j * 4, none⟩ = some (.int .i64 a.op) := by rw [hbw.cell hbs]; exact q0
        have ca1 : wr.cell? ⟨b, off + j * 4 + 1, none⟩ = some (.int .i64 a.n) := by rw [hbw.cell hbs]; exact q1
        have ca2 : wr.cell? ⟨b, off + j * 4 + 2, none⟩ = some (.string a.nm) := by rw [hbw.cell hbs]; exact q2
        have ca3 : wr.cell? ⟨b, off + j * 4 + 3, none⟩ = some (.slice (pl j) a.args.length (cl j)) := by rw [hbw.cell hbs]; exact q3
        have hxa := HA.out.hx j a hak
        have IX := Lib.hid (ix_evs (env := env) hak)
        have KT := Lib.hid (kns_take (env := env) hak)
        have HOA := HOK.out.2 a (List.mem_of_getElem? hak)
        have HIA := HIH.out a (List.mem_of_getElem? hak)
        have HBW := Lib.hid hbw
        have hus := UP.out.size
        obtain ⟨ao, hao⟩ : ∃ x, a.op = x := ⟨_, rfl⟩
        obtain ⟨an, han⟩ : ∃ x, a.n = x := ⟨_, rfl⟩
        obtain ⟨am, ham⟩ : ∃ x, a.nm = x := ⟨_, rfl⟩
        obtain ⟨ak, hka⟩ : ∃ x, a.args.length = x := ⟨_, rfl⟩
        obtain ⟨ap, hap⟩ : ∃ x, pl j = x := ⟨_, rfl⟩
        obtain ⟨ac, hac⟩ : ∃ x, cl j = x := ⟨_, rfl⟩
        rw [hao] at ca0 hxa
        rw [han] at ca1 hxa
        rw [ham] at ca2 hxa
        rw [hka, hap, hac] at ca3 hxa
        have hbA : Below wr.heap.size wr (wr.alloc (.cells #[.int .i64 ao, .int .i64 an, .string am, .slice ap ak ac] 24)) := (Below.refl _ _).alloc (Nat.le_refl _) _
        have hUA : Upd kb W (wr.alloc (.cells #[.int .i64 ao, .int .i64 an, .string am, .slice ap ak ac] 24)) := UP.out.trans (Upd.of hbA)
        have IC := Lib.hid (HIA _ _ _ hxa HOA (hbw.trans (hbA.mono (by omega))) (hUA.boxed HV.out hvk) (hUA.boxed HE.out hek) (KN.out.alloc _))
        have bV2 := UP.out.boxed HV.out hvk
        have cV := bV2.cell
        have lV := bV2.lt
        clear bV2
        have HUA := Lib.hid hUA
        clear hcell q0 q1 q2 q3 hbw hxa HOA HIA hak hao han ham hka hap hac hbA hUA
        generalize ExM.ev env a = va at *
        generalize kn env a = kA at *
        generalize kns env (ks.take j) = kJ at *
        go_wp2_with (go_at_call 46; ((with_reducible refine IC.out.mono ?_); rintro e w5 ⟨rfl, hk5, hu5⟩; have R5 := (ROW.out.alloc (.cells #[.int .i64 ao, .int .i64 an, .string am, .slice ap ak ac] 24)).of_block (hu5.block (W.heap.size + 1) (by have := (ROW.out.alloc (.cells #[.int .i64 ao, .int .i64 an, .string am, .slice ap ak ac] 24)).lt; exact this) (by omega)); have r1 := R5.cell (show j < 33 by omega); have r2 := R5.frozen j; have HR5 := Lib.hid R5; have HK5 := Lib.hid hk5; have HU5 := Lib.hid (HUA.out.trans hu5); have HF5 := Lib.hid (hu5.four (FN.out.alloc _) (by omega)); clear hk5 hu5 R5))
        go_roundw
        case rel => exact ⟨j + 1, by omega, by go_num, Lib.hid ((HR5.out.set j _).congr fun i _ => rowF_next IX.out i), Lib.hid (by rw [KT.out, ← Bool.and_assoc]; exact (Below.heap_setCell _ _ _ kb (by simp; omega)).trans HK5.out), Lib.hid (HU5.out.setNew (by omega) _), Lib.hid (HF5.out.far (by omega))⟩
        case measure => simp [intOf]; omega
      · have hjK : j = K := by omega
        have EV := Lib.hid (ev_mk env o num s ks)
        have EK := Lib.hid (kn_mk env o num s ks)
        have hlen := evs_len env ks
        rw [HK.out] at hlen
        have hir := ints_of_row (by have := ROW.out; rw [hjK] at this; exact this) hlen hK33
        have hwd := evs_range env ks HOK.out.2
        have hft : fltS ⟨0, o, num, s, (evs env ks).length⟩ = 0 := by rw [hlen, ← HK.out]; exact HOK.out.1
        have HBW : Hid (Below w0.heap.size w0 wr) := Lib.hid (HB.out.trans (UP.out.below hkb hws))
        have VC := valueOf_any env ev o num s p cap (evs env ks) (W.heap.size + 1) wr (HSE.out.later HBW.out) hir hwd hft
        rw [hlen] at VC
        have VC := Lib.hid VC
        have bK2 : Boxed wr kb 4 (.bool (k && kns env ks)) := by
          have := KN.out
          rw [hjK, ← HK.out, List.take_length] at this
          exact this
        have F2 := FN.out
        have g0 := F2.c0
        have g1 := F2.c1
        have g2 := F2.c2
        have g3 := F2.c3
        have cE := (UP.out.boxed HE.out hek).cell
        have HK2 := Lib.hid bK2
        clear hir hwd hft hlen bK2 hjK F2
        generalize kns env ks = kk at *
        generalize ExM.valS env o num s (evs env ks) = vv at *
        generalize knwS env o s = kv at *
        have HQ : Hid ((k && kn env (.mk o num s ks)) = ((k && kk) && kv)) := Lib.hid (by rw [EK.out, Bool.and_assoc])
        cases hq : (k && kk)
        all_goals
          have H3 := HK2.out
          rw [hq] at H3
          have HQ2 := HQ.out
          rw [hq] at HQ2
          have HQ2 := Lib.hid HQ2
          have HK3 := Lib.hid H3
          clear H3 hq HK2 HQ EK
          go_wp2_with (go_at_call 47; ((with_reducible refine VC.out.mono ?_); rintro e w5 ⟨rfl, hb⟩; have bK5 := bxStay HK3.out hb; have cK := bK5.cell; have fK := bK5.frozen; have HK5 := Lib.hid bK5; have HU5 := Lib.hid (UP.out.trans (Upd.of hb)); clear hb bK5))
          go_ret
          exact ⟨by rw [EV.out]; rfl, by rw [HQ2.out]; exact HK5.out.set _, HU5.out.set _⟩
/-- The value of an expression, or the error. -/
def tEv (r : Int × Int) (w : World) (e : Ending) (w' : World) : Prop := e = .returned (.tuple #[.int .i64 r.1, .int .i64 r.2]) ∧ Below w.heap.size w w'
theorem tEv_mk {a f : Int} {r : Int × Int} {w w' : World} (h : r = (a, f)) (hb : Below w.heap.size w w') : tEv r w (.returned (.tuple #[.int .i64 a, .int .i64 f])) w' := by subst h; exact ⟨rfl, hb⟩
set_option maxRecDepth 100000 in
set_option maxHeartbeats 8000000 in
theorem eval_any (env : Env) (sv v : Value) (e : Ex) (w : World) (hx : ExAt w.heap.size w v e) (hE : SigsAt w sv env) (hsz : sz e ≤ 10000) (ht : Tab w) :
    Calls Tryz.prog 27 #[v, sv] w (tEv (evalS env e) w) := by
  obtain ⟨p, cap, pl, cl, rfl, hs, ha⟩ := hx.form
  obtain ⟨q, qc, hsv, _⟩ := hE
  have hE : SigsAt w sv env := ⟨q, qc, hsv, by assumption⟩
  have HX := Lib.hid hx
  have HE := Lib.hid hE
  have HT := Lib.hid ht
  have hB0 : Below w.heap.size w ((w.alloc (.cells #[.int .i64 e.op, .int .i64 e.n, .string e.nm, .slice p e.args.length cap] 24)).alloc (.cells #[sv] 35)) := ((Below.refl _ _).alloc (Nat.le_refl _) _).alloc (by simp) _
  have VC := Lib.hid (valid_any e _ _ (hx.later hB0) hsz (ht.later hB0))
  have HB0 := Lib.hid hB0
  have four := (Four.new w (.int .i64 e.op) (.int .i64 e.n) (.string e.nm) (.slice p e.args.length cap) 24).alloc (.cells #[sv] 35)
  have bE := Boxed.new (w.alloc (.cells #[.int .i64 e.op, .int .i64 e.n, .string e.nm, .slice p e.args.length cap] 24)) 35 sv
  rw [World.size_alloc] at bE
  have HF := Lib.hid four
  have HBE := Lib.hid bE
  have HEV : Hid (evalS env e = if vld e = 0 then (if kn env e = true then (ExM.ev env e, 0) else (0, 7)) else (0, 1)) := Lib.hid rfl
  have HOK : Hid (vld e = 0 → Ok e) := Lib.hid fun h => ((vld_zero e).1 h).1
  clear hx ha hE ht four bE hB0
  generalize e.op = o at *
  generalize e.n = num at *
  generalize e.nm = s at *
  generalize e.args.length = K at *
  subst hsv
  by_cases hv : vld e = 0
  · rw [hv] at VC
    have HO := HOK.out hv
    have H2 := HEV.out
    rw [if_pos hv] at H2
    have HEV2 := Lib.hid H2
    clear H2 HEV HOK hv
    have LAST : Hid (∀ w5, Below w.heap.size w w5 → Boxed w5 (w.heap.size + 1) 35 (.slice q env.length qc) → Calls Tryz.prog 46 #[xv o num s (.slice p K cap), .pointer (some ⟨w5.heap.size + 1, 0, none⟩), .pointer (some ⟨w.heap.size + 1, 0, none⟩), .pointer (some ⟨w5.heap.size, 0, none⟩)]
        ((w5.alloc (.cells #[.bool true] 4)).alloc (.cells #[.func (.func 46) #[] #[.pointer (some ⟨w5.heap.size + 1, 0, none⟩), .pointer (some ⟨w.heap.size + 1, 0, none⟩), .pointer (some ⟨w5.heap.size, 0, none⟩)]] 28))
        fun x w' => x = .returned (.int .i64 (ExM.ev env e)) ∧ Boxed w' w5.heap.size 4 (.bool (kn env e)) ∧ Below w5.heap.size w5 w') := Lib.hid fun w5 hb5 hbe => by
      have hbb : Below w5.heap.size w5 ((w5.alloc (.cells #[.bool true] 4)).alloc (.cells #[.func (.func 46) #[] #[.pointer (some ⟨w5.heap.size + 1, 0, none⟩), .pointer (some ⟨w.heap.size + 1, 0, none⟩), .pointer (some ⟨w5.heap.size, 0, none⟩)]] 28)) := ((Below.refl _ _).alloc (Nat.le_refl _) _).alloc (by simp) _
      have bv := Boxed.new (w5.alloc (.cells #[.bool true] 4)) 28 (.func (.func 46) #[] #[.pointer (some ⟨w5.heap.size + 1, 0, none⟩), .pointer (some ⟨w.heap.size + 1, 0, none⟩), .pointer (some ⟨w5.heap.size, 0, none⟩)])
      rw [World.size_alloc] at bv
      have bk := (Boxed.new w5 4 (.bool true)).alloc (.cells #[.func (.func 46) #[] #[.pointer (some ⟨w5.heap.size + 1, 0, none⟩), .pointer (some ⟨w.heap.size + 1, 0, none⟩), .pointer (some ⟨w5.heap.size, 0, none⟩)]] 28)
      have hel := hbe.lt
      refine (value_in env _ w5 (w5.heap.size + 1) (w.heap.size + 1) w5.heap.size (HE.out.later hb5) (Nat.le_refl _) (by omega) (by omega) e _ true _ (HX.out.later hb5) HO hbb bv ((hbe.alloc _).alloc _) bk).mono ?_
      rintro x w' ⟨h1, h2, h3⟩
      exact ⟨h1, by simpa using h2, hbb.trans ((h3.below (Nat.le_refl _) (by simp; omega)))⟩
    cases hk : kn env e
    all_goals
      have H2 := HEV2.out
      rw [hk] at LAST H2
      have HEV3 := Lib.hid H2
      clear H2 HEV2 hk HO
      generalize ExM.ev env e = x at *
      go_enter Tryz.func27, Tryz.ntmps27
      go_wp2_with (first
        | (go_at_call 24; ((with_reducible refine VC.out.mono ?_); rintro e w5 ⟨rfl, hb⟩; have f5 := (HF.out.stay hb).alloc (.cells #[.bool true] 4) |>.alloc (.cells #[.func (.func 46) #[] #[.pointer (some ⟨w5.heap.size + 1, 0, none⟩), .pointer (some ⟨w.heap.size + 1, 0, none⟩), .pointer (some ⟨w5.heap.size, 0, none⟩)]] 28); have g0 := f5.c0; have g1 := f5.c1; have g2 := f5.c2; have g3 := f5.c3; have HBX := Lib.hid (bxStay HBE.out hb); have HB5 := Lib.hid (HB0.out.then_ hb); clear hb f5))
        | (go_at_call 46; ((with_reducible refine (LAST.out _ HB5.out HBX.out).mono ?_); rintro e w6 ⟨rfl, hk6, hb6⟩; have cK := hk6.cell; have HB6 := Lib.hid (HB5.out.then_ hb6); clear hk6 hb6)))
      go_ret2
      exact tEv_mk HEV3.out HB6.out
  · have H2 := HEV.out
    rw [if_neg hv] at H2
    have HEV2 := Lib.hid H2
    have hv1 : (vld e != 0) = true := by simpa using hv
    clear H2 HEV HOK hv
    generalize vld e = f at *
    go_enter Tryz.func27, Tryz.ntmps27
    go_wp2_with (go_at_call 24; ((with_reducible refine VC.out.mono ?_); rintro e w5 ⟨rfl, hb⟩; have HB5 := Lib.hid (HB0.out.then_ hb); clear hb))
    go_ret2
    exact tEv_mk HEV2.out HB5.out
end Go.Proofs.YtdiackcefojfkaaGreatDoor.ExW
