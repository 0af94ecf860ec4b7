/-
  What clone, ContainsFunc and isComputed return.
-/
import Derived.Test.YtdiackcefojfkaaGreatDoorExRebuild
import Derived.Test.YtdiackcefojfkaaGreatDoorExFold
import Derived.Test.YtdiackcefojfkaaGreatDoorExEval
namespace Go.Proofs.YtdiackcefojfkaaGreatDoor.ExW
open Go Go.RowKit Go.Proofs.YtdiackcefojfkaaGreatDoor.NumM Go.Proofs.YtdiackcefojfkaaGreatDoor.LexW Go.Proofs.YtdiackcefojfkaaGreatDoor.LexM Go.Proofs.YtdiackcefojfkaaGreatDoor.ExM

set_option maxRecDepth 100000 in
set_option maxHeartbeats 8000000 in
theorem clone_any (e : Ex) : ∀ (N : Nat) (w : World) (v : Value), ExAt N w v e → N ≤ w.heap.size → sz e ≤ 10000 → Calls Tryz.prog 49 #[v] w (tFr e w) := by
  induction e using Ex.ind with
  | h o n s ks ih =>
    intro N w v hx hN hsz
    obtain ⟨p, cap, pl, cl, rfl, hs, ha⟩ := hx.form
    simp only [Ex.op, Ex.n, Ex.nm, Ex.args] at hs ha ⊢
    rw [sz_mk] at hsz
    have hl := len_szs ks
    have hb1 : Below w.heap.size w ((w.alloc (.cells #[.int .i64 o, .int .i64 n, .string s, .slice p ks.length cap] 24)).alloc (.cells #[.int .i64 0, .int .i64 0, .string ⟨#[]⟩, .slice none 0 0] 24)) := ((Below.refl _ _).alloc (Nat.le_refl _) _).alloc (by simp) _
    have RC := rebuilt_clone id ks pl cl o n s p cap N _ (ha.under (hb1.mono hN)) (by have := hb1.size; omega) (by omega) hs (fun a ha' W v hW hx' => ih a ha' N W v hx' (by have := hW.size; have := hb1.size; omega) (by have := sz_mem ha'; omega))
    rw [List.map_id] at RC
    have RC := Lib.hid RC
    have HB1 := Lib.hid hb1
    have four2 := Four.new (w.alloc (.cells #[.int .i64 o, .int .i64 n, .string s, .slice p ks.length cap] 24)) (.int .i64 0) (.int .i64 0) (.string ⟨#[]⟩) (.slice none 0 0) 24
    rw [World.size_alloc] at four2
    have HF2 := Lib.hid four2
    clear ha hx ih hb1 four2
    generalize ks.length = K at *
    go_enter Tryz.func49, Tryz.ntmps49
    go_wp2_with (go_at_call 54; ((with_reducible refine RC.out.mono ?_); rintro e w2 ⟨v2, rfl, hfr, hb2⟩; obtain ⟨p2, c2, rfl, hs2, hc2⟩ := hfr.form; have f5 := HF2.out.stay hb2; have s0 := f5.c0; have s1 := f5.c1; have s2 := f5.c2; have s3 := f5.c3; have s4 := f5.f0; have s5 := f5.f1; have s6 := f5.f2; have s7 := f5.f3; have HF5 := Lib.hid f5; have HFR := Lib.hid hfr; have HB2 := Lib.hid (HB1.out.then_ hb2); clear hfr hb2 f5))
    have hp := HF5.out.put (.int .i64 (Ex.mk o n s ks).op) (.int .i64 (Ex.mk o n s ks).n) (.string (Ex.mk o n s ks).nm) (.slice p2 (Ex.mk o n s ks).args.length c2)
    have p0 := hp.c0
    have p1 := hp.c1
    have p2' := hp.c2
    have p3 := hp.c3
    have hws := HB1.out.size
    simp only [World.size_alloc] at hws
    refine bodyPost_ret (v := xv (Ex.mk o n s ks).op (Ex.mk o n s ks).n (Ex.mk o n s ks).nm (.slice p2 (Ex.mk o n s ks).args.length c2)) (by simp [results, Tryz.results49, go_sem, p0, p1, p2', p3]) rfl ⟨_, rfl, ?_, below_put HB2.out (by omega) _ _ _ _⟩
    have := HFR.out
    simp only [World.size_alloc] at this
    exact ((((this.set (g := w.heap.size + 1) (by omega)).set (by omega)).set (by omega)).set (by omega)).low (by omega)
theorem isComp_any (o : Int) (w : World) : Calls Tryz.prog 73 #[.int .i64 o] w fun e w' => e = .returned (.bool (!asksB o)) ∧ w = w' := by
  have VC : Hid (∀ W, Calls Tryz.prog 43 #[.int .i64 o] W fun e w' => e = .returned (.bool (isVr o)) ∧ W = w') := Lib.hid fun W => isVr_any o W
  have AC : Hid (∀ W, Calls Tryz.prog 44 #[.int .i64 o] W fun e w' => e = .returned (.bool (isAr o)) ∧ W = w') := Lib.hid fun W => isAr_any o W
  by_cases h : o = 1
  · subst h
    go_enter Tryz.func73, Tryz.ntmps73
    go_wp2
    go_ret
    exact ⟨rfl, rfl⟩
  · have h0 : (o != 1) = true := by rw [bne_iff_ne]; exact h
    have EE : Hid (asksB o = (isVr o || isAr o)) := Lib.hid (by unfold asksB; rw [decide_eq_false h]; rfl)
    clear h
    cases hv : isVr o <;> cases ha : isAr o
    all_goals
      rw [hv] at VC EE
      rw [ha] at AC EE
      clear hv ha
      go_enter Tryz.func73, Tryz.ntmps73
      go_wp2_with (first
        | (go_at_call 43; ((with_reducible refine (VC.out _).mono ?_); rintro e w1 ⟨rfl, rfl⟩))
        | (go_at_call 44; ((with_reducible refine (AC.out _).mono ?_); rintro e w1 ⟨rfl, rfl⟩)))
      go_ret
      exact ⟨retb (by rw [EE.out]; rfl), rfl⟩
theorem isNot_any (o n : Int) (s : ByteArray) (x : Value) (w : World) : Calls Tryz.prog 75 #[xv o n s x] w fun e w' => e = .returned (.bool (!decide (o = 1))) ∧ Below w.heap.size w w' := by
  have four := Four.new w (.int .i64 o) (.int .i64 n) (.string s) x 24
  have c0 := four.c0
  have HB : Hid (Below w.heap.size w (w.alloc (.cells #[.int .i64 o, .int .i64 n, .string s, x] 24))) := Lib.hid ((Below.refl _ _).alloc (Nat.le_refl _) _)
  clear four
  go_enter Tryz.func75, Tryz.ntmps75
  go_wp2
  go_ret
  exact ⟨retb (by rw [Bool.eq_iff_iff]; simp), HB.out⟩
set_option maxRecDepth 100000 in
set_option maxHeartbeats 4000000 in
theorem index_any (ks : List Ex) (pl : Nat → Option Addr) (cl : Nat → Nat) (p : Option Addr) (cap N : Nat) (w : World) (ha : ArgsAt N w p cap pl cl ks) (hN : N ≤ w.heap.size) (hk : ks.length ≤ 10000) :
    Calls Tryz.prog 103 #[.slice p ks.length cap, .func (.func 75) #[] #[]] w fun e w' => ∃ i : Int, e = .returned (.int .i64 i) ∧ -1 ≤ i ∧ i ≤ 10000 ∧ decide (0 ≤ i) = (!ks.all isC) ∧ Below w.heap.size w w' := by
  have HA := Lib.hid ha
  obtain ⟨K, hK⟩ : ∃ K, ks.length = K := ⟨_, rfl⟩
  have HK := Lib.hid hK
  rw [hK] at hk ⊢
  clear hK ha
  have HB0 := Lib.hid (Below.refl w.heap.size w)
  go_enter Tryz.func103, Tryz.ntmps103
  go_wp2
  go_loopw [8] (fun i wr => ∃ j : Nat, j ≤ K ∧ i = .int .i64 j ∧ Hid ((ks.take j).all isC = true) ∧ Hid (Below w.heap.size w wr)) (fun i _ => K - (intOf i).toNat)
  case atStart => exact ⟨0, Nat.zero_le _, rfl, Lib.hid rfl, HB0⟩
  case round =>
    obtain ⟨j, hj, rfl, AL, BW⟩ := hrel
    by_cases hlt : j < K
    · obtain ⟨b, off, rfl, hbs, hcell⟩ := HA.out.hp (by rw [HK.out]; omega)
      obtain ⟨a, hak⟩ : ∃ a, ks[j]? = some a := ⟨_, List.getElem?_eq_getElem (by rw [HK.out]; exact hlt)⟩
      obtain ⟨q0, q1, q2, q3⟩ := hcell j a hak
      have hbw : Below N w wr := BW.out.mono hN
      have ca0 : wr.cell? ⟨b, off + j * 4, none⟩ = some (.int .i64 a.op) := by rw [hbw.cell hbs]; exact q0
      have ca1 : wr.cell? ⟨b, off + j * 4 + 1, none⟩ = some (.int .i64 a.n) := by rw [hbw.cell hbs]; exact q1
      have ca2 : wr.cell? ⟨b, off + j * 4 + 2, none⟩ = some (.string a.nm) := by rw [hbw.cell hbs]; exact q2
      have ca3 : wr.cell? ⟨b, off + j * 4 + 3, none⟩ = some (.slice (pl j) a.args.length (cl j)) := by rw [hbw.cell hbs]; exact q3
      have HAK := Lib.hid hak
      obtain ⟨ao, hao⟩ : ∃ x, a.op = x := ⟨_, rfl⟩
      obtain ⟨an, han⟩ : ∃ x, a.n = x := ⟨_, rfl⟩
      obtain ⟨am, ham⟩ : ∃ x, a.nm = x := ⟨_, rfl⟩
      obtain ⟨ak, hka⟩ : ∃ x, a.args.length = x := ⟨_, rfl⟩
      obtain ⟨ap, hap⟩ : ∃ x, pl j = x := ⟨_, rfl⟩
      obtain ⟨ac, hac⟩ : ∃ x, cl j = x := ⟨_, rfl⟩
      have IC : isC a = decide (ao = 1) := by rw [← hao]; rfl
      rw [hao] at ca0
      rw [han] at ca1
      rw [ham] at ca2
      rw [hka, hap, hac] at ca3
      have NC := Lib.hid (isNot_any ao an am (.slice ap ak ac) wr)
      have IC := Lib.hid IC
      clear hcell q0 q1 q2 q3 hbw hak hao han ham hka hap hac
      by_cases h1 : ao = 1
      · have hc : isC a = true := by rw [IC.out, decide_eq_true h1]
        have AL2 : Hid ((ks.take (j + 1)).all isC = true) := Lib.hid (by
          obtain ⟨hk2, he⟩ := List.getElem?_eq_some_iff.1 HAK.out
          rw [List.take_succ_eq_append_getElem hk2, List.all_append, AL.out, he]; simp [hc])
        rw [decide_eq_true h1] at NC
        clear h1 hc
        go_wp2_with (go_at_call 75; ((with_reducible refine NC.out.mono ?_); rintro e w5 ⟨rfl, hb⟩; have HB5 := Lib.hid (BW.out.then_ hb); clear hb))
        go_roundw
        case rel => exact ⟨j + 1, by omega, by go_num, AL2, HB5⟩
        case measure => simp [intOf]; omega
      · have hc : isC a = false := by rw [IC.out, decide_eq_false h1]
        have AL2 : Hid (ks.all isC = false) := Lib.hid (by
          rw [List.all_eq_false]
          exact ⟨a, List.mem_of_getElem? HAK.out, by rw [hc]; simp⟩)
        rw [decide_eq_false h1] at NC
        clear h1 hc
        go_wp2_with (go_at_call 75; ((with_reducible refine NC.out.mono ?_); rintro e w5 ⟨rfl, hb⟩; have HB5 := Lib.hid (BW.out.then_ hb); clear hb))
        go_ret
        exact ⟨_, rfl, by omega, by omega, by rw [AL2.out]; simp, HB5.out⟩
    · have AL2 : Hid (ks.all isC = true) := Lib.hid (by have := AL.out; rw [List.take_of_length_le (by rw [HK.out]; omega)] at this; exact this)
      go_wp2
      go_ret
      exact ⟨_, rfl, by omega, by omega, by rw [AL2.out]; rfl, BW.out⟩
theorem contains_any (ks : List Ex) (pl : Nat → Option Addr) (cl : Nat → Nat) (p : Option Addr) (cap N : Nat) (w : World) (ha : ArgsAt N w p cap pl cl ks) (hN : N ≤ w.heap.size) (hk : ks.length ≤ 10000) :
    Calls Tryz.prog 74 #[.slice p ks.length cap, .func (.func 75) #[] #[]] w fun e w' => e = .returned (.bool (!ks.all isC)) ∧ Below w.heap.size w w' := by
  have IC := Lib.hid (index_any ks pl cl p cap N w ha hN hk)
  clear ha
  generalize ks.length = K at *
  generalize ks.all isC = c at *
  go_enter Tryz.func74, Tryz.ntmps74
  go_wp2_with (go_at_call 103; ((with_reducible refine IC.out.mono ?_); rintro e w1 ⟨i, rfl, h1, h2, h3, hb⟩; have HB := Lib.hid hb; have HC := Lib.hid h3; clear hb h3))
  go_ret
  exact ⟨retb (by rw [← HC.out]), HB.out⟩
end Go.Proofs.YtdiackcefojfkaaGreatDoor.ExW
