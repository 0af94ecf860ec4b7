/-
  What the laws' own items, Small and few return: some number, some truth, the same in every world.
-/
import Derived.Test.YtoigjeoncdfdmaaGreatDoorClRValid
namespace Go.Proofs.YtoigjeoncdfdmaaGreatDoor.ClW
open Go Go.RowKit Go.Proofs.YtoigjeoncdfdmaaGreatDoor.NumM Go.Proofs.YtoigjeoncdfdmaaGreatDoor.LexW Go.Proofs.YtoigjeoncdfdmaaGreatDoor.LexM Go.Proofs.YtoigjeoncdfdmaaGreatDoor.ClM

/-- The number that items returns for a row, wherever it lies. -/
def ItN (l : List (List Lf)) (v : Int) : Prop := ∀ (N : Nat) (w : World) (p : Option Addr) (cap : Nat), At (Lo N) w (.r .items) (.slice p l.length cap) (.row .items l) → N ≤ w.heap.size →
  Calls Tryz.prog 29 #[.slice p l.length cap] w fun e w' => e = .returned (.int .i64 v) ∧ ∃ m, w' = w.drewN m
theorem quietN {P : Program} {f : FuncId} {args : Array Value} {w : World} {n : Nat} {v : Value} (h : Calls P f args (w.drewN n) fun e w' => e = .returned v ∧ ∃ m, w' = (w.drewN n).drewN m) : Calls P f args (w.drewN n) fun e w'' => e = .returned v ∧ ∃ m, w'' = w.drewN m :=
  h.mono fun _ _ ⟨he, m, hm⟩ => ⟨he, n + m, by rw [hm, World.drewN_drewN]⟩
theorem pick_at {l : List (List Lf)} {k : Nat} (ih : ∀ x ∈ l, ∀ y ∈ x, ∀ r, y = Lf.row .items r → ∃ v, ItN r v) : ∃ a : Nat → Int, ∀ (i : Nat) (x : List Lf) r, l[i]? = some x → x[k]? = some (Lf.row .items r) → ItN r (a i) := by
  have h : ∀ i : Nat, ∃ v, ∀ (x : List Lf) r, l[i]? = some x → x[k]? = some (Lf.row .items r) → ItN r v := by
    intro i
    by_cases hx : ∃ x r, l[i]? = some x ∧ x[k]? = some (Lf.row .items r)
    · obtain ⟨x, r, h1, h2⟩ := hx
      obtain ⟨v, hv⟩ := ih x (List.mem_of_getElem? h1) _ (List.mem_of_getElem? h2) r rfl
      refine ⟨v, fun x' r' h3 h4 => ?_⟩
      rw [h1] at h3
      cases h3
      rw [h2] at h4
      cases h4
      exact hv
    · exact ⟨0, fun x r h1 h2 => absurd ⟨x, r, h1, h2⟩ hx⟩
  exact ⟨fun i => Classical.choose (h i), fun i => Classical.choose_spec (h i)⟩
theorem stop_at (S : Nat → Int) : ∀ K : Nat, ∃ J, J ≤ K ∧ (∀ j, j < J → S j < 200) ∧ (J = K ∨ ¬ S J < 200)
  | 0 => ⟨0, Nat.le_refl _, fun j h => by omega, .inl rfl⟩
  | K + 1 => by
    obtain ⟨J, h1, h2, h3⟩ := stop_at S K
    by_cases h : S J < 200
    · rcases h3 with rfl | h3
      · exact ⟨J + 1, Nat.le_refl _, fun j hj => by
          by_cases e : j = J
          · rw [e]; exact h
          · exact h2 j (by omega), .inl rfl⟩
      · exact absurd h h3
    · exact ⟨J, by omega, h2, .inr h⟩
def sumI (a b : Nat → Int) : Nat → Int
  | 0 => 0
  | j + 1 => wrap64 (sumI a b j + wrap64 (wrap64 (1 + a j) + b j))
set_option maxRecDepth 100000 in
set_option maxHeartbeats 8000000 in
theorem items_row (lf : Lf) : ∀ l : List (List Lf), lf = Lf.row .items l → ∃ v, ItN l v := by
  refine lf_ind (Q := fun lf => ∀ l : List (List Lf), lf = Lf.row .items l → ∃ v, ItN l v) (fun _ _ e => by cases e) (fun _ _ e => by cases e) (fun _ _ e => by cases e) (fun k l0 ih l e => ?_) lf
  injection e with e1 e2
  subst e1
  obtain rfl : l = l0 := e2.symm
  obtain ⟨a, ha⟩ := pick_at (k := 8) (fun x hx y hy r e => ih x hx y hy r e)
  obtain ⟨b, hb⟩ := pick_at (k := 9) (fun x hx y hy r e => ih x hx y hy r e)
  obtain ⟨J, hJ1, hJ2, hJ3⟩ := stop_at (sumI a b) l.length
  refine ⟨sumI a b J, fun N w p cap hat hN => ?_⟩
  obtain ⟨_, _, G, e, hr⟩ := hat.rowOf
  cases e
  have hl := hr.hl
  simp only [byt] at hl
  have HR := Lib.hid hr
  have HA := Lib.hid ha
  have HBb := Lib.hid hb
  have HS : Hid (∀ j, sumI a b (j + 1) = wrap64 (sumI a b j + wrap64 (wrap64 (1 + a j) + b j))) := Lib.hid fun j => rfl
  have H2 := Lib.hid hJ2
  have H3 := Lib.hid hJ3
  have H0 : Hid (sumI a b 0 = 0) := Lib.hid rfl
  obtain ⟨K, hK⟩ : ∃ K, l.length = K := ⟨_, rfl⟩
  have HK := Lib.hid hK
  rw [hK] at hl hJ1 H3 ⊢
  generalize sumI a b = T at *
  clear hat hr ha hb hJ2 hJ3 ih hK
  go_enter Tryz.func29, Tryz.ntmps29
  go_wp2
  go_loopw [3, 4] (fun s i wr => ∃ (j : Nat), j ≤ J ∧ i = .int .i64 j ∧ s = .int .i64 (T j) ∧ Hid (∃ m, wr = w.drewN m)) (fun _ i _ => J - (intOf i).toNat)
  case atStart => exact ⟨0, Nat.zero_le _, rfl, by rw [H0.out], Lib.hid ⟨0, rfl⟩⟩
  case round =>
    obtain ⟨j, hj, rfl, rfl, DW⟩ := hrel
    have hbw : Below w.heap.size w wr := by
      obtain ⟨m, hm⟩ := DW.out
      rw [hm]
      exact drewB (Below.refl _ _)
    by_cases hlt : j < J
    · have hs : T j < 200 := H2.out j hlt
      have hjK : j < K := by omega
      obtain ⟨x, hx⟩ : ∃ x, l[j]? = some x := ⟨_, List.getElem?_eq_getElem (by rw [HK.out]; exact hjK)⟩
      obtain ⟨b', off, y, q, rfl, rfl, hb', hiv, c0, c1, c2, c3, c4, c5, c6, c7, c8, c9, c10, c11⟩ := (HR.out.under (hbw.mono hN)).iv hx
      have A8 := HA.out j _ y.it hx rfl
      have A9 := HBb.out j _ y.el hx rfl
      have S1 := HS.out j
      have VC8 : Hid (∀ W, Below wr.heap.size wr W → Calls Tryz.prog 29 #[.slice q.p8 y.it.length q.c8] W fun e w' => e = .returned (.int .i64 (a j)) ∧ ∃ m, w' = W.drewN m) := Lib.hid fun W hW => A8 N W q.p8 q.c8 (hiv.it.under (hW.mono (Nat.le_trans hN hbw.size))) (Nat.le_trans (Nat.le_trans hN hbw.size) hW.size)
      have VC9 : Hid (∀ W, Below wr.heap.size wr W → Calls Tryz.prog 29 #[.slice q.p9 y.el.length q.c9] W fun e w' => e = .returned (.int .i64 (b j)) ∧ ∃ m, w' = W.drewN m) := Lib.hid fun W hW => A9 N W q.p9 q.c9 (hiv.el.under (hW.mono (Nat.le_trans hN hbw.size))) (Nat.le_trans (Nat.le_trans hN hbw.size) hW.size)
      clear hiv A8 A9 c0 c1 c2 c3 c4 c5 c6 c7 c10 c11 hb' hx
      go_wp2
      go_quiet ((go_at_call 29; first | with_reducible exact quietN (VC8.out _ dB) | with_reducible exact quietN (VC9.out _ dB)))
      go_wp2
      go_roundw
      case rel => exact ⟨j + 1, by omega, by go_num, by rw [S1], Lib.hid (by obtain ⟨m, hm⟩ := DW.out; exact ⟨m + nq, by rw [hm, World.drewN_drewN]⟩)⟩
      case measure => simp [intOf]; omega
    · have hjJ : j = J := by omega
      have R : Hid (∃ m, wr = w.drewN m) := DW
      by_cases hjk : j < K
      · have hn : ¬ T j < 200 := by
          rw [hjJ]
          rcases H3.out with h | h
          · omega
          · omega
        rw [hjJ] at hn hjk ⊢
        clear H2 H3
        go_wp2
        go_ret
        exact ⟨rfl, R.out⟩
      · rw [hjJ] at hjk ⊢
        clear H2 H3
        go_wp2
        go_ret
        exact ⟨rfl, R.out⟩
theorem items_all (l : List (List Lf)) : ∃ v, ItN l v := items_row _ l rfl
/-- What Small returns, wherever the class lies. -/
def SmN (c : Cl) (b : Bool) : Prop := ∀ (N : Nat) (w : World) (pf : Option Addr) (cf : Nat) (pb : Option Addr) (cb : Nat), CV (Lo N) w pf cf pb cb c → N ≤ w.heap.size →
  Calls Tryz.prog 9 #[cv c.nm c.par (.slice pf c.fs.length cf) (.slice pb c.bs.length cb)] w (tBool b w)
theorem find_big (l : List Bk) : ∃ v : Nat → Int, ∀ (i : Nat) (y : Bk), l[i]? = some y → ItN y.it (v i) := by
  have h : ∀ i : Nat, ∃ v, ∀ y : Bk, l[i]? = some y → ItN y.it v := by
    intro i
    cases hy : l[i]? with
    | none => exact ⟨0, fun y h => by cases h⟩
    | some y =>
      obtain ⟨v, hv⟩ := items_all y.it
      exact ⟨v, fun z h => by cases h; exact hv⟩
  exact ⟨fun i => Classical.choose (h i), fun i => Classical.choose_spec (h i)⟩
theorem stop_big (v : Nat → Int) : ∀ K : Nat, ∃ J, J ≤ K ∧ (∀ j, j < J → ¬ 30 < v j) ∧ (J = K ∨ 30 < v J)
  | 0 => ⟨0, Nat.le_refl _, fun j h => by omega, .inl rfl⟩
  | K + 1 => by
    obtain ⟨J, h1, h2, h3⟩ := stop_big v K
    by_cases h : 30 < v J
    · exact ⟨J, by omega, h2, .inr h⟩
    · rcases h3 with rfl | h3
      · exact ⟨J + 1, Nat.le_refl _, fun j hj => by
          by_cases e : j = J
          · rw [e]; exact h
          · exact h2 j (by omega), .inl rfl⟩
      · exact absurd h3 h
set_option maxRecDepth 100000 in
set_option maxHeartbeats 8000000 in
theorem small_all (c : Cl) : ∃ b, SmN c b := by
  by_cases h1 : 20 < c.fs.length
  · refine ⟨false, fun N w pf cf pb cb hv hN => ?_⟩
    have hlf := hv.fs.rowOf.choose_spec.choose_spec.choose_spec.2.hl
    rw [List.length_map] at hlf
    simp only [byt] at hlf
    have F0 := Blk.new w [.string c.nm, .string c.par, .slice pf c.fs.length cf, .slice pb c.bs.length cb] 25
    have c2 := F0.c 2 _ rfl
    have c3 := F0.c 3 _ rfl
    have HB := Lib.hid (ba w (.cells #[.string c.nm, .string c.par, .slice pf c.fs.length cf, .slice pb c.bs.length cb] 25))
    have d1 : decide ((20 : Int) < c.fs.length) = true := decide_eq_true (by omega)
    generalize c.fs.length = K at *
    generalize c.bs.length = M at *
    clear F0 hv h1
    go_enter Tryz.func9, Tryz.ntmps9
    go_wp2
    go_ret
    exact ⟨rfl, HB.out⟩
  · by_cases h2 : 20 < c.bs.length
    · refine ⟨false, fun N w pf cf pb cb hv hN => ?_⟩
      have hlb := hv.bs.rowOf.choose_spec.choose_spec.choose_spec.2.hl
      rw [List.length_map] at hlb
      simp only [byt] at hlb
      have F0 := Blk.new w [.string c.nm, .string c.par, .slice pf c.fs.length cf, .slice pb c.bs.length cb] 25
      have c2 := F0.c 2 _ rfl
      have c3 := F0.c 3 _ rfl
      have HB := Lib.hid (ba w (.cells #[.string c.nm, .string c.par, .slice pf c.fs.length cf, .slice pb c.bs.length cb] 25))
      have d1 : decide ((20 : Int) < c.fs.length) = false := decide_eq_false (by omega)
      have d2 : decide ((20 : Int) < c.bs.length) = true := decide_eq_true (by omega)
      generalize c.fs.length = K at *
      generalize c.bs.length = M at *
      clear F0 hv h1 h2
      go_enter Tryz.func9, Tryz.ntmps9
      go_wp2
      go_ret
      exact ⟨rfl, HB.out⟩
    · obtain ⟨v, hvv⟩ := find_big c.bs
      obtain ⟨J, hJ1, hJ2, hJ3⟩ := stop_big v c.bs.length
      refine ⟨decide (J = c.bs.length), fun N w pf cf pb cb hv hN => ?_⟩
      obtain ⟨_, _, Gb, eb, rb⟩ := hv.bs.rowOf
      rw [List.length_map] at eb
      cases eb
      have RB := Lib.hid rb
      have HV := Lib.hid hvv
      have H2 := Lib.hid hJ2
      have H3 := Lib.hid hJ3
      obtain ⟨K, hK⟩ : ∃ K, c.fs.length = K := ⟨_, rfl⟩
      obtain ⟨M, hM⟩ : ∃ K, c.bs.length = K := ⟨_, rfl⟩
      have HM := Lib.hid hM
      rw [hM] at h2 hJ1 H3 ⊢
      rw [hK] at h1 ⊢
      have F0 := Blk.new w [.string c.nm, .string c.par, .slice pf K cf, .slice pb M cb] 25
      have HF := Lib.hid F0
      have c2 := F0.c 2 _ rfl
      have c3 := F0.c 3 _ rfl
      have HB := Lib.hid (ba w (.cells #[.string c.nm, .string c.par, .slice pf K cf, .slice pb M cb] 25))
      have d1 : decide ((20 : Int) < K) = false := decide_eq_false (by omega)
      have d2 : decide ((20 : Int) < M) = false := decide_eq_false (by omega)
      clear F0 hv hvv hJ2 hJ3 rb hK hM
      go_enter Tryz.func9, Tryz.ntmps9
      go_wp2
      go_loopw [3] (fun i wr => ∃ j : Nat, j ≤ J ∧ i = .int .i64 j ∧ Hid (Below w.heap.size w wr) ∧ Hid (Blk wr w.heap.size [.string c.nm, .string c.par, .slice pf K cf, .slice pb M cb])) (fun i _ => J + 1 - (intOf i).toNat)
      case atStart => exact ⟨0, Nat.zero_le _, rfl, HB, HF⟩
      case round =>
        clear c2 c3 d1 d2
        obtain ⟨j, hj, rfl, BW, BK⟩ := hrel
        have c2 := BK.out.c 2 _ rfl
        have c3 := BK.out.c 3 _ rfl
        by_cases hjM : j < M
        · obtain ⟨y, hy⟩ : ∃ y, c.bs[j]? = some y := ⟨_, List.getElem?_eq_getElem (by rw [HM.out]; exact hjM)⟩
          obtain ⟨b, off, pi, ci, rfl, hb, f0, f1, hsz, hat⟩ := (RB.out.under (BW.out.mono hN)).bk hy
          have VC := Lib.hid (HV.out j y hy N wr pi ci hat (Nat.le_trans hN BW.out.size))
          clear hy hb hat f0
          by_cases hlt : j < J
          · have hn : ¬ 30 < v j := by have := H2.out j hlt; omega
            generalize v j = q at *
            go_wp2_with (go_at_call 29; ((with_reducible refine VC.out.mono ?_); rintro e w5 ⟨rfl, m5, rfl⟩))
            go_roundw
            case rel => exact ⟨j + 1, by omega, by go_num, Lib.hid (drewB BW.out), Lib.hid (BK.out.stay dB)⟩
            case measure => simp [intOf]; omega
          · have hjJ : j = J := by omega
            have hn : 30 < v j := by
              rw [hjJ]
              rcases H3.out with h | h
              · omega
              · omega
            have E : Hid (false = decide (J = M)) := Lib.hid (decide_eq_false (by omega)).symm
            clear hjJ hlt
            generalize v j = q at *
            go_wp2_with (go_at_call 29; ((with_reducible refine VC.out.mono ?_); rintro e w5 ⟨rfl, m5, rfl⟩))
            go_ret
            exact tBool_mk E.out (drewB BW.out)
        · have E : Hid (true = decide (J = M)) := Lib.hid (decide_eq_true (by omega)).symm
          go_wp2
          go_ret
          exact tBool_mk E.out BW.out
theorem small_fn (src : List Cl) : ∃ b : Nat → Bool, ∀ (i : Nat) (c : Cl), src[i]? = some c → SmN c (b i) := by
  have h : ∀ i : Nat, ∃ b, ∀ c : Cl, src[i]? = some c → SmN c b := by
    intro i
    cases hy : src[i]? with
    | none => exact ⟨true, fun y h => by cases h⟩
    | some y =>
      obtain ⟨v, hv⟩ := small_all y
      exact ⟨v, fun z h => by cases h; exact hv⟩
  exact ⟨fun i => Classical.choose (h i), fun i => Classical.choose_spec (h i)⟩
theorem stop_few (b : Nat → Bool) : ∀ K : Nat, ∃ J, J ≤ K ∧ (∀ j, j < J → b j = true) ∧ (J = K ∨ b J = false)
  | 0 => ⟨0, Nat.le_refl _, fun j h => by omega, .inl rfl⟩
  | K + 1 => by
    obtain ⟨J, h1, h2, h3⟩ := stop_few b K
    cases h : b J with
    | false => exact ⟨J, by omega, h2, .inr h⟩
    | true =>
      rcases h3 with rfl | h3
      · exact ⟨J + 1, Nat.le_refl _, fun j hj => by
          by_cases e : j = J
          · rw [e]; exact h
          · exact h2 j (by omega), .inl rfl⟩
      · rw [h] at h3; cases h3
set_option maxRecDepth 100000 in
set_option maxHeartbeats 8000000 in
/-- few: some truth. -/
theorem few_more (src : List Cl) (p : Option Addr) (cap : Nat) (G : Nat → Nat → Value) (N : Nat) (w : World) (ha : RowA (Lo N) w .classes p cap G (src.map Cl.lf)) (hN : N ≤ w.heap.size) :
    ∃ b, (b = true → src.length ≤ 40) ∧ Calls Tryz.prog 17 #[.slice p src.length cap] w (tBool b w) := by
  obtain ⟨v, hv⟩ := small_fn src
  have hl := ha.hl
  rw [List.length_map] at hl
  simp only [byt] at hl
  have HA := Lib.hid ha
  have HV := Lib.hid hv
  obtain ⟨K, hK⟩ : ∃ K, src.length = K := ⟨_, rfl⟩
  have HK := Lib.hid hK
  rw [hK] at hl ⊢
  obtain ⟨J, hJ1, hJ2, hJ3⟩ := stop_few v (min K 41)
  have H2 := Lib.hid hJ2
  have H3 := Lib.hid hJ3
  have HB0 := Lib.hid (Below.refl w.heap.size w)
  have hJK : J ≤ K := by omega
  have hJ41 : J ≤ 41 := by omega
  clear ha hv hK hJ1 hJ2 hJ3
  refine ⟨decide (J = min K 41) && decide (K ≤ 40), fun h => of_decide_eq_true (Bool.and_eq_true_iff.1 h).2, ?_⟩
  go_enter Tryz.func17, Tryz.ntmps17
  go_wp2
  go_loopw [3] (fun i wr => ∃ j : Nat, j ≤ J ∧ i = .int .i64 j ∧ Hid (Below w.heap.size w wr)) (fun i _ => J + 1 - (intOf i).toNat)
  case atStart => exact ⟨0, Nat.zero_le _, rfl, HB0⟩
  case round =>
    obtain ⟨j, hj, rfl, BW⟩ := hrel
    by_cases hjK : j < K
    · by_cases hj4 : j < 41
      · obtain ⟨c, hc⟩ : ∃ c, src[j]? = some c := ⟨_, List.getElem?_eq_getElem (by rw [HK.out]; exact hjK)⟩
        obtain ⟨b, off, pf, cf, pb, cb, rfl, hb, c0, c1, c2, c3, hcv⟩ := (HA.out.under (BW.out.mono hN)).cl hc
        have VC := Lib.hid (HV.out j c hc N wr pf cf pb cb hcv (Nat.le_trans hN BW.out.size))
        clear hc hcv hb
        by_cases hlt : j < J
        · rw [H2.out j hlt] at VC
          go_wp2_with (go_at_call 9; ((with_reducible refine VC.out.mono ?_); rintro e w5 ⟨rfl, hb5⟩; have HB5 := Lib.hid (BW.out.then_ hb5); clear hb5))
          go_roundw
          case rel => exact ⟨j + 1, by omega, by go_num, HB5⟩
          case measure => simp [intOf]; omega
        · have hv0 : v j = false := by
            rcases H3.out with h | h
            · omega
            · rw [show j = J by omega]; exact h
          have E : Hid (false = (decide (J = min K 41) && decide (K ≤ 40))) := Lib.hid (by rw [decide_eq_false (by omega)]; rfl)
          rw [hv0] at VC
          clear hv0
          go_wp2_with (go_at_call 9; ((with_reducible refine VC.out.mono ?_); rintro e w5 ⟨rfl, hb5⟩; have HB5 := Lib.hid (BW.out.then_ hb5); clear hb5))
          go_ret
          exact tBool_mk E.out HB5.out
      · have E : Hid (decide ((K : Int) ≤ 40) = (decide (J = min K 41) && decide (K ≤ 40))) := Lib.hid (by rw [decide_eq_false (p := (K : Int) ≤ 40) (by omega), decide_eq_false (p := K ≤ 40) (by omega), Bool.and_false])
        go_wp2
        go_ret
        exact tBool_mk E.out BW.out
    · have E : Hid (decide ((K : Int) ≤ 40) = (decide (J = min K 41) && decide (K ≤ 40))) := Lib.hid (by
        by_cases h : K ≤ 40
        · rw [decide_eq_true (p := (K : Int) ≤ 40) (by omega), decide_eq_true h, decide_eq_true (by omega)]; rfl
        · rw [decide_eq_false (p := (K : Int) ≤ 40) (by omega), decide_eq_false h, Bool.and_false])
      go_wp2
      go_ret
      exact tBool_mk E.out BW.out
theorem few_any (src : List Cl) (p : Option Addr) (cap : Nat) (G : Nat → Nat → Value) (N : Nat) (w : World) (ha : RowA (Lo N) w .classes p cap G (src.map Cl.lf)) (hN : N ≤ w.heap.size) :
    ∃ b, Calls Tryz.prog 17 #[.slice p src.length cap] w (tBool b w) := by
  obtain ⟨b, _, h⟩ := few_more src p cap G N w ha hN
  exact ⟨b, h⟩
end Go.Proofs.YtoigjeoncdfdmaaGreatDoor.ClW
