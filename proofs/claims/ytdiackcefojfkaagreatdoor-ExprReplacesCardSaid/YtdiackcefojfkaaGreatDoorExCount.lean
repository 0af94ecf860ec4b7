/-
  What the law's count, Few, number and variable return.
-/
import Derived.Test.YtdiackcefojfkaaGreatDoorExFault
import Derived.Test.YtdiackcefojfkaaGreatDoorExBuild
namespace Go.Proofs.YtdiackcefojfkaaGreatDoor.ExW
open Go Go.RowKit Go.Proofs.YtdiackcefojfkaaGreatDoor.NumM Go.Proofs.YtdiackcefojfkaaGreatDoor.LexW Go.Proofs.YtdiackcefojfkaaGreatDoor.LexM Go.Proofs.YtdiackcefojfkaaGreatDoor.ExM

set_option maxRecDepth 100000 in
set_option maxHeartbeats 4000000 in
theorem count_any (e : Ex) : ∀ (N n : Nat) (w : World) (v : Value), n ≤ 1000 → ExAt N w v e → N ≤ w.heap.size → Calls Tryz.prog 38 #[v, .int .i64 n] w (tInt (min (sz e) (n + 1) : Nat) w) := by
  induction e using Ex.ind with
  | h o num s ks ih =>
    intro N n w v hn hx hN
    obtain ⟨p, cap, pl, cl, rfl, hs, ha⟩ := hx.form
    simp only [Ex.op, Ex.n, Ex.nm, Ex.args] at hs ha ⊢
    have hkl := ha.hl
    obtain ⟨K, hK⟩ : ∃ K, ks.length = K := ⟨_, rfl⟩
    have HK := Lib.hid hK
    rw [hK] at hkl ⊢
    have HA := Lib.hid ha
    have HIH := Lib.hid ih
    have four := Four.new w (.int .i64 o) (.int .i64 num) (.string s) (.slice p K cap) 24
    have c3 := four.c3
    have HF := Lib.hid four
    have HB0 : Hid (Below w.heap.size w (w.alloc (.cells #[.int .i64 o, .int .i64 num, .string s, .slice p K cap] 24))) := Lib.hid ((Below.refl _ _).alloc (Nat.le_refl _) _)
    have HSZ := Lib.hid (sz_mk o num s ks)
    clear ha ih hx four hK
    go_enter Tryz.func38, Tryz.ntmps38
    go_wp2
    go_loopw [5, 6] (fun k i wr => ∃ j : Nat, j ≤ K ∧ i = .int .i64 j ∧ (∃ c : Nat, k = .int .i64 c ∧ c ≤ n + 1 ∧ Hid (c = min (1 + szs (ks.take j)) (n + 1))) ∧ Hid (Below w.heap.size w wr) ∧ Hid (Four wr w.heap.size (.int .i64 o) (.int .i64 num) (.string s) (.slice p K cap))) (fun _ i _ => K - (intOf i).toNat)
    case atStart => exact ⟨0, Nat.zero_le _, rfl, ⟨1, rfl, by omega, Lib.hid (by rw [List.take_zero, szs_nil]; omega)⟩, HB0, HF⟩
    case round =>
      obtain ⟨j, hj, rfl, ⟨c, rfl, hc, CC⟩, BW, FW⟩ := hrel
      clear c3
      have d3 := FW.out.c3
      by_cases hlt : j < K
      · by_cases hcn : c ≤ n
        · obtain ⟨b, off, rfl, hbs, hcell⟩ := HA.out.hp (by rw [HK.out]; omega)
          obtain ⟨a, hak⟩ : ∃ a, ks[j]? = some a := ⟨_, List.getElem?_eq_getElem (by rw [HK.out]; exact hlt)⟩
          obtain ⟨q0, q1, q2, q3⟩ := hcell j a hak
          have hbw : Below N w wr := BW.out.mono hN
          have ca0 : wr.cell? ⟨b, off + j * 4, none⟩ = some (.int .i64 a.op) := by rw [hbw.cell hbs]; exact q0
          have ca1 : wr.cell? ⟨b, off + j * 4 + 1, none⟩ = some (.int .i64 a.n) := by rw [hbw.cell hbs]; exact q1
          have ca2 : wr.cell? ⟨b, off + j * 4 + 2, none⟩ = some (.string a.nm) := by rw [hbw.cell hbs]; exact q2
          have ca3 : wr.cell? ⟨b, off + j * 4 + 3, none⟩ = some (.slice (pl j) a.args.length (cl j)) := by rw [hbw.cell hbs]; exact q3
          have hxa := HA.out.hx j a hak
          have AC := HIH.out a (List.mem_of_getElem? hak) N (n - c) wr _ (by omega) (hxa.under hbw) (by have := BW.out.size; omega)
          rw [show ((n - c : Nat) : Int) = (n : Int) - (c : Int) by omega] at AC
          obtain ⟨m, hm⟩ : ∃ m, min (sz a) (n - c + 1) = m := ⟨_, rfl⟩
          rw [hm] at AC
          have hm2 : m ≤ n - c + 1 := by omega
          have C2 : Hid (c + m = min (1 + szs (ks.take (j + 1))) (n + 1)) := Lib.hid (by rw [szs_take hak, ← hm]; have := CC.out; omega)
          obtain ⟨ao, hao⟩ : ∃ x, a.op = x := ⟨_, rfl⟩
          obtain ⟨an, han⟩ : ∃ x, a.n = x := ⟨_, rfl⟩
          obtain ⟨am, ham⟩ : ∃ x, a.nm = x := ⟨_, rfl⟩
          obtain ⟨ak, hka⟩ : ∃ x, a.args.length = x := ⟨_, rfl⟩
          obtain ⟨ap, hap⟩ : ∃ x, pl j = x := ⟨_, rfl⟩
          obtain ⟨ac, hac⟩ : ∃ x, cl j = x := ⟨_, rfl⟩
          rw [hao] at ca0 AC
          rw [han] at ca1 AC
          rw [ham] at ca2 AC
          rw [hka, hap, hac] at ca3 AC
          have AC := Lib.hid AC
          clear hcell q0 q1 q2 q3 hbw hxa hak hao han ham hka hap hac hm
          have hcn' : (c : Int) ≤ (n : Int) := by omega
          go_wp2_with (go_at_call 38; ((with_reducible refine AC.out.mono ?_); rintro e w5 ⟨rfl, hb⟩; have HB5 := Lib.hid (BW.out.then_ hb); have HF5 := Lib.hid (FW.out.stay hb); clear hb))
          go_roundw
          case rel => exact ⟨j + 1, by omega, by go_num, ⟨c + m, by rw [Int.natCast_add], by omega, C2⟩, HB5, HF5⟩
          case measure => simp [intOf]; omega
        · have EE : Hid ((c : Int) = ((min (sz (.mk o num s ks)) (n + 1) : Nat) : Int)) := Lib.hid (by
            rw [HSZ.out]
            have := szs_take_le j ks
            have := CC.out
            omega)
          have hcn' : ¬ (c : Int) ≤ (n : Int) := by omega
          go_wp2
          go_ret
          exact tInt_mk EE.out BW.out
      · have EE : Hid ((c : Int) = ((min (sz (.mk o num s ks)) (n + 1) : Nat) : Int)) := Lib.hid (by
          rw [HSZ.out]
          have h1 := CC.out
          rw [List.take_of_length_le (by rw [HK.out]; omega)] at h1
          omega)
        go_wp2
        go_ret
        exact tInt_mk EE.out BW.out
set_option maxHeartbeats 2000000 in
theorem few_any (e : Ex) (N n : Nat) (w : World) (v : Value) (hn : n ≤ 1000) (hx : ExAt N w v e) (hN : N ≤ w.heap.size) : Calls Tryz.prog 11 #[v, .int .i64 n] w (tBool (decide (sz e ≤ n)) w) := by
  have hb1 : ∀ o, Below w.heap.size w (w.alloc o) := fun o => (Below.refl _ _).alloc (Nat.le_refl _) _
  have CC := Lib.hid (fun o => count_any e N n (w.alloc o) v hn (hx.under ((hb1 o).mono hN)) (by have := (hb1 o).size; omega))
  have HB1 := Lib.hid hb1
  obtain ⟨p, cap, pl, cl, rfl, hs, ha⟩ := hx.form
  have EE : Hid (decide (sz e ≤ n) = decide (((min (sz e) (n + 1) : Nat) : Int) ≤ (n : Int))) := Lib.hid (by rw [decide_eq_decide]; omega)
  have four := Four.new w (.int .i64 e.op) (.int .i64 e.n) (.string e.nm) (.slice p e.args.length cap) 24
  have c0 := four.c0
  have c1 := four.c1
  have c2 := four.c2
  have c3 := four.c3
  rw [EE.out]
  clear hx ha hb1 four EE hs
  have hmin : ((min (sz e) (n + 1) : Nat) : Int) ≤ 1001 := by omega
  have hmin0 : (0 : Int) ≤ ((min (sz e) (n + 1) : Nat) : Int) := by omega
  generalize ((min (sz e) (n + 1) : Nat) : Int) = m at *
  go_enter Tryz.func11, Tryz.ntmps11
  go_wp2_with (go_at_call 38; ((with_reducible refine (CC.out _).mono ?_); rintro e w5 ⟨rfl, hb⟩; have HB5 := Lib.hid ((HB1.out _).then_ hb); clear hb))
  go_ret
  exact tBool_mk rfl HB5.out
theorem number_any (n : Int) (w : World) : Calls Tryz.prog 39 #[.int .i64 n] w fun e w' => e = .returned (xv 1 n ⟨#[]⟩ (.slice none 0 0)) ∧ Below w.heap.size w w' := by
  have f5 := Four.new w (.int .i64 1) (.int .i64 n) (.string ⟨#[]⟩) (.slice none 0 0) 24
  have p0 := f5.c0
  have p1 := f5.c1
  have p2 := f5.c2
  have p3 := f5.c3
  clear f5
  go_enter Tryz.func39, Tryz.ntmps39
  go_wp2
  refine bodyPost_ret (v := xv 1 n ⟨#[]⟩ (.slice none 0 0)) (by simp [results, Tryz.results39, go_sem, p0, p1, p2, p3]) rfl ⟨rfl, (Below.refl _ _).alloc (Nat.le_refl _) _⟩
theorem variableL_any (s : ByteArray) (w : World) : Calls Tryz.prog 35 #[.string s] w fun e w' => e = .returned (xv 2 0 s (.slice none 0 0)) ∧ Below w.heap.size w w' := by
  have f5 := Four.new w (.int .i64 2) (.int .i64 0) (.string s) (.slice none 0 0) 24
  have p0 := f5.c0
  have p1 := f5.c1
  have p2 := f5.c2
  have p3 := f5.c3
  clear f5
  go_enter Tryz.func35, Tryz.ntmps35
  go_wp2
  refine bodyPost_ret (v := xv 2 0 s (.slice none 0 0)) (by simp [results, Tryz.results35, go_sem, p0, p1, p2, p3]) rfl ⟨rfl, (Below.refl _ _).alloc (Nat.le_refl _) _⟩
end Go.Proofs.YtdiackcefojfkaaGreatDoor.ExW
