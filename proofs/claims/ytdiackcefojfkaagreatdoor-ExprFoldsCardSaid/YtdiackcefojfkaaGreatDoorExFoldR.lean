/-
  What the reference's fold and Fold return.
-/
import Derived.Test.YtdiackcefojfkaaGreatDoorExKids
import Derived.Test.YtdiackcefojfkaaGreatDoorExSubst
namespace Go.Proofs.YtdiackcefojfkaaGreatDoor.ExW
open Go Go.RowKit Go.«Sort» Go.Proofs.YtdiackcefojfkaaGreatDoor.NumM Go.Proofs.YtdiackcefojfkaaGreatDoor.LexW Go.Proofs.YtdiackcefojfkaaGreatDoor.LexM Go.Proofs.YtdiackcefojfkaaGreatDoor.ExM

theorem ex_val {S : Nat → Prop} {w : World} {v : Value} {e : Ex} (h : ExS S w v e) : ∃ p cap, v = xv e.op e.n e.nm (.slice p e.args.length cap) ∧ e.nm.size ≤ 140737488351232 := by
  obtain ⟨p, cap, h1, h2, _⟩ := h.form
  exact ⟨p, cap, h1, h2⟩
theorem foldN_yes {o n : Int} {s : ByteArray} {ks : List Ex} (ha : asksB o = false) (hc : ks.all isC = true) : foldN o n s ks = .mk 1 (opS o (ks.map Ex.n)) ⟨#[]⟩ [] := by
  unfold foldN; rw [if_pos (by rw [ha, hc]; rfl)]
theorem foldN_no {o n : Int} {s : ByteArray} {ks : List Ex} (h : (!asksB o && ks.all isC) = false) : foldN o n s ks = .mk o n s ks := by
  unfold foldN; rw [if_neg (by rw [h]; simp)]
theorem take_map {ks : List Ex} {k : Nat} {a : Ex} (f : Ex → Ex) (h : ks[k]? = some a) : (ks.take (k + 1)).map f = (ks.take k).map f ++ [f a] := by
  obtain ⟨hk, he⟩ := List.getElem?_eq_some_iff.1 h
  rw [List.take_succ_eq_append_getElem hk, List.map_append, he]; rfl
theorem all_snoc (xs : List Ex) (a : Ex) : (xs ++ [a]).all isC = (xs.all isC && isC a) := by rw [List.all_append]; simp
theorem map_snoc (xs : List Ex) (a : Ex) : (xs ++ [a]).map (fun x => Value.int .i64 x.n) = xs.map (fun x => Value.int .i64 x.n) ++ [.int .i64 a.n] := by rw [List.map_append]; rfl
theorem four_below {W W' : World} {g : Nat} {x0 x1 x2 x3 : Value} (h : Four W g x0 x1 x2 x3) (hb : Below W.heap.size W W') : Four W' g x0 x1 x2 x3 := h.stay hb
theorem fold_step6 {lo g6 j : Nat} {wr w5 w6 : World} {va vo : Value} {xs : List Ex} {pl : Nat → Option Addr} {cl : Nat → Nat} {A I : Obj} {ints : List Value} (KD : KidsP 0 lo vo.ownBlock wr va xs pl cl) (OW : wr.ownsRow lo 3 1 vo j ints) (hb : Below wr.heap.size wr w5)
    (hg : ((w5.alloc A).alloc I).grownBy w6 vo.ownBlock) (hat : vo.ownBlock = some g6 ∨ g6 = ((w5.alloc A).alloc I).heap.size) : KidsP 0 lo (some g6) w6 va xs pl cl := by
  have hb2 : Below wr.heap.size wr ((w5.alloc A).alloc I) := (hb.then_ ((Below.refl _ _).alloc (Nat.le_refl _) _)).then_ ((Below.refl _ _).alloc (Nat.le_refl _) _)
  have K := KD.later (Nat.zero_le _) hb2
  exact K.turn (Nat.zero_le _) hg (fun b e e2 => own_apart (row_later OW hb2) K.row (by decide) b e2 e) (fun b e => .inl e) (fun b e => by cases e; exact hat)
theorem fold_four6 {lo G j : Nat} {wr w5 w6 : World} {vo x0 x1 x2 x3 : Value} {A I : Obj} {ints : List Value} (F : Four wr G x0 x1 x2 x3) (OW : wr.ownsRow lo 3 1 vo j ints) (hG : G < lo) (hb : Below wr.heap.size wr w5)
    (hg : ((w5.alloc A).alloc I).grownBy w6 vo.ownBlock) : Four w6 G x0 x1 x2 x3 :=
  four_grown (((F.stay hb).alloc A).alloc I) hg (fun e => by have := (own_lt OW _ e.symm).1; omega)
theorem fold_new6 {lo j : Nat} {wr w5 w6 : World} {vo x0 x1 x2 x3 : Value} {A I : Obj} {ints : List Value} (F : Four (w5.alloc A) w5.heap.size x0 x1 x2 x3) (OW : wr.ownsRow lo 3 1 vo j ints) (hb : Below wr.heap.size wr w5)
    (hg : ((w5.alloc A).alloc I).grownBy w6 vo.ownBlock) : Four w6 w5.heap.size x0 x1 x2 x3 :=
  four_grown (F.alloc I) hg (fun e => by have := (own_lt OW _ e.symm).2.1; have := hb.size; omega)
/-- Behind a round: the worlds are the call's (w5), the first append's (w6), the second one's (w7). -/
theorem fold_round {lo G g6 k6 g7 k7 j base : Nat} {w wr w5 w6 w7 : World} {va vo : Value} {xs : List Ex} {x : Ex} {p5 : Option Addr} {k5 : Nat} {pl : Nat → Option Addr} {cl : Nat → Nat} {A I C : Obj} {ints : List Value} {o n : Int} {s : ByteArray}
    (KD : KidsP 0 lo vo.ownBlock wr va xs pl cl) (OW : wr.ownsRow lo 3 1 vo j ints) (FO : Four wr G (.int .i64 o) (.int .i64 n) (.string s) va) (BW : Below base w wr) (hbase : base ≤ G) (hG : G < lo) (hl : lo ≤ wr.heap.size) (hb : Below wr.heap.size wr w5)
    (hf : ExS (Foot 0 wr.heap.size w5) w5 (xv x.op x.n x.nm (.slice p5 x.args.length k5)) x)
    (hown6 : w6.ownsRow lo 3 1 (.slice (some ⟨g6, 0, none⟩) (j + 1) k6) (j + 1) (ints ++ [.int .i64 x.n])) (hg6 : ((w5.alloc A).alloc I).grownBy w6 vo.ownBlock) (hat6 : vo.ownBlock = some g6 ∨ g6 = ((w5.alloc A).alloc I).heap.size)
    (hown7 : w7.ownsRow lo 24 4 (.slice (some ⟨g7, 0, none⟩) (xs.length + 1) k7) (xs.length + 1) (exCells pl cl 0 xs ++ [.int .i64 x.op, .int .i64 x.n, .string x.nm, .slice p5 x.args.length k5])) (hg7 : (w6.alloc C).grownBy w7 va.ownBlock) (hat7 : va.ownBlock = some g7 ∨ g7 = (w6.alloc C).heap.size) :
    (∃ pl2 cl2, KidsP 0 lo (some g6) (w7.setCell ⟨G, 3, none⟩ (.slice (some ⟨g7, 0, none⟩) (xs.length + 1) k7)) (.slice (some ⟨g7, 0, none⟩) (xs.length + 1) k7) (xs ++ [x]) pl2 cl2) ∧
      (w7.setCell ⟨G, 3, none⟩ (.slice (some ⟨g7, 0, none⟩) (xs.length + 1) k7)).ownsRow lo 3 1 (.slice (some ⟨g6, 0, none⟩) (j + 1) k6) (j + 1) (ints ++ [.int .i64 x.n]) ∧
      Four (w7.setCell ⟨G, 3, none⟩ (.slice (some ⟨g7, 0, none⟩) (xs.length + 1) k7)) G (.int .i64 o) (.int .i64 n) (.string s) (.slice (some ⟨g7, 0, none⟩) (xs.length + 1) k7) ∧
      Below base w (w7.setCell ⟨G, 3, none⟩ (.slice (some ⟨g7, 0, none⟩) (xs.length + 1) k7)) ∧
      (∀ b x0 x1 x2 x3, b < G → Four wr b x0 x1 x2 x3 → Four (w7.setCell ⟨G, 3, none⟩ (.slice (some ⟨g7, 0, none⟩) (xs.length + 1) k7)) b x0 x1 x2 x3) := by
  have hvo := fun b e => own_lt OW b e
  have hva := fun b e => own_lt KD.row b e
  have s5 := hb.size
  have sO := FO.lt
  have hbA : Below w5.heap.size w5 ((w5.alloc A).alloc I) := ((Below.refl _ _).alloc (Nat.le_refl _) _).alloc (by simp) _
  have hbC : Below w6.heap.size w6 (w6.alloc C) := (Below.refl _ _).alloc (Nat.le_refl _) _
  have sA := hbA.size
  have s6 := hg6.size
  have sC := hbC.size
  have K6 := fold_step6 KD OW hb hg6 hat6
  have K6c := K6.later (Nat.zero_le _) hbC
  have hl6 : lo ≤ (w6.alloc C).heap.size := by omega
  have kid2 := kid_to (lo := lo) (g6 := g6) hf hbA hg6 hbC hl (fun b e => (hvo b e).2.1) (fun b e => (hva b e).2.1) hat6
  obtain ⟨pl3, cl3, K7⟩ := K6c.snoc (Nat.zero_le _) hl6 kid2 hown7 hg7 hat7
  have l7 := own_lt hown7 g7 rfl
  have l6 := own_lt hown6 g6 rfl
  refine ⟨⟨pl3, cl3, K7.turn (row := some G) (Nat.zero_le _) (grownBy_set _ _ _ _) (fun b e e2 => ?_) (fun b e => .inr ⟨Nat.zero_le _, by cases e; exact hG⟩) (fun b e => .inl e)⟩, ?_, ?_, ?_, ?_⟩
  · cases e2
    have := own_lt hown7 G e
    omega
  · refine own_grown (own_grown (row_later hown6 hbC) hg7 (fun b e e2 => own_apart (row_later hown6 hbC) K6c.row (by decide) b e e2)) (grownBy_set _ _ _ _) (fun b e e2 => ?_)
    cases e2
    have := own_lt hown6 G e
    omega
  · exact (four_grown ((fold_four6 FO OW hG hb hg6).alloc C) hg7 (fun e => by have := (hva _ e.symm).1; omega)).set3 _
  · refine Below.setCell (p := ⟨G, 3, none⟩) ?_ hbase _
    refine Below.grown (w := w6.alloc C) ?_ hg7 (by omega) (fun k e => by have := (hva k e).1; omega)
    refine Below.trans (Below.grown (w := (w5.alloc A).alloc I) ((BW.trans (hb.mono (by omega))).trans (hbA.mono (by omega))) hg6 (by omega) (fun k e => by have := (hvo k e).1; omega)) (hbC.mono (by omega))
  · intro b x0 x1 x2 x3 hbG h
    exact (four_grown ((fold_four6 h OW (by omega) hb hg6).alloc C) hg7 (fun e => by have := (hva _ e.symm).1; omega)).far (by omega)
set_option maxRecDepth 100000 in
set_option maxHeartbeats 16000000 in
theorem foldR_any (e : Ex) : ∀ (N : Nat) (w : World) (v : Value), ExAt N w v e → N ≤ w.heap.size → Ok e → Calls Tryz.prog 51 #[v] w (tFo 0 (fo e) w) := by
  induction e using Ex.ind with
  | h o num s ks ih =>
    intro N w v hx hN hok
    obtain ⟨p, cap, pl, cl, rfl, hs, ha⟩ := hx.form
    simp only [Ex.op, Ex.n, Ex.nm, Ex.args] at hs ha ⊢
    rw [ok_mk] at hok
    have hK33 : ks.length ≤ 33 := kids33' hok.1
    rw [fo_mk]
    obtain ⟨i0, hi, hz0, hz1, hz2⟩ := info_parts infoInt
    obtain ⟨j0, gi, gz0, gz1, gz2⟩ := info_parts infoE
    obtain ⟨K, hK⟩ : ∃ K, ks.length = K := ⟨_, rfl⟩
    have HK := Lib.hid hK
    rw [hK] at hK33 ⊢
    clear hK
    have FB0 := (Four.new w (.int .i64 o) (.int .i64 num) (.string s) (.slice p K cap) 24).alloc (.cells #[.int .i64 0, .int .i64 0, .string ⟨#[]⟩, .slice none 0 0] 24)
    have FR0 := Four.new (w.alloc (.cells #[.int .i64 o, .int .i64 num, .string s, .slice p K cap] 24)) (.int .i64 0) (.int .i64 0) (.string ⟨#[]⟩) (.slice none 0 0) 24
    rw [World.size_alloc] at FR0
    have c0 := FB0.c0
    have c1 := FB0.c1
    have c2 := FB0.c2
    have FB1 := FB0.alloc (.cells #[.int .i64 o, .int .i64 num, .string s, .slice none 0 0] 24)
    have FR1 := FR0.alloc (.cells #[.int .i64 o, .int .i64 num, .string s, .slice none 0 0] 24)
    have FO1 := Four.new ((w.alloc (.cells #[.int .i64 o, .int .i64 num, .string s, .slice p K cap] 24)).alloc (.cells #[.int .i64 0, .int .i64 0, .string ⟨#[]⟩, .slice none 0 0] 24)) (.int .i64 o) (.int .i64 num) (.string s) (.slice none 0 0) 24
    simp only [World.size_alloc] at FO1 FR1 FR0
    have HFB := Lib.hid FB1
    have HFR := Lib.hid FR1
    have HFO := Lib.hid FO1
    have HB0 : Hid (Below w.heap.size w (((w.alloc (.cells #[.int .i64 o, .int .i64 num, .string s, .slice p K cap] 24)).alloc (.cells #[.int .i64 0, .int .i64 0, .string ⟨#[]⟩, .slice none 0 0] 24)).alloc (.cells #[.int .i64 o, .int .i64 num, .string s, .slice none 0 0] 24))) := Lib.hid ((((Below.refl _ _).alloc (Nat.le_refl _) _).alloc (by simp) _).alloc (by simp; omega) _)
    have HA := Lib.hid ha
    have HIH := Lib.hid ih
    have HOK := Lib.hid hok
    have HS := Lib.hid hs
    have c3' := FB1.c3
    clear FB0 FR0 FB1 FR1 FO1 ha ih hok hx hs
    go_enter Tryz.func51, Tryz.ntmps51
    go_wp2
    go_loopw [4, 5, 6] (fun al vo i wr => ∃ j : Nat, j ≤ K ∧ i = .int .i64 j ∧ al = .bool (((ks.take j).map fo).all isC) ∧ (∃ va, Hid (Four wr (w.heap.size + 1 + 1) (.int .i64 o) (.int .i64 num) (.string s) va) ∧ Hid (∃ pl2 cl2, KidsP 0 (w.heap.size + 1 + 1 + 1) vo.ownBlock wr va ((ks.take j).map fo) pl2 cl2)) ∧ Hid (wr.ownsRow (w.heap.size + 1 + 1 + 1) 3 1 vo j (((ks.take j).map fo).map (fun x => Value.int .i64 x.n))) ∧ Hid (Below w.heap.size w wr) ∧ Hid (Four wr w.heap.size (.int .i64 o) (.int .i64 num) (.string s) (.slice p K cap)) ∧ Hid (Four wr (w.heap.size + 1) (.int .i64 0) (.int .i64 0) (.string ⟨#[]⟩) (.slice none 0 0))) (fun _ _ i _ => K - (intOf i).toNat)
    case atStart => exact ⟨0, Nat.zero_le _, rfl, rfl, ⟨.slice none 0 0, HFO, Lib.hid ⟨_, _, KidsP.nil _ _ _ _⟩⟩, Lib.hid (by rw [List.take_zero]; exact World.ownsRow_nil _ _ _ _), HB0, HFB, HFR⟩
    case round =>
      obtain ⟨j, hj, rfl, rfl, ⟨va, FO, KP⟩, OW, BW, FB, FR⟩ := hrel
      clear c0 c1 c2 c3'
      have d3 := FB.out.c3
      by_cases hlt : j < K
      · obtain ⟨b, off, rfl, hbs, hcell⟩ := HA.out.hp (by rw [HK.out]; omega)
        obtain ⟨a, hak⟩ : ∃ a, ks[j]? = some a := ⟨_, List.getElem?_eq_getElem (by rw [HK.out]; exact hlt)⟩
        obtain ⟨q0, q1, q2, q3⟩ := hcell j a hak
        have hbw : Below N w wr := BW.out.mono hN
        have ca0 : wr.cell? ⟨b, off + j * 4, none⟩ = some (.int .i64 a.op) := by rw [hbw.cell hbs]; exact q0
        have ca1 : wr.cell? ⟨b, off + j * 4 + 1, none⟩ = some (.int .i64 a.n) := by rw [hbw.cell hbs]; exact q1
        have ca2 : wr.cell? ⟨b, off + j * 4 + 2, none⟩ = some (.string a.nm) := by rw [hbw.cell hbs]; exact q2
        have ca3 : wr.cell? ⟨b, off + j * 4 + 3, none⟩ = some (.slice (pl j) a.args.length (cl j)) := by rw [hbw.cell hbs]; exact q3
        have hxa := HA.out.hx j a hak
        have VC := HIH.out a (List.mem_of_getElem? hak) N wr _ (hxa.under hbw) (by have := BW.out.size; omega) (HOK.out.2 a (List.mem_of_getElem? hak))
        have TM := take_map fo hak
        obtain ⟨xs, hxs⟩ : ∃ xs, (ks.take j).map fo = xs := ⟨_, rfl⟩
        have hxl : xs.length = j := by rw [← hxs, List.length_map, List.length_take, HK.out]; omega
        rw [hxs] at TM KP OW ⊢
        obtain ⟨x, hx⟩ : ∃ x, fo a = x := ⟨_, rfl⟩
        rw [hx] at TM VC
        have HTM := Lib.hid TM
        have HXL := Lib.hid hxl
        have hx33 : xs.length ≤ 33 := by omega
        obtain ⟨pl2, cl2, kd⟩ := KP.out
        have KD := Lib.hid kd
        obtain ⟨ao, hao⟩ : ∃ x, a.op = x := ⟨_, rfl⟩
        obtain ⟨an, han⟩ : ∃ x, a.n = x := ⟨_, rfl⟩
        obtain ⟨am, ham⟩ : ∃ x, a.nm = x := ⟨_, rfl⟩
        obtain ⟨ak, hka⟩ : ∃ x, a.args.length = x := ⟨_, rfl⟩
        obtain ⟨ap, hap⟩ : ∃ x, pl j = x := ⟨_, rfl⟩
        obtain ⟨ac, hac⟩ : ∃ x, cl j = x := ⟨_, rfl⟩
        rw [hao] at ca0 VC
        rw [han] at ca1 VC
        rw [ham] at ca2 VC
        rw [hka, hap, hac] at ca3 VC
        have VC := Lib.hid VC
        have hlo3 := BW.out.size
        have hgl := FO.out.lt
        clear hcell q0 q1 q2 q3 hbw hxa hak hao han ham hka hap hac TM hx hxs hxl kd
        have hG := FO.out.lt
        have hvo := fun b e => own_lt OW.out b e
        have hva := fun b e => own_lt KD.out.row b e
        have HVO := Lib.hid hvo
        have HVA := Lib.hid hva
        clear hvo hva
        obtain ⟨al, hal⟩ : ∃ al, xs.all isC = al := ⟨_, rfl⟩
        have HAL : Hid ((xs ++ [x]).all isC = (al && isC x)) := Lib.hid (by rw [all_snoc, hal])
        rw [hal]
        clear hal
        cases al
        all_goals
          go_wp2_with (first
            | (go_at_call 51; ((with_reducible refine VC.out.mono ?_); rintro e w5 ⟨v5, rfl, hf5, hb5⟩; obtain ⟨p5, k5, rfl, hs5⟩ := ex_val hf5; have fA := Four.new w5 (.int .i64 x.op) (.int .i64 x.n) (.string x.nm) (.slice p5 x.args.length k5) 24; have a0 := fA.c0; have a1 := fA.c1; have HFA := Lib.hid fA; have HF5 := Lib.hid hf5; have HB5 := Lib.hid hb5; clear fA hf5 hb5))
            | (at_builtin; (refine wpList_append_lies _ rfl _ _ 64 rfl (w.heap.size + 1 + 1 + 1) 3 i0 (.int .i64 0) 1 8 Tryz.underlying64 hi hz0 hz1 hz2 rfl (by decide) _ j _ rfl (((row_later OW.out HB5.out).alloc _).alloc _) ⟨w5.heap.size + 1, 0, none⟩ 1 1 [.int .i64 x.n] rfl rfl (by exact cell_one_at (by simp) _ _) (by simp [Value.oneCell']) (by omega) (by unfold maxLen; omega) (by omega) (by have := HB5.out.size; simp; omega) _ rfl ?_); intro g6 k6 w6 hown' hgrow hat _; have HO6 := Lib.hid hown'; have HG6 := Lib.hid hgrow; have HT6 := Lib.hid hat; have HK6 := Lib.hid (fold_step6 KD.out OW.out HB5.out hgrow hat); have F6 := fold_four6 FO.out OW.out (by omega) HB5.out hgrow; have FA6 := fold_new6 HFA.out OW.out HB5.out hgrow; have f63 := F6.c3; clear a0 a1; have a0 := FA6.c0; have a1 := FA6.c1; have a2 := FA6.c2; have a3 := FA6.c3; have HF6 := Lib.hid F6; clear hown' hgrow hat F6 FA6)
            | (at_builtin; (refine wpList_append_lies _ rfl _ _ 22 rfl (w.heap.size + 1 + 1 + 1) 24 j0 (.agg #[.int .i64 0, .int .i64 0, .string ⟨#[]⟩, .slice none 0 0]) 4 56 Tryz.underlying22 gi gz0 gz1 gz2 rfl (by decide) _ xs.length _ rfl (HK6.out.row.alloc _) ⟨w6.heap.size, 0, none⟩ 1 1 [.int .i64 x.op, .int .i64 x.n, .string x.nm, .slice p5 x.args.length k5] rfl rfl (by exact cell_four_at rfl _ _ _ _ _) (one_four _ _ _ _ _ _) (by omega) (by unfold maxLen; omega) (by omega) (by have := HF6.out.lt; simp; omega) _ rfl ?_); intro g7 k7 w7 hown' hgrow hat _; have HO7 := Lib.hid hown'; have HG7 := Lib.hid hgrow; have HT7 := Lib.hid hat; have F7 := four_grown (HF6.out.alloc (.cells #[.int .i64 x.op, .int .i64 x.n, .string x.nm, .slice p5 x.args.length k5] 24)) hgrow (fun e => by have := (HVA.out _ e.symm).1; omega); have f73 := F7.c3; have z73 := F7.f3; have HF7 := Lib.hid F7; clear hown' hgrow hat F7))
          obtain ⟨hk, ho, hfo, hbw, hfour⟩ := fold_round KD.out OW.out FO.out BW.out (by omega) (by omega) (by omega) HB5.out HF5.out HO6.out HG6.out HT6.out HO7.out HG7.out HT7.out
          have HKF := Lib.hid hk
          have HOF := Lib.hid ho
          have HFF := Lib.hid hfo
          have HBF := Lib.hid hbw
          have HB4 := Lib.hid (hfour _ _ _ _ _ (by omega) FB.out)
          have HR4 := Lib.hid (hfour _ _ _ _ _ (by omega) FR.out)
          clear hk ho hfo hbw hfour
          go_roundw
          case rel => exact ⟨j + 1, by omega, by go_num, by rw [HTM.out, HAL.out]; rfl, ⟨_, HFF, Lib.hid (by rw [HTM.out]; exact HKF.out)⟩, Lib.hid (by rw [HTM.out, map_snoc]; exact HOF.out), HBF, HB4, HR4⟩
          case measure => simp [intOf]; omega
      · have hjK : ks.take j = ks := List.take_of_length_le (by rw [HK.out]; omega)
        have hjk : j = K := by omega
        subst hjk
        rw [hjK] at KP OW ⊢
        have hE' : Ok (.mk o num s (ks.map fo)) := by
          rw [ok_mk]
          refine ⟨by rw [List.length_map]; exact HOK.out.1, fun a ha => ?_⟩
          obtain ⟨b, hb, rfl⟩ := List.mem_map.1 ha
          exact fo_ok b (HOK.out.2 b hb)
        have hlen : (ks.map fo).length = j := by rw [List.length_map]; exact HK.out
        obtain ⟨fs, hfs⟩ : ∃ fs, ks.map fo = fs := ⟨_, rfl⟩
        have HFS := Lib.hid hfs
        rw [hfs] at KP OW hE' hlen ⊢
        obtain ⟨pl2, cl2, kd⟩ := KP.out
        obtain ⟨vq, vk, vc, rfl⟩ := own_slice kd.row
        have f0 := FO.out.c0
        have f1 := FO.out.c1
        have f2 := FO.out.c2
        have f3 := FO.out.c3
        have b0 := FB.out.c0
        have r0 := FR.out.f0
        have r1 := FR.out.f1
        have r2 := FR.out.f2
        have r3 := FR.out.f3
        have y0 := FR.out.c0
        have y1 := FR.out.c1
        have y2 := FR.out.c2
        have y3 := FR.out.c3
        have hws := BW.out.size
        have hgl := FO.out.lt
        have AC : Hid (∀ W, Calls Tryz.prog 70 #[.int .i64 o] W fun e w' => e = .returned (.bool (asksB o)) ∧ W = w') := Lib.hid fun W => asks_any o W
        have HKD := Lib.hid kd
        have HEO := Lib.hid hE'
        have HLEN := Lib.hid hlen
        clear kd hE' hlen hfs hjK
        have NO : Hid ((!asksB o && fs.all isC) = false → ∀ W, W = ((((wr.setCell ⟨w.heap.size + 1, 0, none⟩ (.int .i64 o)).setCell ⟨w.heap.size + 1, 1, none⟩ (.int .i64 num)).setCell ⟨w.heap.size + 1, 2, none⟩ (.string s)).setCell ⟨w.heap.size + 1, 3, none⟩ (.slice vq vk vc)) → tFo 0 (foldN o num s fs) w (.returned (xv o num s (.slice vq vk vc))) W) := Lib.hid (by
          rintro hno W rfl
          refine ⟨_, rfl, ?_, below_put BW.out (by omega) _ _ _ _⟩
          rw [foldN_no hno]
          have h := HKD.out.done (lo' := w.heap.size + 1 + 1 + 1) (o := o) (n := num) (s := s) HS.out (by rw [HLEN.out]; omega) (Nat.le_refl _)
          exact ((((h.set (g := w.heap.size + 1) (Nat.zero_le _) (by omega) (Nat.zero_le _)).set (g := w.heap.size + 1) (Nat.zero_le _) (by omega) (Nat.zero_le _)).set (g := w.heap.size + 1) (Nat.zero_le _) (by omega) (Nat.zero_le _)).set (g := w.heap.size + 1) (Nat.zero_le _) (by omega) (Nat.zero_le _)).weak (fun b hb => hb.up (by omega) (Nat.le_refl _)))
        cases hc : fs.all isC
        · have NO2 := Lib.hid (NO.out (by rw [hc]; simp))
          clear NO hc
          go_wp2
          have hp := FR.out.put (.int .i64 o) (.int .i64 num) (.string s) (.slice vq vk vc)
          have p0 := hp.c0
          have p1 := hp.c1
          have p2' := hp.c2
          have p3 := hp.c3
          refine bodyPost_ret (v := xv o num s (.slice vq vk vc)) (by simp [results, Tryz.results51, go_sem, p0, p1, p2', p3]) rfl ?_
          rw [HFS.out]
          exact NO2.out _ rfl
        · cases hq : asksB o
          · rw [hq] at AC
            have hwd : Wd (fs.map Ex.n) := wd_consts ((ok_mk _ _ _ _).1 HEO.out).2 hc
            have hln : (fs.map Ex.n).length = j := by rw [List.length_map]; exact HLEN.out
            have htk : takesS o (fs.map Ex.n).length = true := by rw [List.length_map]; exact flt_takes ((ok_mk _ _ _ _).1 HEO.out).1
            have OW2 : wr.ownsRow (w.heap.size + 1 + 1 + 1) 3 1 u5 (fs.map Ex.n).length ((fs.map Ex.n).map (Value.int .i64)) := by
              rw [hln, List.map_map]; exact OW.out
            obtain ⟨q, cp, rfl, hcp, hg⟩ := ints_own OW2
            obtain ⟨g, rfl, hgi⟩ := hg (takes_pos htk hq)
            have OC := operate_any o (fs.map Ex.n) g cp wr hgi hwd htk hq
            rw [hln] at OC ⊢
            have OC := Lib.hid OC
            have EE := Lib.hid (foldN_yes (n := num) (s := s) hq hc)
            clear hwd hln htk OW2 hg hgi hcp hq hc NO OW
            generalize opS o (fs.map Ex.n) = y at *
            go_wp2_with (first
              | (go_at_call 70; ((with_reducible refine (AC.out _).mono ?_); rintro e w5 ⟨rfl, rfl⟩))
              | (go_at_call 72; ((with_reducible refine OC.out.mono ?_); rintro e w5 ⟨rfl, hb⟩; have F5 := FR.out.stay hb; clear r0 r1 r2 r3 y0 y1 y2 y3; have r0 := F5.f0; have r1 := F5.f1; have r2 := F5.f2; have r3 := F5.f3; have y0 := F5.c0; have y1 := F5.c1; have y2 := F5.c2; have y3 := F5.c3; have HF5 := Lib.hid F5; have HB5 := Lib.hid (BW.out.then_ hb); clear hb F5)))
            have hp := HF5.out.put (.int .i64 1) (.int .i64 y) (.string ⟨#[]⟩) (.slice none 0 0)
            have p0 := hp.c0
            have p1 := hp.c1
            have p2' := hp.c2
            have p3 := hp.c3
            refine bodyPost_ret (v := xv 1 y ⟨#[]⟩ (.slice none 0 0)) (by simp [results, Tryz.results51, go_sem, p0, p1, p2', p3]) rfl ?_
            rw [HFS.out, EE.out]
            exact ⟨_, rfl, ExS.leaf (s := ⟨#[]⟩) (by decide), below_put HB5.out (by omega) _ _ _ _⟩
          · rw [hq] at AC
            have NO2 := Lib.hid (NO.out (by rw [hq]; rfl))
            clear NO hc hq
            go_wp2_with (go_at_call 70; ((with_reducible refine (AC.out _).mono ?_); rintro e w5 ⟨rfl, rfl⟩))
            have hp := FR.out.put (.int .i64 o) (.int .i64 num) (.string s) (.slice vq vk vc)
            have p0 := hp.c0
            have p1 := hp.c1
            have p2' := hp.c2
            have p3 := hp.c3
            refine bodyPost_ret (v := xv o num s (.slice vq vk vc)) (by simp [results, Tryz.results51, go_sem, p0, p1, p2', p3]) rfl ?_
            rw [HFS.out]
            exact NO2.out _ rfl
set_option maxRecDepth 100000 in
set_option maxHeartbeats 8000000 in
theorem foldRef_any (e : Ex) (v : Value) (w : World) (hx : ExAt w.heap.size w v e) (hsz : sz e ≤ 10000) : Calls Tryz.prog 31 #[v] w (fun x w' => ∃ u, x = .returned u ∧ ExAt w'.heap.size w' u (foldS e) ∧ Below w.heap.size w w') := by
  obtain ⟨p, cap, pl, cl, rfl, hs, _⟩ := hx.form
  have hb1 : Below w.heap.size w ((w.alloc (.cells #[.int .i64 e.op, .int .i64 e.n, .string e.nm, .slice p e.args.length cap] 24)).alloc (.cells #[.int .i64 0, .int .i64 0, .string ⟨#[]⟩, .slice none 0 0] 24)) := ((Below.refl _ _).alloc (Nat.le_refl _) _).alloc (by simp) _
  have four1 := (Four.new w (.int .i64 e.op) (.int .i64 e.n) (.string e.nm) (.slice p e.args.length cap) 24).alloc (.cells #[.int .i64 0, .int .i64 0, .string ⟨#[]⟩, .slice none 0 0] 24)
  have four2 := Four.new (w.alloc (.cells #[.int .i64 e.op, .int .i64 e.n, .string e.nm, .slice p e.args.length cap] 24)) (.int .i64 0) (.int .i64 0) (.string ⟨#[]⟩) (.slice none 0 0) 24
  rw [World.size_alloc] at four2
  have hws := hb1.size
  simp only [World.size_alloc] at hws
  have VC := Lib.hid (validR_any e _ _ ((hx.under hb1).wide (by simp only [World.size_alloc]; omega)) hsz)
  have HX := Lib.hid hx
  have HB1 := Lib.hid hb1
  have HF1 := Lib.hid four1
  have HF2 := Lib.hid four2
  have d0 := four1.c0
  have d1 := four1.c1
  have d2 := four1.c2
  have d3 := four1.c3
  by_cases hv : vld e = 0
  · have CC : Hid (∀ W, Below w.heap.size w W → Calls Tryz.prog 51 #[xv e.op e.n e.nm (.slice p e.args.length cap)] W (tFo 0 (fo e) W)) := Lib.hid fun W hb => foldR_any e _ W _ (HX.out.under hb) hb.size ((vld_zero e).1 hv).1
    have EE : Hid (foldS e = fo e) := Lib.hid (if_pos hv)
    rw [hv] at VC
    rw [EE.out]
    clear hx hs hb1 four1 four2 hv hsz EE
    generalize fo e = E at *
    generalize e.op = o at *
    generalize e.n = n at *
    generalize e.nm = s at *
    generalize e.args.length = K at *
    go_enter Tryz.func31, Tryz.ntmps31
    go_wp2_with (first
      | (go_at_call 25; ((with_reducible refine VC.out.mono ?_); rintro e w2 ⟨rfl, hb⟩; have f4 := HF1.out.stay hb; have s0 := f4.c0; have s1 := f4.c1; have s2 := f4.c2; have s3 := f4.c3; have HF4 := Lib.hid (HF2.out.stay hb); have HB2 := Lib.hid (HB1.out.then_ hb); clear d0 d1 d2 d3 f4 hb))
      | (go_at_call 51; ((with_reducible refine (CC.out _ HB2.out).mono ?_); rintro e w3 ⟨v3, rfl, hfr, hb⟩; obtain ⟨p3, c3, rfl, hs3⟩ := ex_val hfr; have f5 := HF4.out.stay hb; have u4 := f5.f0; have u5 := f5.f1; have u6 := f5.f2; have u7 := f5.f3; have u0 := f5.c0; have u1 := f5.c1; have u2 := f5.c2; have u3 := f5.c3; have HF5 := Lib.hid f5; have HFR := Lib.hid hfr; have hl3 := HF4.out.lt; have HB3 := Lib.hid (HB2.out.then_ hb); clear f5 hfr hb)))
    have hp := HF5.out.put (.int .i64 E.op) (.int .i64 E.n) (.string E.nm) (.slice p3 E.args.length c3)
    have p0 := hp.c0
    have p1 := hp.c1
    have p2' := hp.c2
    have p3' := hp.c3
    refine bodyPost_ret (v := xv E.op E.n E.nm (.slice p3 E.args.length c3)) (by simp [results, Tryz.results31, go_sem, p0, p1, p2', p3']) rfl ⟨_, rfl, ?_, below_put HB3.out (by omega) _ _ _ _⟩
    exact tFo.at_ (N := 0) (w := w2) ((((HFR.out.set (g := w.heap.size + 1) (Nat.zero_le _) (by omega) (Nat.zero_le _)).set (g := w.heap.size + 1) (Nat.zero_le _) (by omega) (Nat.zero_le _)).set (g := w.heap.size + 1) (Nat.zero_le _) (by omega) (Nat.zero_le _)).set (g := w.heap.size + 1) (Nat.zero_le _) (by omega) (Nat.zero_le _)) (Nat.zero_le _)
  · have EE : Hid (foldS e = e) := Lib.hid (if_neg hv)
    have h0 := vld_ne hv
    rw [EE.out]
    clear hx hs hb1 four1 four2 hv hsz EE
    generalize vld e = vv at *
    generalize e.op = o at *
    generalize e.n = n at *
    generalize e.nm = s at *
    generalize e.args.length = K at *
    go_enter Tryz.func31, Tryz.ntmps31
    go_wp2_with (go_at_call 25; ((with_reducible refine VC.out.mono ?_); rintro ee w2 ⟨rfl, hb⟩; have f4 := HF1.out.stay hb; have s0 := f4.c0; have s1 := f4.c1; have s2 := f4.c2; have s3 := f4.c3; have f5 := HF2.out.stay hb; have u4 := f5.f0; have u5 := f5.f1; have u6 := f5.f2; have u7 := f5.f3; have u0 := f5.c0; have u1 := f5.c1; have u2 := f5.c2; have u3 := f5.c3; have HF4 := Lib.hid f5; have HB2 := Lib.hid (HB1.out.then_ hb); clear d0 d1 d2 d3 f4 f5 hb))
    have hp := HF4.out.put (.int .i64 o) (.int .i64 n) (.string s) (.slice p K cap)
    have p0 := hp.c0
    have p1 := hp.c1
    have p2' := hp.c2
    have p3' := hp.c3
    have hbp := below_put HB2.out (show w.heap.size ≤ w.heap.size + 1 by omega) (.int .i64 o) (.int .i64 n) (.string s) (.slice p K cap)
    refine bodyPost_ret (v := xv o n s (.slice p K cap)) (by simp [results, Tryz.results31, go_sem, p0, p1, p2', p3']) rfl ⟨_, rfl, (HX.out.under hbp).wide hbp.size, hbp⟩
end Go.Proofs.YtdiackcefojfkaaGreatDoor.ExW
