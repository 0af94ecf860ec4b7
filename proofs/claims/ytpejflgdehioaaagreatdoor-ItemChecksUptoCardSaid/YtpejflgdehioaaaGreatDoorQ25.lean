/-
  Laws that the card uses; no conditions beside those that each states (ExSameR ExKids ItNds ItSpl ItRFld).
-/
import Derived.Test.YtpejflgdehioaaaGreatDoorQ13
import Derived.Test.YtpejflgdehioaaaGreatDoorQ21
namespace Go.Proofs.YtpejflgdehioaaaGreatDoor.ExW
open Go Go.RowKit Go.Proofs.YtpejflgdehioaaaGreatDoor.NumM Go.Proofs.YtpejflgdehioaaaGreatDoor.LexW Go.Proofs.YtpejflgdehioaaaGreatDoor.LexM Go.Proofs.YtpejflgdehioaaaGreatDoor.ExM
open Go.«Sort»
theorem ne_of_beq {a b : Int} {x : Bool} (h : (a == b) = x) : (a != b) = !x := by rw [bne, h]
set_option maxRecDepth 100000 in
set_option maxHeartbeats 16000000 in
theorem sameR_any (a : Ex) : ∀ (b : Ex) (N : Nat) (w : World) (va vb : Value), ExAt N w va a → ExAt N w vb b → N ≤ w.heap.size → sz a ≤ 10000 → Calls Tryz.prog 28 #[va, vb] w (tBool (eqB a b) w) := by
  induction a using Ex.ind with
  | h o n s ks ih =>
    intro b N w va vb hx hy hN hsz; obtain ⟨o', n', s', ks'⟩ := b; obtain ⟨p, cap, pl, cl, rfl, hs, ha⟩ := hx.form; obtain ⟨p', cap', pl', cl', rfl, hs', hb⟩ := hy.form; simp only [Ex.op, Ex.n, Ex.nm, Ex.args] at hs ha hs' hb ⊢; rw [sz_mk] at hsz; have hl := len_szs ks; have hk : ks.length ≤ 10000 := (by omega); have hk' := hb.hl; have EE := Lib.hid (eqB_mk o n s ks o' n' s' ks'); have hb1 : Below w.heap.size w ((w.alloc (.cells #[.int .i64 o, .int .i64 n, .string s, .slice p ks.length cap] 43)).alloc (.cells #[.int .i64 o', .int .i64 n', .string s', .slice p' ks'.length cap'] 43)) := ((Below.refl _ _).alloc (Nat.le_refl _) _).alloc (by simp) _; have FA := (Four.new w (.int .i64 o) (.int .i64 n) (.string s) (.slice p ks.length cap) 43).alloc (.cells #[.int .i64 o', .int .i64 n', .string s', .slice p' ks'.length cap'] 43); have FB := Four.new (w.alloc (.cells #[.int .i64 o, .int .i64 n, .string s, .slice p ks.length cap] 43)) (.int .i64 o') (.int .i64 n') (.string s') (.slice p' ks'.length cap') 43; rw [World.size_alloc] at FB; have HB1 := Lib.hid hb1; have HIH : Hid (∀ a ∈ ks, ∀ b ∈ ks', ∀ W va vb, Below w.heap.size w W → ExAt N W va a → ExAt N W vb b → Calls Tryz.prog 28 #[va, vb] W (tBool (eqB a b) W)) := (Lib.hid fun a ha' b hb' W va vb hW hxa hxb => ih a ha' b N W va vb hxa hxb (by have := hW.size; omega) (by have := sz_mem ha'; omega)); have HA := Lib.hid ha; have HB := Lib.hid hb; clear ha hb hx hy ih hb1 hs hs' hsz hl; obtain ⟨K, hK⟩ : ∃ K, ks.length = K := ⟨_, rfl⟩; obtain ⟨K', hK'⟩ : ∃ K', ks'.length = K' := ⟨_, rfl⟩; have HK := Lib.hid hK; have HK' := Lib.hid hK'; rw [hK] at HB1 FA FB hk ⊢; rw [hK'] at HB1 FA FB hk' ⊢; clear hK hK'; have e0 := FA.c0; have e1 := FA.c1; have e2 := FA.c2; have e3 := FA.c3; have g0 := FB.c0; have g1 := FB.c1; have g2 := FB.c2; have g3 := FB.c3; have HFA := Lib.hid FA; have HFB := Lib.hid FB; clear FA FB; by_cases hall : (o == o') = true ∧ (n == n') = true ∧ (s.toList == s'.toList) = true ∧ K = K'
    · obtain ⟨h1, h2, h3, rfl⟩ := hall; have HL : Hid (eqB (.mk o n s ks) (.mk o' n' s' ks') = eqL ks ks') := Lib.hid (by rw [EE.out, h1, h2, h3]; rfl); have i1 := ne_of_beq h1; have i2 := ne_of_beq h2; clear EE
      go_enter Tryz.func28, Tryz.ntmps28
      go_wp2; go_loopw [5] (fun i wr => ∃ j : Nat, j ≤ K ∧ i = .int .i64 j ∧ Hid (∀ (i : Nat) (x y : Ex), i < j → ks[i]? = some x → ks'[i]? = some y → eqB x y = true) ∧ Hid (Below w.heap.size w wr) ∧ Hid (Four wr w.heap.size (.int .i64 o) (.int .i64 n) (.string s) (.slice p K cap)) ∧ Hid (Four wr (w.heap.size + 1) (.int .i64 o') (.int .i64 n') (.string s') (.slice p' K cap'))) (fun i _ => K - (intOf i).toNat)
      case atStart => exact ⟨0, Nat.zero_le _, rfl, Lib.hid (fun i _ _ h => by omega), HB1, HFA, HFB⟩
      case round =>
        obtain ⟨j, hj, rfl, AL, BW, FA, FB⟩ := hrel; clear e0 e1 e2 e3 g0 g1 g2 g3; have e3 := FA.out.c3; have g3 := FB.out.c3; by_cases hlt : j < K
        · obtain ⟨b, off, rfl, hbs, hcell⟩ := HA.out.hp (by rw [HK.out]; omega); obtain ⟨b', off', rfl, hbs', hcell'⟩ := HB.out.hp (by rw [HK'.out]; omega); obtain ⟨a, hak⟩ : ∃ a, ks[j]? = some a := ⟨_, List.getElem?_eq_getElem (by rw [HK.out]; exact hlt)⟩; obtain ⟨d, hdk⟩ : ∃ d, ks'[j]? = some d := ⟨_, List.getElem?_eq_getElem (by rw [HK'.out]; exact hlt)⟩; obtain ⟨q0, q1, q2, q3⟩ := hcell j a hak; obtain ⟨r0, r1, r2, r3⟩ := hcell' j d hdk; have hbw : Below N w wr := BW.out.mono hN; have ca0 : wr.cell? ⟨b, off + j * 4, none⟩ = some (.int .i64 a.op) := (by rw [hbw.cell hbs]; exact q0); have ca1 : wr.cell? ⟨b, off + j * 4 + 1, none⟩ = some (.int .i64 a.n) := (by rw [hbw.cell hbs]; exact q1); have ca2 : wr.cell? ⟨b, off + j * 4 + 2, none⟩ = some (.string a.nm) := (by rw [hbw.cell hbs]; exact q2); have ca3 : wr.cell? ⟨b, off + j * 4 + 3, none⟩ = some (.slice (pl j) a.args.length (cl j)) := (by rw [hbw.cell hbs]; exact q3); have cb0 : wr.cell? ⟨b', off' + j * 4, none⟩ = some (.int .i64 d.op) := (by rw [hbw.cell hbs']; exact r0); have cb1 : wr.cell? ⟨b', off' + j * 4 + 1, none⟩ = some (.int .i64 d.n) := (by rw [hbw.cell hbs']; exact r1); have cb2 : wr.cell? ⟨b', off' + j * 4 + 2, none⟩ = some (.string d.nm) := (by rw [hbw.cell hbs']; exact r2); have cb3 : wr.cell? ⟨b', off' + j * 4 + 3, none⟩ = some (.slice (pl' j) d.args.length (cl' j)) := (by rw [hbw.cell hbs']; exact r3); have hxa := HA.out.hx j a hak; have hxb := HB.out.hx j d hdk; have HCA : ∀ W, Below wr.heap.size wr W → Calls Tryz.prog 28 #[xv a.op a.n a.nm (.slice (pl j) a.args.length (cl j)), xv d.op d.n d.nm (.slice (pl' j) d.args.length (cl' j))] W (tBool (eqB a d) W) := (fun W hb => HIH.out a (List.mem_of_getElem? hak) d (List.mem_of_getElem? hdk) W _ _ (BW.out.then_ hb) ((hxa.under hbw).under (hb.mono (by have := BW.out.size; omega))) ((hxb.under hbw).under (hb.mono (by have := BW.out.size; omega)))); have HAK := Lib.hid hak; have HDK := Lib.hid hdk; obtain ⟨v, hv⟩ : ∃ v, eqB a d = v := ⟨_, rfl⟩; have HV := Lib.hid hv; rw [hv] at HCA; obtain ⟨ao, hao⟩ : ∃ x, a.op = x := ⟨_, rfl⟩; obtain ⟨an, han⟩ : ∃ x, a.n = x := ⟨_, rfl⟩; obtain ⟨am, ham⟩ : ∃ x, a.nm = x := ⟨_, rfl⟩; obtain ⟨ak, hka⟩ : ∃ x, a.args.length = x := ⟨_, rfl⟩; obtain ⟨ap, hap⟩ : ∃ x, pl j = x := ⟨_, rfl⟩; obtain ⟨ac, hac⟩ : ∃ x, cl j = x := ⟨_, rfl⟩; obtain ⟨bo, hbo⟩ : ∃ x, d.op = x := ⟨_, rfl⟩; obtain ⟨bn, hbn⟩ : ∃ x, d.n = x := ⟨_, rfl⟩; obtain ⟨bm, hbm⟩ : ∃ x, d.nm = x := ⟨_, rfl⟩; obtain ⟨bk, hbk⟩ : ∃ x, d.args.length = x := ⟨_, rfl⟩; obtain ⟨bp, hbp⟩ : ∃ x, pl' j = x := ⟨_, rfl⟩; obtain ⟨bc, hbc⟩ : ∃ x, cl' j = x := ⟨_, rfl⟩; rw [hao] at ca0 HCA; rw [han] at ca1 HCA; rw [ham] at ca2 HCA; rw [hka, hap, hac] at ca3 HCA; rw [hbo] at cb0 HCA; rw [hbn] at cb1 HCA; rw [hbm] at cb2 HCA; rw [hbk, hbp, hbc] at cb3 HCA; have EC := reB (v := .bool v) HCA; have m1 := cell_regrown e3; have m2 := cell_regrown g3; have m3 := cell_regrown ca0; have m4 := cell_regrown ca1; have m5 := cell_regrown ca2; have m6 := cell_regrown ca3; have m7 := cell_regrown cb0; have m8 := cell_regrown cb1; have m9 := cell_regrown cb2; have m10 := cell_regrown cb3; clear hcell q0 q1 q2 q3 hcell' r0 r1 r2 r3 hbw hak hdk hao han ham hka hap hac hbo hbn hbm hbk hbp hbc hxa hxb hv HCA; go_wp2; refine wp_region_quiet_below (by kernel_rfl) (by kernel_rfl) ?_; repeat (first | go_big_quiet_step (exact EC _ _) | quiet_step (exact EC _ _))
          refine wpQuiet_nil ?_; intro w4 hw'; obtain ⟨pq, hw''⟩ := hw'; have HX : Hid (Below wr.heap.size wr w4) := Lib.hid (by rw [hw'']; exact below_regrown _ _ _); clear hw'' m1 m2 m3 m4 m5 m6 m7 m8 m9 m10 EC e3 g3 ca0 ca1 ca2 ca3 cb0 cb1 cb2 cb3; cases v
          · go_wp2; go_ret; exact tBool_mk (by rw [HL.out]; exact (eqL_no HAK.out HDK.out HV.out).symm) (BW.out.then_ HX.out)
          · go_wp2; go_roundw
            case rel => exact ⟨j + 1, by omega, by go_num, Lib.hid (fun i x y hi hx hy => by
              rcases Nat.lt_or_ge i j with h | h
              · exact AL.out i x y h hx hy
              · obtain rfl : i = j := (by omega); rw [HAK.out] at hx; rw [HDK.out] at hy; cases hx; cases hy; exact HV.out), Lib.hid (BW.out.then_ HX.out), Lib.hid (FA.out.stay HX.out), Lib.hid (FB.out.stay HX.out)⟩
            case measure => simp [intOf]; omega
        · have AL2 := Lib.hid (eqL_yes (a := ks) (b := ks') (by rw [HK.out, HK'.out]) (fun i x y hi => AL.out i x y (by rw [HK.out] at hi; omega))); go_wp2; go_ret; exact tBool_mk (by rw [HL.out]; exact AL2.out.symm) BW.out
    · have HL : Hid (false = eqB (.mk o n s ks) (.mk o' n' s' ks')) := Lib.hid (by
        rw [EE.out]; cases h1 : (o == o')
        · rfl
        · cases h2 : (n == n')
          · rfl
          · cases h3 : (s.toList == s'.toList)
            · rfl
            · rw [eqL_len (by rw [HK.out, HK'.out]; intro h4; exact hall ⟨h1, h2, h3, h4⟩)]; rfl)
      have h5 : (o == o') = false ∨ ((o == o') = true ∧ (n == n') = false) ∨ ((o == o') = true ∧ (n == n') = true ∧ (s.toList == s'.toList) = false) ∨ ((o == o') = true ∧ (n == n') = true ∧ (s.toList == s'.toList) = true ∧ ((K : Int) == (K' : Int)) = false) := by
        cases h1 : (o == o')
        · exact .inl rfl
        · cases h2 : (n == n')
          · exact .inr (.inl ⟨rfl, rfl⟩)
          · cases h3 : (s.toList == s'.toList)
            · exact .inr (.inr (.inl ⟨rfl, rfl, rfl⟩))
            · exact .inr (.inr (.inr ⟨rfl, rfl, rfl, by rw [beq_eq_false_iff_ne]; intro h4; exact hall ⟨h1, h2, h3, by omega⟩⟩))
      clear hall EE; rcases h5 with h1 | ⟨h1, h2⟩ | ⟨h1, h2, h3⟩ | ⟨h1, h2, h3, h4⟩
      all_goals
        have i1 := ne_of_beq h1; try have i2 := ne_of_beq h2
        try have i4 := ne_of_beq h4
        go_enter Tryz.func28, Tryz.ntmps28
        go_wp2; go_ret; exact tBool_mk HL.out HB1.out
end Go.Proofs.YtpejflgdehioaaaGreatDoor.ExW
namespace Go.Proofs.YtpejflgdehioaaaGreatDoor.ExW
open Go Go.RowKit Go.Proofs.YtpejflgdehioaaaGreatDoor.NumM Go.Proofs.YtpejflgdehioaaaGreatDoor.LexW Go.Proofs.YtpejflgdehioaaaGreatDoor.LexM Go.Proofs.YtpejflgdehioaaaGreatDoor.ExM
theorem own_slice {w : World} {base : Nat} {e : TypeId} {size n : Nat} {v : Value} {xs : List Value} (h : w.ownsRow base e size v n xs) : ∃ q k c, v = .slice q k c := by
  rcases h.2 with ⟨rfl, _⟩ | ⟨g, cap, cur, rfl, _⟩
  · exact ⟨_, _, _, rfl⟩
  · exact ⟨_, _, _, rfl⟩
theorem one_four (o n : Int) (s : ByteArray) (p : Option Addr) (k c : Nat) : ∀ u ∈ ([.int .i64 o, .int .i64 n, .string s, .slice p k c] : List Value), u.oneCell' = true := by
  intro u hu; simp only [List.mem_cons, List.not_mem_nil, or_false] at hu; rcases hu with rfl | rfl | rfl | rfl <;> rfl
theorem cell_four_at {w : World} {B : Nat} (hB : w.heap.size = B) (x0 x1 x2 x3 : Value) (t : TypeId) : ∀ j u, [x0, x1, x2, x3][j]? = some u → (w.alloc (.cells #[x0, x1, x2, x3] t)).cell? ((⟨B, 0, none⟩ : Addr).add j) = some u := by
  subst hB; intro j u hj; have h := alloc_cells w #[x0, x1, x2, x3] t; have ea : (⟨w.heap.size, 0, none⟩ : Addr).add j = ⟨w.heap.size, j, none⟩ := (by unfold Addr.add; by_cases h0 : j = 0 <;> simp [h0]); rw [ea]; exact (h j u (by rw [List.getElem?_toArray]; exact hj)).1
end Go.Proofs.YtpejflgdehioaaaGreatDoor.ExW
namespace Go.Proofs.YtpejflgdehioaaaGreatDoor.ItW
open Go Go.RowKit Go.Proofs.YtpejflgdehioaaaGreatDoor.NumM Go.Proofs.YtpejflgdehioaaaGreatDoor.LexW Go.Proofs.YtpejflgdehioaaaGreatDoor.LexM Go.Proofs.YtpejflgdehioaaaGreatDoor.ExM Go.Proofs.YtpejflgdehioaaaGreatDoor.ExW Go.Proofs.YtpejflgdehioaaaGreatDoor.ItM
structure NdV where
  x : In
  p : Option Addr
  c : Nat
def ndC (y : NdV) : List Value := [.int .i64 y.x.op, .int .i64 y.x.n, .string y.x.nm, .slice y.p y.x.k y.c]
theorem ndC_len (y : NdV) : (ndC y).length = 4 := rfl
theorem grow_trans {A B C : World} {row row' : Option Nat} (h : A.grownBy B row) (k : B.grownBy C row') (hr : ∀ b, row' = some b → row = some b ∨ A.heap.size ≤ b) : A.grownBy C row :=
  ⟨k.os.trans h.os, k.tape.trans h.tape, k.output.trans h.output, Nat.le_trans h.size k.size, fun b hb hne => (k.block b (Nat.lt_of_lt_of_le hb h.size) (fun e => (hr b e.symm).elim (fun g => hne g.symm) (fun g => by omega))).trans (h.block b hb hne)⟩
theorem grow_none {A B : World} {row : Option Nat} (h : A.grownBy B none) : A.grownBy B row := ⟨h.os, h.tape, h.output, h.size, fun b hb _ => h.block b hb (by simp)⟩
def tGa (B : Nat) (M : List NdV) (v : Value) (L : List In) (W : World) (x : Ending) (w' : World) : Prop :=
  ∃ v' M2, x = .returned v' ∧ w'.ownsRow B 43 4 v' (M ++ M2).length ((M ++ M2).flatMap ndC) ∧ M2.map NdV.x = L ∧ W.grownBy w' v.ownBlock ∧ (∀ k, v'.ownBlock = some k → v.ownBlock = some k ∨ W.heap.size ≤ k)
theorem pres_szs (l : Nat) (ks : List Ex) : (pres l ks).length = szs ks := pres_len fun a _ => pre_len a l
set_option maxRecDepth 100000 in
set_option maxHeartbeats 8000000 in
theorem gatherR_any (e : Ex) : ∀ (N B : Nat) (M : List NdV) (v va : Value) (l : Nat) (W : World), ExAt N W va e → N ≤ B → B ≤ W.heap.size → W.ownsRow B 43 4 v M.length (M.flatMap ndC) → M.length + sz e ≤ 10000 →
    Calls Tryz.prog 153 #[v, va] W (tGa B M v (pre l e) W) := by
  induction e using Ex.ind with
  | h o n s ks ih =>
    intro N B M v va l W hx hNB hBW hown hsz; obtain ⟨p, cap, pl, cl, rfl, hs, ha⟩ := hx.form; have HIH := Lib.hid ih; have HA := Lib.hid ha; rw [sz_mk] at hsz; have HOL := Lib.hid (own_lt hown); obtain ⟨K, hK⟩ : ∃ K, ks.length = K := ⟨_, rfl⟩; have HK := Lib.hid hK
    change Calls Tryz.prog 153 #[v, xv o n s (.slice p ks.length cap)] W (tGa B M v (pre l (.mk o n s ks)) W)
    have hlk := len_szs ks; rw [hK] at hlk ⊢; have HPR : Hid (pre l (.mk o n s ks) = In.mk l o n s K :: pres (l + 1) ks) := Lib.hid (by rw [pre_mk, hK]); have hb1 := ba W (.cells #[.int .i64 o, .int .i64 n, .string s, .slice p K cap] 43); have hb2 := hb1.then_ (ba _ (.cells #[.int .i64 o, .int .i64 n, .string s, .slice p K cap] 43)); have B0 := (Blk.new W [.int .i64 o, .int .i64 n, .string s, .slice p K cap] 43); have c0 := B0.c 0 _ rfl; have c1 := B0.c 1 _ rfl; have c2 := B0.c 2 _ rfl; have c3 := B0.c 3 _ rfl; have B2 := B0.stay (ba _ (.cells #[.int .i64 o, .int .i64 n, .string s, .slice p K cap] 43)); have HN4 := Lib.hid (cell_four_at (w := W.alloc (.cells #[.int .i64 o, .int .i64 n, .string s, .slice p K cap] 43)) (World.size_alloc W _) (.int .i64 o) (.int .i64 n) (.string s) (.slice p K cap) 43); have hz2 : ((W.alloc (.cells #[.int .i64 o, .int .i64 n, .string s, .slice p K cap] 43)).alloc (.cells #[.int .i64 o, .int .i64 n, .string s, .slice p K cap] 43)).heap.size = W.heap.size + 1 + 1 := (by rw [World.size_alloc, World.size_alloc]); have HO2 := Lib.hid (own_later hown hb2); have HZ2 := Lib.hid hz2; have HB2 := Lib.hid hb2; have HB0 := Lib.hid B2; obtain ⟨i0, hi, iz0, iz1, iz2⟩ := info_parts infoE; clear hx hown ih ha hK hs hb1 hb2 B0 B2 hz2
    go_enter Tryz.func153, Tryz.ntmps153
    go_wp2_with (at_builtin; refine wpList_append_lies _ rfl _ _ 41 rfl B 43 i0 (.agg #[.int .i64 0, .int .i64 0, .string ⟨#[]⟩, .slice none 0 0]) 4 56 Tryz.underlying41 hi iz0 iz1 iz2 rfl (by decide) v M.length (M.flatMap ndC) rfl HO2.out ⟨W.heap.size + 1, 0, none⟩ 1 1 [.int .i64 o, .int .i64 n, .string s, .slice p K cap] rfl rfl HN4.out (one_four _ _ _ _ _ _) (by omega) (by unfold maxLen; omega) (by omega) (by rw [HZ2.out]; omega) _ HZ2.out ?_)
    intro g cp w3 hown hgr hat hlt; have hgr3 : W.grownBy w3 v.ownBlock := grow_trans (grow_none (grown_of_below HB2.out)) hgr (fun b e => .inl e); have hsz3 := hgr.size; rw [HZ2.out] at hsz3; have hgW : v.ownBlock = some g ∨ W.heap.size + 1 ≤ g := hat.imp (fun e => e) (fun e => by omega); have hgb : v.ownBlock ≠ some W.heap.size := (fun e => by have := (HOL.out _ e).2.1; omega); have F3 := Lib.hid (blk_eq HB0.out (hgr.block W.heap.size (by rw [HZ2.out]; omega) (fun e => hgb e.symm))); have OW3 : Hid (w3.ownsRow B 43 4 (.slice (some ⟨g, 0, none⟩) (M.length + 1) cp) (M ++ [NdV.mk (In.mk l o n s K) p cap]).length ((M ++ [NdV.mk (In.mk l o n s K) p cap]).flatMap ndC)) := Lib.hid (by
      rw [List.length_append, List.flatMap_append]; exact hown)
    have G3 := Lib.hid hgr3; have c3 := F3.out.c 3 _ rfl; clear hown hgr hat hlt hgr3 c0 c1 c2 hi iz0 iz1 iz2 HB2 HZ2 HN4 HO2 HB0; go_wp2; go_loopw [0, 5] (fun u i wr => ∃ (j : Nat) (Mj : List NdV), j ≤ K ∧ i = .int .i64 j ∧ Hid (wr.ownsRow B 43 4 u (M ++ Mj).length ((M ++ Mj).flatMap ndC)) ∧ Hid (Mj.map NdV.x = In.mk l o n s K :: pres (l + 1) (ks.take j)) ∧ Hid (W.grownBy wr v.ownBlock) ∧ Hid (∀ k, u.ownBlock = some k → v.ownBlock = some k ∨ W.heap.size + 1 ≤ k) ∧ Hid (Blk wr W.heap.size [.int .i64 o, .int .i64 n, .string s, .slice p K cap])) (fun _ i _ => K - (intOf i).toNat)
    case atStart => exact ⟨0, [NdV.mk (In.mk l o n s K) p cap], Nat.zero_le _, rfl, OW3, Lib.hid (by rw [List.take_zero, pres_nil]; rfl), G3, Lib.hid (fun k e => hgW.imp (fun h => by simp [Value.ownBlock] at e; rw [← e]; exact h) (fun h => by simp [Value.ownBlock] at e; omega)), F3⟩
    case round =>
      clear c3; obtain ⟨j, Mj, hj, rfl, OW, LW, GW, UW, FW⟩ := hrel; have c3 := FW.out.c 3 _ rfl; have hsW := GW.out.size; by_cases hlt : j < K
      · obtain ⟨a, hak⟩ : ∃ a, ks[j]? = some a := ⟨_, List.getElem?_eq_getElem (by rw [HK.out]; exact hlt)⟩; have hmem := List.mem_of_getElem? hak; have hA2 := HA.out.kept (w' := wr) (N' := N) (fun b o' hb u hu => (World.cell?_of_block (w := W) (GW.out.block b (by omega) (fun e => by have := (HOL.out b e.symm).1; omega))).trans hu) (Nat.le_refl _); obtain ⟨b, off, rfl, hbN, hcell⟩ := hA2.hp (by show 0 < ks.length; rw [HK.out]; omega); obtain ⟨q0, q1, q2, q3⟩ := hcell j a hak; have hmj : Mj.length = 1 + szs (ks.take j) := by
          have := congrArg List.length LW.out; rw [List.length_map, List.length_cons, pres_szs] at this; omega
        have hst := szs_take hak; have hsl := szs_take_le (j + 1) ks; have CG := Lib.hid (HIH.out a hmem N B (M ++ Mj) _ _ (l + 1) wr (hA2.hx j a hak) hNB (by omega) OW.out (by rw [List.length_append]; omega)); have PT := Lib.hid (pres_take (l := l + 1) hak); clear hA2 hcell hak hmem hmj hst hsl; generalize a.op = ao at *
        generalize a.n = an at *
        generalize a.nm = am at *
        generalize a.args.length = ak at *
        generalize pl j = ap at *
        generalize cl j = ac at *
        go_wp2_with (go_at_call 153; ((with_reducible refine CG.out.mono ?_); rintro e w5 ⟨v5, M5, rfl, ho5, hm5, hg5, hv5⟩; have HO5 := Lib.hid ho5; have HM5 := Lib.hid hm5; have HG5 := Lib.hid hg5; have HV5 := Lib.hid hv5; clear ho5 hm5 hg5 hv5))
        go_roundw
        case rel => exact ⟨j + 1, Mj ++ M5, by omega, by go_num, Lib.hid (by rw [← List.append_assoc]; exact HO5.out), Lib.hid (by rw [List.map_append, LW.out, HM5.out, PT.out]; rfl),
          Lib.hid (grow_trans GW.out HG5.out (fun b e => (UW.out b e).imp (fun h => h) (fun h => by omega))), Lib.hid (fun k e => (HV5.out k e).elim (fun h => UW.out k h) (fun h => .inr (by have := FW.out.lt; omega))),
          Lib.hid (blk_eq FW.out (HG5.out.block _ FW.out.lt (fun e => (UW.out _ e.symm).elim (fun h => hgb h) (fun h => by omega))))⟩
        case measure => simp [intOf]; omega
      · have E : Hid (ks.take j = ks) := Lib.hid (List.take_of_length_le (by rw [HK.out]; omega)); go_wp2; go_ret; exact ⟨_, Mj, rfl, OW.out, by rw [LW.out, E.out, HPR.out], GW.out, fun k e => (UW.out k e).imp (fun h => h) (fun h => by omega)⟩
def tSplitV (s : ByteArray) (x : Bool) (w : World) (e : Ending) (w' : World) : Prop :=
  ∃ t i, e = .returned (.tuple #[.string t, .int .i64 i, .bool x]) ∧ Below w.heap.size w w' ∧ (x = true → ∃ d : UInt8, s.data.toList = t.data.toList ++ [91, d, 93] ∧ i = (d.toNat : Int) - 48)
theorem tSplitV_no {s : ByteArray} {y : Bool} {t : ByteArray} {i : Int} {w w' : World} (h : false = y) (hb : Below w.heap.size w w') : tSplitV s y w (.returned (.tuple #[.string t, .int .i64 i, .bool false])) w' := by
  subst h; exact ⟨t, i, rfl, hb, fun h => by cases h⟩
set_option maxRecDepth 100000 in
set_option maxHeartbeats 4000000 in
theorem splitV_any (s : ByteArray) (w : World) (hs : s.size ≤ 140737488351232) : Calls Tryz.prog 154 #[.string s] w (tSplitV s (elmB s.data.toList) w) := by
  have HB0 := Lib.hid (Below.refl w.heap.size w); by_cases h4 : s.size < 4
  · have EE : Hid (false = elmB s.data.toList) := Lib.hid (by
      rw [eq_comm, Bool.eq_false_iff]; intro h; obtain ⟨r, d, e, _, hn⟩ := elm_iff.1 h; have := congrArg List.length e; rw [len_data] at this; have : r = [] := List.length_eq_zero_iff.1 (by simp at this; omega); subst this; simp [nmB] at hn)
    have h4' : (s.size : Int) < 4 := by omega
    go_enter Tryz.func154, Tryz.ntmps154
    go_wp2; refine bodyPost_ret (v := .tuple #[.string ⟨#[]⟩, .int .i64 0, .bool false]) (by simp [results, Tryz.results154, go_sem]) rfl ?_; exact tSplitV_no EE.out HB0.out
  · obtain ⟨m, hm⟩ : ∃ m, s.size = m + 3 := ⟨s.size - 3, by omega⟩; have hL := last3 s m hm (by omega) (by omega) (by omega); obtain ⟨t, ht⟩ : ∃ t, s.extract 0 m = t := ⟨_, rfl⟩; have hts : t.size ≤ 140737488351232 := (by rw [← ht]; simp; omega); have hm0 : m < s.size := (by omega); have hm1 : m + 1 < s.size := (by omega); have hm2 : m + 2 < s.size := (by omega); have EV : Hid (elmB s.data.toList = (decide (s[m + 2] = 93) && (decide (s[m] = 91) && (decide (48 ≤ s[m + 1].toNat ∧ s[m + 1].toNat ≤ 55) && nmB t.data.toList)))) := Lib.hid (by rw [hL, elm_last, ht]); have NC : Hid (∀ W, Calls Tryz.prog 42 #[.string t] W (tBool (nmB t.data.toList) W)) := (Lib.hid fun W => nameR_any t W hts); have i1 : ((s.size : Int) - 1).toNat = m + 2 := (by omega); have i2 : ((s.size : Int) - 2).toNat = m + 1 := (by omega); have i3 : ((s.size : Int) - 3).toNat = m := (by omega); have j1 : (s.size : Int) - 1 < (s.size : Int) := (by omega); have j2 : (s.size : Int) - 2 < (s.size : Int) := (by omega); have j3 : (s.size : Int) - 3 < (s.size : Int) := (by omega); have h4' : ¬ (s.size : Int) < 4 := (by omega); have HLL := Lib.hid hL; clear hL; by_cases g1 : (s[m + 2].toNat : Int) = 93
    · by_cases g2 : (s[m].toNat : Int) = 91
      · have s1 : s[m + 2] = 93 := UInt8.toNat_inj.1 (by show s[m + 2].toNat = 93; omega); have s2 : s[m] = 91 := UInt8.toNat_inj.1 (by show s[m].toNat = 91; omega); have EV2 : Hid (elmB s.data.toList = (decide (48 ≤ s[m + 1].toNat ∧ s[m + 1].toNat ≤ 55) && nmB t.data.toList)) := Lib.hid (by rw [EV.out, decide_eq_true s1, decide_eq_true s2]; rfl); have DEC0 : ∃ d' : UInt8, s.data.toList = t.data.toList ++ [91, d', 93] ∧ ((s[m + 1].toNat : Nat) : Int) - 48 = (d'.toNat : Int) - 48 := ⟨s[m + 1], by rw [HLL.out, ht, s1, s2], rfl⟩; clear s1 s2 EV; obtain ⟨d, hd⟩ : ∃ d : Nat, s[m + 1].toNat = d := ⟨_, rfl⟩; rw [hd] at DEC0; have DEC := Lib.hid DEC0; clear DEC0; have hd2 : (d : Int) ≤ 255 := (by have := s[m + 1].toNat_lt; omega); rw [hd] at EV2; by_cases g3 : (48 : Int) ≤ d
        · by_cases g4 : (d : Int) ≤ 55
          · have EV3 : Hid (elmB s.data.toList = nmB t.data.toList) := Lib.hid (by rw [EV2.out, decide_eq_true ⟨by omega, by omega⟩]; rfl); clear EV2; generalize nmB t.data.toList = q at *
            cases q
            · go_enter Tryz.func154, Tryz.ntmps154
              go_wp2_with (go_at_call 42; ((with_reducible refine (NC.out _).mono ?_); rintro e w1 ⟨rfl, hb⟩; have HB1 := Lib.hid hb; clear hb))
              refine bodyPost_ret (v := .tuple #[.string ⟨#[]⟩, .int .i64 0, .bool false]) (by simp [results, Tryz.results154, go_sem]) rfl ?_; exact tSplitV_no EV3.out.symm HB1.out
            · go_enter Tryz.func154, Tryz.ntmps154
              go_wp2_with (go_at_call 42; ((with_reducible refine (NC.out _).mono ?_); rintro e w1 ⟨rfl, hb⟩; have HB1 := Lib.hid hb; clear hb))
              refine bodyPost_ret (v := .tuple #[.string t, .int .i64 ((d : Int) - 48), .bool true]) (by simp [results, Tryz.results154, go_sem]) rfl ?_; exact ⟨t, (d : Int) - 48, by rw [← EV3.out], HB1.out, fun _ => DEC.out⟩
          · have EE : Hid (false = elmB s.data.toList) := Lib.hid (by rw [EV2.out, decide_eq_false (by omega)]; rfl); clear EV2 NC
            go_enter Tryz.func154, Tryz.ntmps154
            go_wp2; refine bodyPost_ret (v := .tuple #[.string ⟨#[]⟩, .int .i64 0, .bool false]) (by simp [results, Tryz.results154, go_sem]) rfl ?_; exact tSplitV_no EE.out HB0.out
        · have EE : Hid (false = elmB s.data.toList) := Lib.hid (by rw [EV2.out, decide_eq_false (by omega)]; rfl); clear EV2 NC
          go_enter Tryz.func154, Tryz.ntmps154
          go_wp2; refine bodyPost_ret (v := .tuple #[.string ⟨#[]⟩, .int .i64 0, .bool false]) (by simp [results, Tryz.results154, go_sem]) rfl ?_; exact tSplitV_no EE.out HB0.out
      · have g2' : ((s[m].toNat : Int) != 91) = true := (by rw [bne_iff_ne]; exact g2); have EE : Hid (false = elmB s.data.toList) := Lib.hid (by
          rw [EV.out, decide_eq_false (fun h : s[m] = 91 => by rw [h] at g2; exact g2 rfl)]; simp)
        clear g2 EV NC
        go_enter Tryz.func154, Tryz.ntmps154
        go_wp2; refine bodyPost_ret (v := .tuple #[.string ⟨#[]⟩, .int .i64 0, .bool false]) (by simp [results, Tryz.results154, go_sem]) rfl ?_; exact tSplitV_no EE.out HB0.out
    · have g1' : ((s[m + 2].toNat : Int) != 93) = true := (by rw [bne_iff_ne]; exact g1); have EE : Hid (false = elmB s.data.toList) := Lib.hid (by
        rw [EV.out, decide_eq_false (by intro h; rw [h] at g1; exact g1 rfl)]; rfl)
      clear g1 EV NC
      go_enter Tryz.func154, Tryz.ntmps154
      go_wp2; refine bodyPost_ret (v := .tuple #[.string ⟨#[]⟩, .int .i64 0, .bool false]) (by simp [results, Tryz.results154, go_sem]) rfl ?_; exact tSplitV_no EE.out HB0.out
theorem split_parts {s t : ByteArray} {i : Int} (h : isE s = true) (hd : ∃ d : UInt8, s.data.toList = t.data.toList ++ [91, d, 93] ∧ i = (d.toNat : Int) - 48) : t = cutA s ∧ i = cutK s := by
  obtain ⟨d, e1, e2⟩ := hd; obtain ⟨d', e3, h48, _, e4⟩ := elm_parts h; rw [e1] at e3; obtain ⟨e5, e6⟩ := List.append_inj' e3 rfl; have e7 : d = d' := (by simpa using e6); subst e7; exact ⟨bs_inj e5, by rw [e2, e4]; omega⟩
end Go.Proofs.YtpejflgdehioaaaGreatDoor.ItW
namespace Go.Proofs.YtpejflgdehioaaaGreatDoor.ItW
open Go Go.RowKit Go.Proofs.YtpejflgdehioaaaGreatDoor.NumM Go.Proofs.YtpejflgdehioaaaGreatDoor.LexW Go.Proofs.YtpejflgdehioaaaGreatDoor.LexM Go.Proofs.YtpejflgdehioaaaGreatDoor.ExM Go.Proofs.YtpejflgdehioaaaGreatDoor.ExW Go.Proofs.YtpejflgdehioaaaGreatDoor.ItM
open Go.Proofs.YtpejflgdehioaaaGreatDoor.ClM (Fld)
theorem memB_at {B : List ByteArray} {s y : ByteArray} {k : Nat} (h : B[k]? = some y) (e : y.data.toList = s.data.toList) : memB B s = true := by
  unfold memB; exact List.any_eq_true.2 ⟨y, List.mem_of_getElem? h, by unfold ClM.same; rw [e]; simp⟩
theorem memB_no {B : List ByteArray} {s : ByteArray} (h : ∀ (i : Nat) t, i < B.length → B[i]? = some t → t.data.toList ≠ s.data.toList) : memB B s = false := by
  rw [Bool.eq_false_iff]; intro hm; obtain ⟨t, ht, e⟩ := List.any_eq_true.1 hm; obtain ⟨i, hi, he⟩ := List.mem_iff_getElem.1 ht; exact h i t hi (by rw [List.getElem?_eq_getElem hi, he]) (by simpa [ClM.same] using e)
set_option maxRecDepth 100000 in
set_option maxHeartbeats 2000000 in
theorem boundR_any (l : List ByteArray) (v : Value) (s : ByteArray) (N : Nat) (w : World) (h : StA N w v l) :
    Calls Tryz.prog 39 #[v, .string s] w fun e w' => e = .returned (.bool (memB l s)) ∧ w = w' := by
  obtain ⟨p, cap, rfl, hl, hcap, hz, hx⟩ := h; have HX := Lib.hid hx; clear hx hcap hz; obtain ⟨n, hnn⟩ : ∃ n, l.length = n := ⟨_, rfl⟩; have HN := Lib.hid hnn; rw [hnn] at hl ⊢; have hn47 : n ≤ 140737488351232 := (by omega); clear hnn hl
  go_enter Tryz.func39, Tryz.ntmps39
  go_wp2; go_loop [5] (fun i => ∃ k : Nat, k ≤ n ∧ i = .int .i64 k ∧ Hid (∀ (j : Nat) t, j < k → l[j]? = some t → t.data.toList ≠ s.data.toList)) (fun i => n - (intOf i).toNat)
  case atStart => exact ⟨0, Nat.zero_le _, rfl, Lib.hid fun j _ h => by omega⟩
  case round =>
    obtain ⟨k, hk, rfl, NO⟩ := hrel; by_cases hlt : k < n
    · obtain ⟨b, off, rfl, _, hcell⟩ := HX.out (by rw [HN.out]; omega); obtain ⟨y, hyk⟩ : ∃ y, l[k]? = some y := ⟨_, List.getElem?_eq_getElem (by rw [HN.out]; exact hlt)⟩; have ca0 := hcell k y hyk; have HY := Lib.hid hyk; clear hcell hyk; by_cases e : y.data.toList = s.data.toList
      · have e1 : (y.toList == s.toList) = true := (by rw [Lib.toList_data, Lib.toList_data, e]; simp); have EE := Lib.hid (memB_at HY.out e); clear e; go_wp2; go_ret; exact ⟨retb EE.out.symm, rfl⟩
      · have e1 : (y.toList == s.toList) = false := (by rw [Lib.toList_data, Lib.toList_data]; simpa using e); have NO2 : Hid (∀ (j : Nat) t, j < k + 1 → l[j]? = some t → t.data.toList ≠ s.data.toList) := Lib.hid fun j t hj ht => by
          rcases Nat.lt_or_ge j k with h | h
          · exact NO.out j t h ht
          · obtain rfl : j = k := (by omega); rw [HY.out] at ht; cases ht; exact e
        clear e; go_wp2; go_round
        case rel => exact ⟨k + 1, by omega, by go_num, NO2⟩
        case measure => simp [intOf]; omega
    · have EE := Lib.hid (memB_no (s := s) (B := l) (fun i t hi ht => NO.out i t (by rw [HN.out] at hi; omega) ht)); go_wp2; go_ret; exact ⟨retb EE.out.symm, rfl⟩
def tFld (fs : List Fld) (s : ByteArray) (w : World) (e : Ending) (w' : World) : Prop := e = .returned (.tuple #[.int .i64 (szI fs s), .bool (szO fs s).isSome]) ∧ Below w.heap.size w w'
theorem tFld_some {fs : List Fld} {s : ByteArray} {n : Int} {w w' : World} (h : szO fs s = some n) (hb : Below w.heap.size w w') : tFld fs s w (.returned (.tuple #[.int .i64 n, .bool true])) w' := by
  unfold tFld szI; rw [h]; exact ⟨rfl, hb⟩
theorem tFld_none {fs : List Fld} {s : ByteArray} {w w' : World} (h : szO fs s = none) (hb : Below w.heap.size w w') : tFld fs s w (.returned (.tuple #[.int .i64 0, .bool false])) w' := by
  unfold tFld szI; rw [h]; exact ⟨rfl, hb⟩
set_option maxRecDepth 100000 in
set_option maxHeartbeats 4000000 in
theorem fieldR_any (fs : List Fld) (cv : Value) (s : ByteArray) (N : Nat) (w : World) (hc : ClA N w cv fs) (hN : N ≤ w.heap.size) :
    Calls Tryz.prog 91 #[cv, .string s] w (tFld fs s w) := by
  obtain ⟨cnm, par, vf, pb, kb, cb, rfl, p, cap, rfl, hl, hcap, hz, hp⟩ := hc; have HP := Lib.hid hp; obtain ⟨K, hK⟩ : ∃ K, fs.length = K := ⟨_, rfl⟩; have HK := Lib.hid hK; rw [hK] at hl ⊢; have hk47 : K ≤ 140737488351232 := (by omega); have B0 := Blk.new w [.string cnm, .string par, .slice p K cap, .slice pb kb cb] 34; have hb0 := ba w (.cells #[.string cnm, .string par, .slice p K cap, .slice pb kb cb] 34); have d2 := B0.c 2 _ rfl; have HB := Lib.hid hb0; clear hK hl hp hcap hz B0 hb0
  go_enter Tryz.func91, Tryz.ntmps91
  go_wp2; obtain ⟨W0, hW0⟩ : ∃ W0, w.alloc (.cells #[.string cnm, .string par, .slice p K cap, .slice pb kb cb] 34) = W0 := ⟨_, rfl⟩; simp only [List.toArray] at d2; rw [hW0] at HB d2 ⊢; clear hW0; go_loop [6] (fun i => ∃ k : Nat, k ≤ K ∧ i = .int .i64 k ∧ Hid (∀ (j : Nat) f, j < k → fs[j]? = some f → f.nm.data.toList ≠ s.data.toList)) (fun i => K - (intOf i).toNat)
  case atStart => exact ⟨0, Nat.zero_le _, rfl, Lib.hid fun j _ h => by omega⟩
  case round =>
    obtain ⟨k, hk, rfl, NO⟩ := hrel; by_cases hlt : k < K
    · obtain ⟨b, off, rfl, hbN, hcell⟩ := HP.out (by rw [HK.out]; omega); obtain ⟨y, hyk⟩ : ∃ y, fs[k]? = some y := ⟨_, List.getElem?_eq_getElem (by rw [HK.out]; exact hlt)⟩; obtain ⟨q0, q1, q2, q3, q4⟩ := hcell k y hyk; have c0 := low_cells (HB.out.mono hN) _ _ hbN _ q0; have c2 := low_cells (HB.out.mono hN) _ _ hbN _ q2; have HY := Lib.hid hyk; clear hcell hyk q0 q1 q2 q3 q4; obtain ⟨yn, hyn⟩ : ∃ x, y.nm = x := ⟨_, rfl⟩; obtain ⟨ys, hys⟩ : ∃ x, y.sz = x := ⟨_, rfl⟩; rw [hyn] at c0; rw [hys] at c2; have HYN := Lib.hid hyn; have HYS := Lib.hid hys; clear hyn hys; by_cases e : yn.data.toList = s.data.toList
      · have e1 : (yn.toList == s.toList) = true := (by rw [Lib.toList_data, Lib.toList_data, e]; simp); have EE : Hid (szO fs s = some ys) := Lib.hid (by rw [← HYS.out]; exact szO_at HY.out (by rw [HYN.out]; exact e) NO.out); clear e; go_wp2; go_ret2; exact tFld_some EE.out HB.out
      · have e1 : (yn.toList == s.toList) = false := (by rw [Lib.toList_data, Lib.toList_data]; simpa using e); have NO2 : Hid (∀ (j : Nat) f, j < k + 1 → fs[j]? = some f → f.nm.data.toList ≠ s.data.toList) := Lib.hid fun j t hj ht => by
          rcases Nat.lt_or_ge j k with h | h
          · exact NO.out j t h ht
          · obtain rfl : j = k := (by omega); rw [HY.out] at ht; cases ht; rw [HYN.out]; exact e
        clear e; go_wp2; go_round
        case rel => exact ⟨k + 1, by omega, by go_num, NO2⟩
        case measure => simp [intOf]; omega
    · have EE := Lib.hid (szO_no (s := s) (fs := fs) (fun i t hi ht => NO.out i t (by rw [HK.out] at hi; omega) ht)); go_wp2; go_ret2; exact tFld_none EE.out HB.out
theorem hasP_some {fs : List Fld} {s : ByteArray} {n : Int} (h : szO fs s = some n) : hasP fs s = decide (n ≤ 0) := by unfold hasP; rw [h]
theorem hasP_none {fs : List Fld} {s : ByteArray} (h : szO fs s = none) : hasP fs s = false := by unfold hasP; rw [h]
set_option maxRecDepth 100000 in
set_option maxHeartbeats 4000000 in
theorem arrayR_any (fs : List Fld) (cv : Value) (s : ByteArray) (N : Nat) (w : World) (hc : ClA N w cv fs) (hN : N ≤ w.heap.size) :
    Calls Tryz.prog 104 #[cv, .string s] w (tInt (arrE fs s) w) := by
  have FC : Hid (∀ W, Below w.heap.size w W → Calls Tryz.prog 91 #[cv, .string s] W (tFld fs s W)) := (Lib.hid fun W hW => fieldR_any fs cv s N W (hc.under (hW.mono hN)) (by have := hW.size; omega)); obtain ⟨cnm, par, vf, pb, kb, cb, rfl, p, cap, rfl, _⟩ := hc; have B0 := Blk.new w [.string cnm, .string par, .slice p fs.length cap, .slice pb kb cb] 34; have hb0 := ba w (.cells #[.string cnm, .string par, .slice p fs.length cap, .slice pb kb cb] 34); have d0 := B0.c 0 _ rfl; have d1 := B0.c 1 _ rfl; have d2 := B0.c 2 _ rfl; have d3 := B0.c 3 _ rfl; have HB := Lib.hid hb0; have AE : Hid (arrE fs s = if hasP fs s = true then 9 else if hasA fs s = true then 0 else 7) := Lib.hid rfl; have HA : Hid (hasA fs s = decide (0 < szI fs s)) := Lib.hid rfl; clear B0 hb0; generalize fs.length = KF at *
  cases ho : szO fs s with
  | none =>
    have E : Hid (arrE fs s = 7) := Lib.hid (by rw [AE.out, hasP_none ho, HA.out, szI_none ho]; rfl); have FC2 : Hid (∀ W, Below w.heap.size w W → Calls Tryz.prog 91 #[.agg #[.string cnm, .string par, .slice p KF cap, .slice pb kb cb], .string s] W fun e w' => e = .returned (.tuple #[.int .i64 0, .bool false]) ∧ Below W.heap.size W w') := Lib.hid fun W hW => (FC.out W hW).mono fun e w' h => by
      unfold tFld at h; rw [szI_none ho, ho] at h; exact h
    clear FC ho AE HA
    go_enter Tryz.func104, Tryz.ntmps104
    go_wp2_with (go_at_call 91; ((with_reducible refine (FC2.out _ HB.out).mono ?_); rintro e w1 ⟨rfl, hb⟩; have HB1 := Lib.hid (HB.out.then_ hb); clear hb))
    go_ret; exact tInt_mk E.out HB1.out
  | some n =>
    have FC2 : Hid (∀ W, Below w.heap.size w W → Calls Tryz.prog 91 #[.agg #[.string cnm, .string par, .slice p KF cap, .slice pb kb cb], .string s] W fun e w' => e = .returned (.tuple #[.int .i64 n, .bool true]) ∧ Below W.heap.size W w') := Lib.hid fun W hW => (FC.out W hW).mono fun e w' h => by
      unfold tFld at h; rw [szI_some ho, ho] at h; exact h
    by_cases hn : n < 1
    · have E : Hid (arrE fs s = 9) := Lib.hid (by rw [AE.out, hasP_some ho, decide_eq_true (by omega)]; rfl); clear FC ho AE HA
      go_enter Tryz.func104, Tryz.ntmps104
      go_wp2_with (go_at_call 91; ((with_reducible refine (FC2.out _ HB.out).mono ?_); rintro e w1 ⟨rfl, hb⟩; have HB1 := Lib.hid (HB.out.then_ hb); clear hb))
      go_ret; exact tInt_mk E.out HB1.out
    · have E : Hid (arrE fs s = 0) := Lib.hid (by rw [AE.out, hasP_some ho, decide_eq_false (by omega), HA.out, szI_some ho, decide_eq_true (by omega)]; rfl); clear FC ho AE HA
      go_enter Tryz.func104, Tryz.ntmps104
      go_wp2_with (go_at_call 91; ((with_reducible refine (FC2.out _ HB.out).mono ?_); rintro e w1 ⟨rfl, hb⟩; have HB1 := Lib.hid (HB.out.then_ hb); clear hb))
      go_ret; exact tInt_mk E.out HB1.out
end Go.Proofs.YtpejflgdehioaaaGreatDoor.ItW
