/-
  Laws that the card uses; no conditions beside those that each states (ItAwM ItExM ItNds ItAsk ItRIn).
-/
import Derived.Test.YtpejflgdehioaaaGreatDoorT38
import Derived.Test.YtpejflgdehioaaaGreatDoorT39
namespace Go.Proofs.YtpejflgdehioaaaGreatDoor.ItW
open Go Go.RowKit Go.Proofs.YtpejflgdehioaaaGreatDoor.LexM Go.Proofs.YtpejflgdehioaaaGreatDoor.ExM Go.Proofs.YtpejflgdehioaaaGreatDoor.ItM
open Go.Proofs.YtpejflgdehioaaaGreatDoor.ClM (Fld)
def fl2 : List Fld := [⟨⟨#[97]⟩, 2, 0, 1, 0⟩, ⟨⟨#[100]⟩, 3, 2, 1, 0⟩]
def eIdx : Ex := .mk 2 0 ⟨#[105]⟩ []
def eElem : Ex := .mk 3 0 ⟨#[100]⟩ [eIdx]
def eTop : Ex := .mk 17 0 ⟨#[]⟩ [eElem, .mk 1 3 ⟨#[]⟩ []]
def inL : List It := [.mk 1 eTop ⟨#[]⟩ ⟨#[]⟩ [] [] [] [] []]
def awL : List It := [.mk 5 zE ⟨#[100]⟩ ⟨#[105]⟩ [] inL [] [] []]
def eSum : Ex := .mk 24 0 ⟨#[100]⟩ []
theorem aw_check : checkI fl2 awL = 0 := by kernel_rfl
theorem aw_exp : (expS fl2 awL).2 = 0 := by kernel_rfl
theorem aw_exp1 : (expS fl2 awL).1.map It.kd = [1, 1] := by kernel_rfl
theorem aw_sca : (scaS fl2 eSum).2 = 0 := by kernel_rfl
theorem aw_sca1 : (scaS fl2 eSum).1.op = 7 := by kernel_rfl
theorem aw_size : iszs awL = 2 := by kernel_rfl
theorem aw_sz : sz eSum = 1 := by kernel_rfl
theorem aw_S : ∀ f ∈ fl2, 0 ≤ f.sz ∧ f.sz ≤ 8 := by intro f hf; simp [fl2] at hf; rcases hf with rfl | rfl <;> decide
theorem aw_rs : RsL awL := by
  unfold awL inL; simp only [rsL_cons, rsL_nil, rsI_eq, It.it, It.el, Nd1, It.e, It.ws, It.bf, It.af, List.length_nil, and_true]; refine ⟨⟨?_, ?_⟩, ⟨?_, ?_⟩⟩ <;> first | decide | (show sz _ ≤ 10000; exact of_decide_eq_true (by kernel_rfl))
theorem aw_sm : SmE awL := by
  intro x hx; have h : ((wks 0 [] awL).map Pl.x).map (fun y => sz y.e) = [1, 4] := (by kernel_rfl); have h2 := List.mem_map_of_mem (f := fun y : It => sz y.e) hx; rw [h] at h2; simp at h2; omega
end Go.Proofs.YtpejflgdehioaaaGreatDoor.ItW
namespace Go.Proofs.YtpejflgdehioaaaGreatDoor.ItW
open Go Go.Proofs.YtpejflgdehioaaaGreatDoor.NumM Go.Proofs.YtpejflgdehioaaaGreatDoor.LexW Go.Proofs.YtpejflgdehioaaaGreatDoor.LexM Go.Proofs.YtpejflgdehioaaaGreatDoor.ExM Go.Proofs.YtpejflgdehioaaaGreatDoor.ExW Go.Proofs.YtpejflgdehioaaaGreatDoor.ItM
open Go.Proofs.YtpejflgdehioaaaGreatDoor.ClM (Fld firstE_zero)
theorem dpt_of : ∀ (k : Nat) (l : List It) (d : Nat) (B : List ByteArray), d + k = 5 → (∀ p ∈ wks d B l, p.d ≤ 4) → dpt k l
  | 0, l, d, B, hd, h => by
    cases l with
    | nil => rfl
    | cons x r =>
      have := h ⟨d, B, x⟩ (by rw [wks_cons, wk_eq]; simp); simp at this; omega
  | k + 1, l, d, B, hd, h => fun x hx => by
    obtain ⟨s, t, rfl⟩ := List.append_of_mem hx; refine ⟨dpt_of k x.it (d + 1) (inn x.kd x.ix B) (by omega) fun p hp => h p ?_, dpt_of k x.el (d + 1) B (by omega) fun p hp => h p ?_⟩
    · rw [wks_append, wks_cons, wk_eq]; simp [hp]
    · rw [wks_append, wks_cons, wk_eq]; simp [hp]
theorem flt_deep {d : Nat} {x : It} (h : fltI d x = 0) : d ≤ 4 := by
  unfold fltI at h; split at h
  · cases h
  · rename_i hn; simp only [Bool.or_eq_true, decide_eq_true_eq, not_or] at hn; omega
theorem dpt_valid {l : List It} (h : validI l = 0) : dpt 5 l := by
  unfold validI at h; split at h
  · cases h
  · refine (dpt_of 5 l 0 [] rfl fun p hp => ?_); exact flt_deep (firstE_zero.1 h _ (List.mem_map_of_mem hp))
theorem exL_sz (fs : List Fld) (l : List It) : ∀ (k : Nat) (q : Option Ex) (σ : Ex → Ex), dpt k l → k ≤ 6 → SmE l → (∀ e, sz (σ e) ≤ sz e) → (∀ c, q = some c → sz c + 1002 * k ≤ 9000) → ∀ x ∈ exL fs q σ l, sz x.e ≤ 10000 := by
  induction l using its_ind with
  | h l ih =>
    intro k q σ hd hk hsm hσ hq x hx; have hone : ∀ a ∈ l, ∀ x ∈ exI fs q σ a, sz x.e ≤ 10000 := by
      intro a ha x hx; obtain ⟨k', hd1, hd2, hk'⟩ : ∃ k', dpt k' a.it ∧ dpt k' a.el ∧ k' + 1 = k := by
        cases k with
        | zero => have h0 : l = [] := hd; rw [h0] at ha; cases ha
        | succ k => exact ⟨k, (hd a ha).1, (hd a ha).2, rfl⟩
      obtain ⟨h1, h2, h3⟩ := hsm.one ha; have hse : sz (σ a.e) ≤ 1000 := Nat.le_trans (hσ _) h1; have hu : ∀ (op : Int) (e : Ex), sz e ≤ 1001 → ∀ c, some (und q op e) = some c → sz c + 1002 * k' ≤ 9000 := fun op e he c hc => by
        cases hc; have h4 := sz_und q op e; cases q with
        | none => simp only at h4; omega
        | some c0 => have := hq c0 rfl; simp only at h4; omega
      rw [exI_eq] at hx; split at hx
      · rcases List.mem_append.1 hx with hx | hx
        · exact (ih a ha).1 k' _ _ hd1 (by omega) h2 hσ (hu 19 _ (by omega)) x hx
        · exact (ih a ha).2 k' _ _ hd2 (by omega) h3 hσ (hu 19 _ (by rw [sz_not]; omega)) x hx
      · split at hx
        · obtain ⟨i, _, hx⟩ := List.mem_flatMap.1 hx; exact (ih a ha).1 k' _ _ hd1 (by omega) h2 (fix_sz hσ a.ix i) (fun c hc => by have := hq c hc; omega) x hx
        · split at hx
          · obtain rfl : x = hardI a.kd (und q 21 (σ a.e)) := (by simpa using hx); show sz (und q 21 (σ a.e)) ≤ 10000; have h4 := sz_und q 21 (σ a.e); cases q with
            | none => simp only at h4; omega
            | some c0 => have := hq c0 rfl; simp only at h4; omega
          · obtain rfl : x = outI a := (by simpa using hx); show sz zE ≤ 10000; unfold zE; rw [sz_mk, szs_nil]; omega
    clear ih hd hsm hq hσ; induction l with
    | nil => rw [exL_nil] at hx; cases hx
    | cons a r ih2 =>
      rw [exL_cons] at hx; rcases List.mem_append.1 hx with hx | hx
      · exact hone a (by simp) x hx
      · exact ih2 hx fun b hb => hone b (by simp [hb])
end Go.Proofs.YtpejflgdehioaaaGreatDoor.ItW
namespace Go.Proofs.YtpejflgdehioaaaGreatDoor.ItW
open Go Go.RowKit Go.Proofs.YtpejflgdehioaaaGreatDoor.NumM Go.Proofs.YtpejflgdehioaaaGreatDoor.LexW Go.Proofs.YtpejflgdehioaaaGreatDoor.LexM Go.Proofs.YtpejflgdehioaaaGreatDoor.ExM Go.Proofs.YtpejflgdehioaaaGreatDoor.ExW Go.Proofs.YtpejflgdehioaaaGreatDoor.ItM
structure NdV where
  x : In
  p : Option Addr
  c : Nat
def ndC (y : NdV) : List Value := [.int .i64 y.x.op, .int .i64 y.x.n, .string y.x.nm, .slice y.p y.x.k y.c]
theorem ndC_len (y : NdV) : (ndC y).length = 4 := rfl
theorem grow_trans {A B C : World} {row row' : Option Nat} (h : A.grownBy B row) (k : B.grownBy C row') (hr : ∀ b, row' = some b → row = some b ∨ A.heap.size ≤ b) : A.grownBy C row :=
  ⟨k.os.trans h.os, k.tape.trans h.tape, k.output.trans h.output, Nat.le_trans h.size k.size, fun b hb hne => (k.block b (Nat.lt_of_lt_of_le hb h.size) (fun e => (hr b e.symm).elim (fun g => hne g.symm) (fun g => by omega))).trans (h.block b hb hne)⟩
theorem grow_none {A B : World} {row : Option Nat} (h : A.grownBy B none) : A.grownBy B row := ⟨h.os, h.tape, h.output, h.size, fun b hb _ => h.block b hb (by simp)⟩
def tGa (B : Nat) (M : List NdV) (v : Value) (L : List In) (W : World) (x : Ending) (w' : World) : Prop :=
  ∃ v' M2, x = .returned v' ∧ w'.ownsRow B 43 4 v' (M ++ M2).length ((M ++ M2).flatMap ndC) ∧ M2.map NdV.x = L ∧ W.grownBy w' v.ownBlock ∧ (∀ k, v'.ownBlock = some k → v.ownBlock = some k ∨ W.heap.size ≤ k)
theorem pres_take {l k : Nat} {ks : List Ex} {a : Ex} (h : ks[k]? = some a) : pres l (ks.take (k + 1)) = pres l (ks.take k) ++ pre l a := by
  obtain ⟨hk, he⟩ := List.getElem?_eq_some_iff.1 h; rw [List.take_succ_eq_append_getElem hk, pres_append, he, pres_cons, pres_nil, List.append_nil]
theorem pres_szs (l : Nat) (ks : List Ex) : (pres l ks).length = szs ks := pres_len fun a _ => pre_len a l
set_option maxRecDepth 100000 in
set_option maxHeartbeats 8000000 in
theorem gatherR_any (e : Ex) : ∀ (N B : Nat) (M : List NdV) (v va : Value) (l : Nat) (W : World), ExAt N W va e → N ≤ B → B ≤ W.heap.size → W.ownsRow B 43 4 v M.length (M.flatMap ndC) → M.length + sz e ≤ 10000 →
    Calls Tryz.prog 153 #[v, va] W (tGa B M v (pre l e) W) := by
  induction e using Ex.ind with
  | h o n s ks ih =>
    intro N B M v va l W hx hNB hBW hown hsz; obtain ⟨p, cap, pl, cl, rfl, hs, ha⟩ := hx.form; have HIH := Lib.hid ih; have HA := Lib.hid ha; rw [sz_mk] at hsz; have HOL := Lib.hid (own_lt hown); obtain ⟨K, hK⟩ : ∃ K, ks.length = K := ⟨_, rfl⟩; have HK := Lib.hid hK
    change Calls Tryz.prog 153 #[v, xv o n s (.slice p ks.length cap)] W (tGa B M v (pre l (.mk o n s ks)) W)
    have hlk := len_szs ks; rw [hK] at hlk ⊢; have HPR : Hid (pre l (.mk o n s ks) = In.mk l o n s K :: pres (l + 1) ks) := Lib.hid (by rw [pre_mk, hK]); have hb1 := ba W (.cells #[.int .i64 o, .int .i64 n, .string s, .slice p K cap] 43); have hb2 := hb1.then_ (ba _ (.cells #[.int .i64 o, .int .i64 n, .string s, .slice p K cap] 43)); have B0 := (Blk.new W [.int .i64 o, .int .i64 n, .string s, .slice p K cap] 43); have c0 := B0.c 0 _ rfl; have c1 := B0.c 1 _ rfl; have c2 := B0.c 2 _ rfl; have c3 := B0.c 3 _ rfl; have B2 := B0.stay (ba _ (.cells #[.int .i64 o, .int .i64 n, .string s, .slice p K cap] 43)); have HN4 := Lib.hid (cell_four_at (w := W.alloc (.cells #[.int .i64 o, .int .i64 n, .string s, .slice p K cap] 43)) (World.size_alloc W _) (.int .i64 o) (.int .i64 n) (.string s) (.slice p K cap) 43); have hz2 : ((W.alloc (.cells #[.int .i64 o, .int .i64 n, .string s, .slice p K cap] 43)).alloc (.cells #[.int .i64 o, .int .i64 n, .string s, .slice p K cap] 43)).heap.size = W.heap.size + 1 + 1 := (by rw [World.size_alloc, World.size_alloc]); have HO2 := Lib.hid (own_later hown hb2); have HZ2 := Lib.hid hz2; have HB2 := Lib.hid hb2; have HB0 := Lib.hid B2; obtain ⟨i0, hi, iz0, iz1, iz2⟩ := info_parts infoE; clear hx hown ih ha hK hs hb1 hb2 B0 B2 hz2
    go_enter Tryz.func153, Tryz.ntmps153
    go_wp2_with (at_builtin; refine wpList_append_lies _ rfl _ _ 41 rfl B 43 i0 (.agg #[.int .i64 0, .int .i64 0, .string ⟨#[]⟩, .slice none 0 0]) 4 56 Tryz.underlying41 hi iz0 iz1 iz2 rfl (by decide) v M.length (M.flatMap ndC) rfl HO2.out ⟨W.heap.size + 1, 0, none⟩ 1 1 [.int .i64 o, .int .i64 n, .string s, .slice p K cap] rfl rfl HN4.out (one_four _ _ _ _ _ _) (by omega) (by unfold maxLen; omega) (by omega) (by rw [HZ2.out]; omega) _ HZ2.out ?_)
    intro g cp w3 hown hgr hat hlt; have hgr3 : W.grownBy w3 v.ownBlock := grow_trans (grow_none (grown_of_below HB2.out)) hgr (fun b e => .inl e); have hsz3 := hgr.size; rw [HZ2.out] at hsz3; have hgW : v.ownBlock = some g ∨ W.heap.size + 1 ≤ g := hat.imp (fun e => e) (fun e => by omega); have hgb : v.ownBlock ≠ some W.heap.size := (fun e => by have := (HOL.out _ e).2.1; omega); have F3 := Lib.hid (blk_eq HB0.out (hgr.block W.heap.size (by rw [HZ2.out]; omega) (fun e => hgb e.symm))); have OW3 : Hid (w3.ownsRow B 43 4 (.slice (some ⟨g, 0, none⟩) (M.length + 1) cp) (M ++ [NdV.mk (In.mk l o n s K) p cap]).length ((M ++ [NdV.mk (In.mk l o n s K) p cap]).flatMap ndC)) := Lib.hid (by
      rw [List.length_append, List.flatMap_append]; exact hown)
    have G3 := Lib.hid hgr3; have c3 := F3.out.c 3 _ rfl; clear hown hgr hat hlt hgr3 c0 c1 c2 hi iz0 iz1 iz2 HB2 HZ2 HN4 HO2 HB0; go_wp2; go_loopw [0, 5] (fun u i wr => ∃ (j : Nat) (Mj : List NdV), j ≤ K ∧ i = .int .i64 j ∧ Hid (wr.ownsRow B 43 4 u (M ++ Mj).length ((M ++ Mj).flatMap ndC)) ∧ Hid (Mj.map NdV.x = In.mk l o n s K :: pres (l + 1) (ks.take j)) ∧ Hid (W.grownBy wr v.ownBlock) ∧ Hid (∀ k, u.ownBlock = some k → v.ownBlock = some k ∨ W.heap.size + 1 ≤ k) ∧ Hid (Blk wr W.heap.size [.int .i64 o, .int .i64 n, .string s, .slice p K cap])) (fun _ i _ => K - (intOf i).toNat)
    case atStart => exact ⟨0, [NdV.mk (In.mk l o n s K) p cap], Nat.zero_le _, rfl, OW3, Lib.hid (by rw [List.take_zero, pres_nil]; rfl), G3, Lib.hid (fun k e => hgW.imp (fun h => by simp [Value.ownBlock] at e; rw [← e]; exact h) (fun h => by simp [Value.ownBlock] at e; omega)), F3⟩
    case round =>
      clear c3; obtain ⟨j, Mj, hj, rfl, OW, LW, GW, UW, FW⟩ := hrel; have c3 := FW.out.c 3 _ rfl; have hsW := GW.out.size; by_cases hlt : j < K
      · obtain ⟨a, hak⟩ : ∃ a, ks[j]? = some a := ⟨_, List.getElem?_eq_getElem (by rw [HK.out]; exact hlt)⟩; have hmem := List.mem_of_getElem? hak; have hA2 := HA.out.kept (w' := wr) (N' := N) (fun b o' hb u hu => (World.cell?_of_block (w := W) (GW.out.block b (by omega) (fun e => by have := (HOL.out b e.symm).1; omega))).trans hu) (Nat.le_refl _); obtain ⟨b, off, rfl, hbN, hcell⟩ := hA2.hp (by show 0 < ks.length; rw [HK.out]; omega); obtain ⟨q0, q1, q2, q3⟩ := hcell j a hak; have hmj : Mj.length = 1 + szs (ks.take j) := by
          have := congrArg List.length LW.out; rw [List.length_map, List.length_cons, pres_szs] at this; omega
        have hst := szs_take hak; have hsl := szs_take_le (j + 1) ks; have CG := Lib.hid (HIH.out a hmem N B (M ++ Mj) _ _ (l + 1) wr (hA2.hx j a hak) hNB (by omega) OW.out (by rw [List.length_append]; omega)); have PT := Lib.hid (pres_take (l := l + 1) hak); clear hA2 hcell hak hmem hmj hst hsl; generalize a.op = ao at *
        generalize a.n = an at *
        generalize a.nm = am at *
        generalize a.args.length = ak at *
        generalize pl j = ap at *
        generalize cl j = ac at *
        go_wp2_with (go_at_call 153; ((with_reducible refine CG.out.mono ?_); rintro e w5 ⟨v5, M5, rfl, ho5, hm5, hg5, hv5⟩; have HO5 := Lib.hid ho5; have HM5 := Lib.hid hm5; have HG5 := Lib.hid hg5; have HV5 := Lib.hid hv5; clear ho5 hm5 hg5 hv5))
        go_roundw
        case rel => exact ⟨j + 1, Mj ++ M5, by omega, by go_num, Lib.hid (by rw [← List.append_assoc]; exact HO5.out), Lib.hid (by rw [List.map_append, LW.out, HM5.out, PT.out]; rfl),
          Lib.hid (grow_trans GW.out HG5.out (fun b e => (UW.out b e).imp (fun h => h) (fun h => by omega))), Lib.hid (fun k e => (HV5.out k e).elim (fun h => UW.out k h) (fun h => .inr (by have := FW.out.lt; omega))),
          Lib.hid (blk_eq FW.out (HG5.out.block _ FW.out.lt (fun e => (UW.out _ e.symm).elim (fun h => hgb h) (fun h => by omega))))⟩
        case measure => simp [intOf]; omega
      · have E : Hid (ks.take j = ks) := Lib.hid (List.take_of_length_le (by rw [HK.out]; omega)); go_wp2; go_ret; exact ⟨_, Mj, rfl, OW.out, by rw [LW.out, E.out, HPR.out], GW.out, fun k e => (UW.out k e).imp (fun h => h) (fun h => by omega)⟩
end Go.Proofs.YtpejflgdehioaaaGreatDoor.ItW
namespace Go.Proofs.YtpejflgdehioaaaGreatDoor.ItW
open Go Go.RowKit Go.Proofs.YtpejflgdehioaaaGreatDoor.NumM Go.Proofs.YtpejflgdehioaaaGreatDoor.LexW Go.Proofs.YtpejflgdehioaaaGreatDoor.LexM Go.Proofs.YtpejflgdehioaaaGreatDoor.ExM Go.Proofs.YtpejflgdehioaaaGreatDoor.ExW Go.Proofs.YtpejflgdehioaaaGreatDoor.ItM
open Go.Proofs.YtpejflgdehioaaaGreatDoor.ClM (Fld firstE)
set_option maxRecDepth 100000 in
set_option maxHeartbeats 4000000 in
theorem nodesR_any (e : Ex) (N : Nat) (va : Value) (w : World) (hx : ExAt N w va e) (hN : N ≤ w.heap.size) (hsz : sz e ≤ 10000) :
    Calls Tryz.prog 102 #[va] w fun x w' => ∃ v' M2, x = .returned v' ∧ w'.ownsRow w.heap.size 43 4 v' (M2 : List NdV).length (M2.flatMap ndC) ∧ M2.map NdV.x = pre 1 e ∧ Below w.heap.size w w' := by
  have hb := ba w (.cells #[.int .i64 e.op, .int .i64 e.n, .string e.nm, (fun v : Value => match v with | .agg a => a.getD 3 undef | _ => undef) va] 43); obtain ⟨p, cap, pl, cl, rfl, hs, _⟩ := hx.form; have hb1 := ba w (.cells #[.int .i64 e.op, .int .i64 e.n, .string e.nm, .slice p e.args.length cap] 43); have GC0 := gatherR_any e N w.heap.size [] (.slice none 0 0) _ 1 (w.alloc (.cells #[.int .i64 e.op, .int .i64 e.n, .string e.nm, .slice p e.args.length cap] 43)) (hx.under (hb1.mono hN)) hN (by rw [World.size_alloc]; omega) (World.ownsRow_nil _ _ _ _) (by simpa using hsz); have GC := Lib.hid GC0; have B0 := Blk.new w [.int .i64 e.op, .int .i64 e.n, .string e.nm, .slice p e.args.length cap] 43; have c0 := B0.c 0 _ rfl; have c1 := B0.c 1 _ rfl; have c2 := B0.c 2 _ rfl; have c3 := B0.c 3 _ rfl; have HB := Lib.hid hb1; clear hx hs hb hb1 GC0 B0; generalize pre 1 e = L at *
  generalize e.op = o at *
  generalize e.n = n at *
  generalize e.nm = s at *
  generalize e.args.length = K at *
  go_enter Tryz.func102, Tryz.ntmps102
  go_wp2_with (go_at_call 153; ((with_reducible refine GC.out.mono ?_); rintro e w5 ⟨v5, M5, rfl, ho5, hm5, hg5, _⟩; have HO5 := Lib.hid ho5; have HM5 := Lib.hid hm5; have HG5 := Lib.hid hg5; clear ho5 hm5 hg5))
  go_ret; refine ⟨_, M5, rfl, by simpa using HO5.out, HM5.out, HB.out.then_ ?_⟩; exact below_of_grown (by simpa [Value.ownBlock] using HG5.out)
theorem row4 {w : World} {B : Nat} {v : Value} {M : List NdV} (h : w.ownsRow B 43 4 v M.length (M.flatMap ndC)) : ∃ p cap, v = .slice p M.length cap ∧ (0 < M.length → ∃ g, p = some ⟨g, 0, none⟩ ∧ ∀ (j : Nat) (y : NdV), M[j]? = some y →
    w.cell? ⟨g, j * 4, none⟩ = some (.int .i64 y.x.op) ∧ w.cell? ⟨g, j * 4 + 1, none⟩ = some (.int .i64 y.x.n) ∧ w.cell? ⟨g, j * 4 + 2, none⟩ = some (.string y.x.nm) ∧ w.cell? ⟨g, j * 4 + 3, none⟩ = some (.slice y.p y.x.k y.c)) := by
  obtain ⟨p, cap, rfl, hc, h0⟩ := own_at h (flat_len ndC_len M); refine ⟨p, cap, rfl, fun hp => ?_⟩; obtain ⟨g, rfl, hg, _, hcell⟩ := h0 hp; refine ⟨g, rfl, fun j y hy => ?_⟩; have q := (fun r hr => flat_at ndC_len M j r y hy hr); exact ⟨hcell _ _ (q 0 (by decide)), hcell _ _ (q 1 (by decide)), hcell _ _ (q 2 (by decide)), hcell _ _ (q 3 (by decide))⟩
def innR (kd : Int) (ix : ByteArray) (B : List ByteArray) : List ByteArray := if kd = 5 then B ++ [ix] else B
theorem mem_innR (kd : Int) (ix : ByteArray) (B B' : List ByteArray) (h : ∀ s, memB B' s = memB B s) (s : ByteArray) : memB (innR kd ix B') s = memB (inn kd ix B) s := by
  unfold innR inn; split
  · have h2 := h s; unfold memB at h2 ⊢; rw [List.any_append, List.any_cons, List.any_cons, List.any_nil, h2, Bool.or_false, Bool.or_comm]
  · exact h s
def tRow (L : List ByteArray) (w : World) (x : Ending) (w' : World) : Prop := ∃ v, x = .returned v ∧ w'.ownsRow w.heap.size 9 1 v L.length (L.map Value.string) ∧ Below w.heap.size w w'
set_option maxRecDepth 100000 in
set_option maxHeartbeats 8000000 in
theorem innerR_any (x : It) (a4 a7 a8 a9 a10 a11 : Value) (B : List ByteArray) (vi : Value) (N : Nat) (w : World) (h : IV N w a4 a7 a8 a9 a10 a11 x) (hb : StA N w vi B) (hN : N ≤ w.heap.size) (hB : B.length ≤ 100000) :
    Calls Tryz.prog 70 #[iv x.kd x.e.op x.e.n x.e.nm a4 x.nm x.ix a7 a8 a9 a10 a11, vi] w (tRow (innR x.kd x.ix B) w) := by
  obtain ⟨kd, o, n, en, p4, k4, c4, nm, ix, p7, k7, c7, p8, k8, c8, p9, k9, c9, p10, k10, c10, p11, k11, c11, ev, hv⟩ := h.open_; have ev2 := ev; simp only [Value.agg.injEq, Array.mk.injEq, List.cons.injEq] at ev2; obtain ⟨-, -, -, -, rfl, -, -, rfl, rfl, rfl, rfl, rfl, -⟩ := ev2; rw [ev]; obtain ⟨e0, e1, e2, e3, e5, e6, l4, l7, l8, l9, l10, l11, -⟩ := hv; rw [e0, e6]; obtain ⟨i0, hi, hz0, hz1, hz2⟩ := info_parts infoS; have hb2 := hb; obtain ⟨p, cap, rfl, hl, hc, hs, _⟩ := hb; obtain ⟨K, hK⟩ : ∃ K, B.length = K := ⟨_, rfl⟩; have HK := Lib.hid hK; rw [hK] at hl hb2 hB ⊢; clear h ev e0 e1 e2 e3 e5 e6 l4 l7 l8 l9 l10 l11 hs hc; have F0 := (Blk.new w (ics kd o n en (.slice p4 k4 c4) nm ix (.slice p7 k7 c7) (.slice p8 k8 c8) (.slice p9 k9 c9) (.slice p10 k10 c10) (.slice p11 k11 c11)) 55).stay (ba _ (.cells #[] 9)); have hbb := (ba w (.cells (ics kd o n en (.slice p4 k4 c4) nm ix (.slice p7 k7 c7) (.slice p8 k8 c8) (.slice p9 k9 c9) (.slice p10 k10 c10) (.slice p11 k11 c11)).toArray 55)).then_ (ba _ (.cells #[] 9)); have hz2' : ((w.alloc (.cells (ics kd o n en (.slice p4 k4 c4) nm ix (.slice p7 k7 c7) (.slice p8 k8 c8) (.slice p9 k9 c9) (.slice p10 k10 c10) (.slice p11 k11 c11)).toArray 55)).alloc (.cells #[] 9)).heap.size = w.heap.size + 1 + 1 := (by rw [World.size_alloc, World.size_alloc]); have HO0 : ((w.alloc (.cells (ics kd o n en (.slice p4 k4 c4) nm ix (.slice p7 k7 c7) (.slice p8 k8 c8) (.slice p9 k9 c9) (.slice p10 k10 c10) (.slice p11 k11 c11)).toArray 55)).alloc (.cells #[] 9)).ownsRow w.heap.size 9 1 (.slice (some ⟨w.heap.size + 1, 0, none⟩) 0 0) 0 [] :=
    ⟨rfl, .inr ⟨w.heap.size + 1, 0, #[], rfl, Nat.le_succ _, by
      have := heap_alloc_new (w.alloc (.cells (ics kd o n en (.slice p4 k4 c4) nm ix (.slice p7 k7 c7) (.slice p8 k8 c8) (.slice p9 k9 c9) (.slice p10 k10 c10) (.slice p11 k11 c11)).toArray 55)) (.cells #[] 9); rw [World.size_alloc] at this; exact this, Nat.le_refl _, Nat.zero_le _, rfl, rfl⟩⟩
  simp only [List.toArray] at F0 hbb hz2' HO0; obtain ⟨W0, hW0⟩ : ∃ W0, (w.alloc (.cells #[.int .i64 kd, .int .i64 o, .int .i64 n, .string en, .slice p4 k4 c4, .string nm, .string ix, .slice p7 k7 c7, .slice p8 k8 c8, .slice p9 k9 c9, .slice p10 k10 c10, .slice p11 k11 c11] 55)).alloc (.cells #[] 9) = W0 := ⟨_, rfl⟩; rw [hW0] at F0 hbb hz2' HO0; have d0 := F0.c 0 _ rfl; have d6 := F0.c 6 _ rfl; have HF := Lib.hid F0; have HBB := Lib.hid hbb; have HO := Lib.hid HO0; have HZ := Lib.hid hz2'; have HI : Hid (innR kd ix B = if kd = 5 then B ++ [ix] else B) := Lib.hid rfl; clear F0 hbb HO0 hz2' hK; cases p with
  | none =>
    obtain ⟨h1, h3⟩ := hb2.none_len; have H3 := Lib.hid h3; subst h1; clear hb2 h3; by_cases h5 : kd = 5
    · subst h5; have HI5 : Hid (innR 5 ix B = B ++ [ix]) := Lib.hid (by rw [HI.out]; exact if_pos rfl); clear HI; have HO1 := Lib.hid (own_later HO.out (ba W0 (.cells #[.string ix] 9)))
      go_enter Tryz.func70, Tryz.ntmps70
      go_wp2_with (at_builtin; refine wpList_append_own _ rfl _ _ 27 rfl w.heap.size 9 i0 (.string ⟨#[]⟩) 1 16 Tryz.underlying27 hi hz0 hz1 hz2 rfl (by decide) _ 0 [] rfl HO1.out ⟨W0.heap.size, 0, none⟩ 1 1 [.string ix] rfl rfl (by exact cell_one_at rfl _ _) (by simp [Value.oneCell']) (by unfold maxLen; omega) (by omega) (by rw [World.size_alloc, HZ.out]; omega) ?_)
      intro v' w2 hown' hgrow _; have HO2 := Lib.hid hown'; have HG2 := Lib.hid hgrow; clear hown' hgrow; clear hW0; go_wp2; go_ret; refine ⟨_, rfl, ?_, (HBB.out.then_ (ba W0 (.cells #[.string ix] 9))).grown HG2.out (by rw [World.size_alloc, HZ.out]; omega) (fun k e => by simp [Value.ownBlock] at e; omega)⟩; rw [HI5.out, H3.out]; exact HO2.out
    · have f5 : (kd == 5) = false := (by rw [beq_eq_false_iff_ne]; exact h5); have HIn : Hid (innR kd ix B = B) := Lib.hid (by rw [HI.out]; exact if_neg h5); clear HI
      go_enter Tryz.func70, Tryz.ntmps70
      go_wp2; go_ret; refine ⟨_, rfl, ?_, HBB.out⟩; rw [HIn.out, H3.out]; exact HO.out
  | some ad =>
    have HNS := Lib.hid hb2.news.2; have N1 := Lib.hid (one_str B); have hfl : Hid ((B.map Value.string).length = K * 1) := Lib.hid (by rw [List.length_map, HK.out, Nat.mul_one]); clear hb2; by_cases h5 : kd = 5
    · subst h5; have HI5 : Hid (innR 5 ix B = B ++ [ix]) := Lib.hid (by rw [HI.out]; exact if_pos rfl); clear HI
      go_enter Tryz.func70, Tryz.ntmps70
      go_wp2_with (at_builtin; refine wpList_append_own _ rfl _ _ 27 rfl w.heap.size 9 i0 (.string ⟨#[]⟩) 1 16 Tryz.underlying27 hi hz0 hz1 hz2 rfl (by decide) _ 0 [] rfl HO.out ad K cap (B.map Value.string) rfl hfl.out (HNS.out _ (HBB.out.mono hN)) N1.out (by unfold maxLen; omega) (by omega) (by rw [HZ.out]; omega) ?_)
      intro v' w2 hown' hgrow _; have HB2 : Hid (Below w.heap.size w w2) := Lib.hid (HBB.out.grown hgrow (by rw [HZ.out]; omega) (fun k e => by simp [Value.ownBlock] at e; omega)); have hzz := hgrow.size; rw [HZ.out] at hzz; have F2 := Lib.hid (blk_eq HF.out (hgrow.block w.heap.size (by rw [HZ.out]; omega) (by simp [Value.ownBlock]))); clear d0 d6; have d0 := F2.out.c 0 _ rfl; have d6 := F2.out.c 6 _ rfl; obtain ⟨v'', hv''⟩ : ∃ x, x = v' := ⟨_, rfl⟩; obtain ⟨qv, kv, cv, rfl⟩ := own_slice hown'; have HO1 := Lib.hid (own_later hown' (ba w2 (.cells #[.string ix] 9))); have HOW := Lib.hid (own_lt hown'); clear hown' hgrow hv'' hW0; go_wp2_with (at_builtin; go_loud (refine wpList_append_own _ rfl _ _ 27 rfl w.heap.size 9 i0 (.string ⟨#[]⟩) 1 16 Tryz.underlying27 hi hz0 hz1 hz2 rfl (by decide) _ K (B.map Value.string) rfl HO1.out ⟨w2.heap.size, 0, none⟩ 1 1 [.string ix] rfl rfl (by exact cell_one_at rfl _ _) (by simp [Value.oneCell']) (by unfold maxLen; omega) (by omega) (by rw [World.size_alloc]; omega) ?_))
      intro v3 w3 hown' hgrow _; have HO3 := Lib.hid hown'; have HB3 : Hid (Below w.heap.size w w3) := Lib.hid ((HB2.out.then_ (ba w2 (.cells #[.string ix] 9))).grown hgrow (by rw [World.size_alloc]; omega) (fun k e => (HOW.out k e).1)); clear hown' hgrow; go_wp2; go_ret; refine ⟨_, rfl, ?_, HB3.out⟩; rw [HI5.out, List.length_append, List.map_append, HK.out]; exact HO3.out
    · have f5 : (kd == 5) = false := (by rw [beq_eq_false_iff_ne]; exact h5); have HIn : Hid (innR kd ix B = B) := Lib.hid (by rw [HI.out]; exact if_neg h5); clear HI
      go_enter Tryz.func70, Tryz.ntmps70
      go_wp2_with (at_builtin; refine wpList_append_own _ rfl _ _ 27 rfl w.heap.size 9 i0 (.string ⟨#[]⟩) 1 16 Tryz.underlying27 hi hz0 hz1 hz2 rfl (by decide) _ 0 [] rfl HO.out ad K cap (B.map Value.string) rfl hfl.out (HNS.out _ (HBB.out.mono hN)) N1.out (by unfold maxLen; omega) (by omega) (by rw [HZ.out]; omega) ?_)
      intro v' w2 hown' hgrow _; have HB2 : Hid (Below w.heap.size w w2) := Lib.hid (HBB.out.grown hgrow (by rw [HZ.out]; omega) (fun k e => by simp [Value.ownBlock] at e; omega)); have F2 := Lib.hid (blk_eq HF.out (hgrow.block w.heap.size (by rw [HZ.out]; omega) (by simp [Value.ownBlock]))); have HO2 := Lib.hid hown'; clear d0 d6 hown' hgrow hW0; have d0 := F2.out.c 0 _ rfl; go_wp2; go_ret; refine ⟨_, rfl, ?_, HB2.out⟩; rw [HIn.out, HK.out]; have := HO2.out
      (try rw [Nat.zero_add] at this)
      (try rw [List.nil_append] at this)
      exact this
end Go.Proofs.YtpejflgdehioaaaGreatDoor.ItW
