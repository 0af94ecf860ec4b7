/-
  Laws that the card uses; no conditions beside those that each states (ItCntM ItNodes ItIdx ItRFld ItScM ClMem ClLaid ExLaid).
-/
import Derived.Shelf.Strconv.ErrVarAll
import Derived.Deep.AppendLies
import Derived.Deep.RegionLaw
import Derived.LoopN
import Derived.Lib.AppendZerosOnto
import Derived.Test.YtpejflgdehioaaaGreatDoorCards
import Derived.Test.YtpejflgdehioaaaGreatDoorTie
import Derived.ProofKit
import Derived.LaidMore
import Derived.OpenShut
import Derived.Stop.Joined
import Derived.Stop.LaidErr
import Derived.SizedLaws
import Derived.Carry
import Derived.Deep.DeepHandedRow
import Derived.Deep.DeepWitnessRowRef
import Derived.Deep.Slices
import Derived.Test.YtpejflgdehioaaaGreatDoorT07
import Derived.Test.YtpejflgdehioaaaGreatDoorT08
import Derived.Test.YtpejflgdehioaaaGreatDoorT09
namespace Go.Proofs.YtpejflgdehioaaaGreatDoor.ItM
open Go Go.Proofs.YtpejflgdehioaaaGreatDoor.WordM Go.Proofs.YtpejflgdehioaaaGreatDoor.LexM Go.Proofs.YtpejflgdehioaaaGreatDoor.ExM
def okB (x : It) : Bool := decide (sz x.e ≤ 60) && (decide (x.ws.length ≤ 20) && (decide (x.bf.length ≤ 20) && (decide (x.af.length ≤ 20) && (decide (x.nm.size ≤ 40) && decide (x.ix.size ≤ 40)))))
mutual
/-- What a constraint's own lists add. -/
def lcI : It → Int → Int
  | .mk _ _ _ _ _ it el _ _, m => lcL it m it.length + lcL el m el.length
/-- What count returns, k being counted. -/
def lcL : List It → Int → Int → Int
  | [], _, k => k
  | a :: r, n, k => if k ≤ n then (if okB a = true then lcL r n (k + lcI a (n - k)) else n + 1) else k
end
theorem lcI_eq (x : It) (m : Int) : lcI x m = lcL x.it m x.it.length + lcL x.el m x.el.length := by cases x; rw [lcI]; rfl
theorem lcL_nil (n k : Int) : lcL [] n k = k := by rw [lcL]
theorem lcL_cons (a : It) (r : List It) (n k : Int) : lcL (a :: r) n k = if k ≤ n then (if okB a = true then lcL r n (k + lcI a (n - k)) else n + 1) else k := by rw [lcL]
mutual
def FwI : It → Prop
  | .mk kd e nm ix ws it el bf af => okB (.mk kd e nm ix ws it el bf af) = true ∧ FwL it ∧ FwL el
/-- All constraints, at any depth, are played. -/
def FwL : List It → Prop
  | [] => True
  | a :: r => FwI a ∧ FwL r
end
theorem fwI_eq (x : It) : FwI x ↔ okB x = true ∧ FwL x.it ∧ FwL x.el := by cases x; rw [FwI]; rfl
theorem fwL_nil : FwL [] := by rw [FwL]; trivial
theorem fwL_cons (a : It) (r : List It) : FwL (a :: r) ↔ FwI a ∧ FwL r := by rw [FwL]
theorem okB_iff {x : It} : okB x = true ↔ sz x.e ≤ 60 ∧ x.ws.length ≤ 20 ∧ x.bf.length ≤ 20 ∧ x.af.length ≤ 20 ∧ x.nm.size ≤ 40 ∧ x.ix.size ≤ 40 := by
  unfold okB; simp only [Bool.and_eq_true, decide_eq_true_eq]
theorem fw_rs (l : List It) : FwL l → RsL l := by
  induction l using its_rec with
  | h0 => intro _; exact rsL_nil
  | h1 x r h1 h2 h3 =>
    intro h; rw [fwL_cons, fwI_eq, okB_iff] at h; rw [rsL_cons, rsI_eq]; refine ⟨⟨⟨?_, ?_, ?_, ?_⟩, h1 h.1.2.1, h2 h.1.2.2⟩, h3 h.2⟩ <;> omega
theorem lc_ge (l : List It) : ∀ n k : Int, (0 ≤ k → k ≤ lcL l n k) ∧ (n ≤ 70 → 0 ≤ k → lcL l n k ≤ k + 73 * (iszs l : Int) - (l.length : Int)) := by
  induction l using its_rec with
  | h0 => intro n k; rw [lcL_nil, iszs_nil, List.length_nil]; omega
  | h1 x r h1 h2 h3 =>
    intro n k; rw [lcL_cons, iszs_cons, isz_eq, List.length_cons]; have l0 := len_iszs r; have a1 := h1 (n - k) x.it.length; have a2 := h2 (n - k) x.el.length; have l1 := len_iszs x.it; have l2 := len_iszs x.el; split
    · split
      · have e := lcI_eq x (n - k); have a3 := h3 n (k + lcI x (n - k)); have b1 := a1.1 (by omega); have b2 := a2.1 (by omega); refine ⟨fun hk => ?_, fun hn hk => ?_⟩
        · have := a3.1 (by omega); omega
        · have c1 := a1.2 (by omega) (by omega); have c2 := a2.2 (by omega) (by omega); have := a3.2 hn (by omega); omega
      · omega
    · omega
theorem lc_true (l : List It) : ∀ n k : Int, 0 ≤ k → lcL l n k ≤ n → FwL l ∧ lcL l n k = k + (iszs l : Int) - (l.length : Int) := by
  induction l using its_rec with
  | h0 => intro n k _ _; rw [lcL_nil, iszs_nil]; exact ⟨fwL_nil, by simp⟩
  | h1 x r h1 h2 h3 =>
    intro n k hk h; rw [lcL_cons] at h ⊢; rw [iszs_cons, isz_eq, fwL_cons, fwI_eq, List.length_cons]; split at h
    · rename_i hkn; rw [if_pos hkn]; split at h
      · rename_i hok; rw [if_pos hok]; have e := lcI_eq x (n - k); have a1 := (lc_ge x.it (n - k) x.it.length).1 (by omega); have a2 := (lc_ge x.el (n - k) x.el.length).1 (by omega); have a3 := (lc_ge r n (k + lcI x (n - k))).1 (by omega); obtain ⟨f1, g1⟩ := h1 (n - k) x.it.length (by omega) (by omega); obtain ⟨f2, g2⟩ := h2 (n - k) x.el.length (by omega) (by omega); obtain ⟨f3, g3⟩ := h3 n (k + lcI x (n - k)) (by omega) h; refine ⟨⟨⟨hok, f1, f2⟩, f3⟩, ?_⟩; rw [g3]; omega
      · omega
    · omega
def fewB (l : List It) : Bool := decide (lcL l 70 (l.length : Int) ≤ 70)
theorem few_true {l : List It} (h : fewB l = true) : FwL l ∧ iszs l ≤ 70 := by
  obtain ⟨h1, h2⟩ := lc_true l 70 l.length (by omega) (of_decide_eq_true h); have := of_decide_eq_true h; exact ⟨h1, by omega⟩
end Go.Proofs.YtpejflgdehioaaaGreatDoor.ItM
namespace Go.Proofs.YtpejflgdehioaaaGreatDoor.ItW
open Go Go.RowKit Go.Shelf Go.Proofs.YtpejflgdehioaaaGreatDoor.LexW Go.Proofs.YtpejflgdehioaaaGreatDoor.LexM Go.Proofs.YtpejflgdehioaaaGreatDoor.ExM Go.Proofs.YtpejflgdehioaaaGreatDoor.ExW Go.Proofs.YtpejflgdehioaaaGreatDoor.ItM
attribute [local go_sem] Oper.semAt_some
abbrev enc1 (x : Nd) : Array Value := #[xv x.op x.n x.nm (.slice x.p x.k x.cap)]
def CameN (J Jx : List Nd → World → Prop) (n₀ n₁ : Nat) (L : List In) (bef : List Nd) (W : World) (e : Ending) (W' : World) : Prop :=
  (e = .returned (.bool true) ∧ (∃ ys : List Nd, ys.map Nd.info = L ∧ J (bef ++ ys) W') ∧ KeepC n₀ n₁ W W') ∨
  (e = .returned (.bool false) ∧ ∃ q : List Nd, q.map Nd.info <+: L ∧ Jx (bef ++ q) W')
set_option maxRecDepth 100000 in
set_option maxHeartbeats 4000000 in
theorem walkN_in (F : Fence) (hd : F.depth = none) (h60 : F.fn 148) (hro : F.round = none) (l n₀ n₁ NN yb wb : Nat) (J Jx : List Nd → World → Prop) (hn : n₀ ≤ n₁)
    (hJ : ∀ s A B, J s A → A.grownBy B none → J s B) (hyb : n₁ ≤ yb) (hwb : n₁ ≤ wb)
    (G : In → Prop) (hY : ∀ m bef (x : Nd) W, J bef W → G x.info → bef.length < NN → YieldAt F m Tryz.prog l (enc1 x) W fun e W' =>
      (e = .returned (.bool true) ∧ J (bef ++ [x]) W' ∧ KeepC n₀ n₁ W W') ∨ (e = .returned (.bool false) ∧ Jx (bef ++ [x]) W')) (e : Ex) :
    ∀ (n lv : Nat) (v : Value) (bef : List Nd) (W : World), ExAt n₀ W v e → J bef W → n₁ ≤ W.heap.size → bef.length + sz e ≤ NN → lv + sz e ≤ 100000 → (∀ y ∈ pre lv e, G y) →
      Boxed W yb 171 (.func (.yield l) #[] #[]) → Boxed W wb 171 (.func (.func 148) #[] #[.pointer (some ⟨yb, 0, none⟩), .pointer (some ⟨wb, 0, none⟩)]) →
      CallsIn F n Tryz.prog 148 #[v, .pointer (some ⟨yb, 0, none⟩), .pointer (some ⟨wb, 0, none⟩)] W (CameN J Jx n₀ n₁ (pre lv e) bef W) := by
  have hdd : ∀ k : Nat, (F.depth.isSome = true → 1 ≤ k) := (fun k h => by rw [hd] at h; cases h); induction e using Ex.ind with
  | h o num s ks ih =>
    intro n lv v bef W hx hJ0 hsz hNN hlv hG cy cw; obtain ⟨p, cap, pl, cl, rfl, hs, ha⟩ := hx.form; simp only [Ex.op, Ex.n, Ex.nm, Ex.args] at hs ha ⊢; have hks : ks.length ≤ 140737488351232 := ha.hl; rw [sz_mk] at hNN hlv; rw [pre_mk] at hG ⊢; obtain ⟨K, hK⟩ : ∃ K, ks.length = K := ⟨_, rfl⟩; have HK := Lib.hid hK; rw [hK] at hks hG ⊢; clear hK; obtain ⟨x, hxd⟩ : ∃ x : Nd, x = ⟨lv, o, num, s, p, K, cap, by omega, hs, hks⟩ := ⟨_, rfl⟩; have hxe : enc1 x = #[xv o num s (.slice p K cap)] := (by rw [hxd]); have hxi : x.info = ⟨lv, o, num, s, K⟩ := (by rw [hxd]; rfl); have four := Four.new W (.int .i64 o) (.int .i64 num) (.string s) (.slice p K cap) 43; have hb1 : Below W.heap.size W (W.alloc (.cells #[.int .i64 o, .int .i64 num, .string s, .slice p K cap] 43)) := (Below.refl _ _).alloc (Nat.le_refl _) _; have hy1 := hY (n - 1) bef x _ (hJ _ _ _ hJ0 (grown_of_below hb1)) (by rw [hxi]; exact hG _ List.mem_cons_self) (by omega); rw [hxe] at hy1; obtain ⟨fn, tmps, assign, body, hy, hR⟩ := hy1; have by1 := cy.alloc (.cells #[.int .i64 o, .int .i64 num, .string s, .slice p K cap] 43); have bw1 := cw.alloc (.cells #[.int .i64 o, .int .i64 num, .string s, .slice p K cap] 43); have be1 : (W.alloc (.cells #[.int .i64 o, .int .i64 num, .string s, .slice p K cap] 43)).heap[W.heap.size]? = some (.cells #[.int .i64 o, .int .i64 num, .string s, .slice p K cap] 43) := heap_alloc_new _ _; have HBE := Lib.hid be1; have HBY := Lib.hid by1; have HBW := Lib.hid bw1; have cy1 := by1.cell; have cw1 := bw1.cell; have HY := Lib.hid hY; have HG := Lib.hid hG; have HIH := Lib.hid ih; have HXI := Lib.hid hxi; have HJ := Lib.hid hJ; have HA := Lib.hid ha; clear hY hG ih hxi hJ ha hxd hxe hJ0 be1 by1 bw1; have four0 := four.c0; have four1 := four.c1; have four2 := four.c2; have four3 := four.c3; refine callsIn_of_wp Tryz.func148 rfl h60 ?_ hro; simp only [Tryz.ntmps148, List.size_toArray, List.length_cons, List.length_nil, Nat.reduceAdd, Nat.reduceSub, Array.replicate_succ, Array.replicate_zero, List.push_toArray, List.append_toArray, List.nil_append, List.cons_append]
    gi_wp2
    refine hR.mono ?_; rintro e W2 (⟨rfl, hJ2, hk2⟩ | ⟨rfl, hJx2⟩)
    · have c3 : W2.cell? ⟨W.heap.size, 3, none⟩ = some (.slice p K cap) := by
        have := hk2.high _ _ hsz (okC (by decide)) HBE.out; simp [World.cell?, this]
      have HCY := Lib.hid cy; have HCW := Lib.hid cw; have HKW : Hid (KeepC n₀ n₁ W W2) := Lib.hid ((KeepC.of_below hb1).trans hk2); have HJ2 := Lib.hid hJ2; clear four four0 four1 four2 four3 cw1 cy1 cw cy hJ2 hk2 hb1
      gi_wp2
      gi_loopw [14] (fun i wr => ∃ (k : Nat) (ys : List Nd), k ≤ K ∧ i = .int .i64 k ∧ Hid (ys.map Nd.info = pres (lv + 1) (ks.take k)) ∧ Hid (J (bef ++ [x] ++ ys) wr) ∧ Hid (KeepC n₀ n₁ W wr)) (fun i _ => K - (intOf i).toNat)
      case atStart => exact ⟨0, [], Nat.zero_le _, rfl, Lib.hid (by rw [List.take_zero, pres_nil]; rfl), Lib.hid (by rw [List.append_nil]; exact HJ2.out), HKW⟩
      case round =>
        obtain ⟨k, ys, hk, rfl, YS, JW, KW⟩ := hrel; clear c3; by_cases hlt : k < K
        · obtain ⟨b, off, rfl, hbs, hcell⟩ := HA.out.hp (by rw [HK.out]; omega); obtain ⟨a, hak⟩ : ∃ a, ks[k]? = some a := ⟨_, List.getElem?_eq_getElem (by rw [HK.out]; exact hlt)⟩; obtain ⟨q0, q1, q2, q3⟩ := hcell k a hak; have ca0 := KW.out.tree hbs q0; have ca1 := KW.out.tree hbs q1; have ca2 := KW.out.tree hbs q2; have ca3 := KW.out.tree hbs q3; have b1 : Boxed wr yb 171 (.func (.yield l) #[] #[]) := KW.out.high _ _ hyb (okC (by decide)) HCY.out; have b2 : Boxed wr wb 171 (.func (.func 148) #[] #[.pointer (some ⟨yb, 0, none⟩), .pointer (some ⟨wb, 0, none⟩)]) := KW.out.high _ _ hwb (okC (by decide)) HCW.out; have c1 := b1.cell; have c2 := b2.cell; have hwl := cell_lt c2; have hyl' := cell_lt c1; have HB1 := Lib.hid hbs; have hblt := cell_lt ca0; obtain ⟨pa, hpa⟩ : ∃ pa, pl k = pa := ⟨_, rfl⟩; obtain ⟨ka, hka⟩ : ∃ ka, a.args.length = ka := ⟨_, rfl⟩; obtain ⟨ca, hca⟩ : ∃ ca, cl k = ca := ⟨_, rfl⟩; have hxa := (HA.out.hx k a hak).kept (fun _ _ hb _ hv => KW.out.tree hb hv) (Nat.le_refl _); rw [hpa, hka, hca] at ca3 hxa; have HC : Hid (∀ Wx, Below wr.heap.size wr Wx → CallsIn F (n - 1) Tryz.prog 148 #[xv a.op a.n a.nm (.slice pa ka ca), .pointer (some ⟨yb, 0, none⟩), .pointer (some ⟨wb, 0, none⟩)] Wx (CameN J Jx n₀ n₁ (pre (lv + 1) a) (bef ++ [x] ++ ys) Wx)) := Lib.hid fun Wx hbx => by
            have hsa := szs_take hak; have hsb := szs_take_le (k + 1) ks; have hyl : ys.length = szs (ks.take k) := by rw [← pres_len (l := lv + 1) (fun a _ => pre_len a _), ← YS.out, List.length_map]
            have q := HIH.out a (List.mem_of_getElem? hak) (n - 1) (lv + 1) _ _ Wx (hxa.under (hbx.mono (by omega))) (HJ.out _ _ _ JW.out (grown_of_below hbx)) (by have := hbx.size; have := KW.out.size; omega) (by simp; omega) (by omega) (fun y hy => HG.out y (List.mem_cons_of_mem _ (mem_pres.2 ⟨a, List.mem_of_getElem? hak, hy⟩)))
              ((hbx.block yb hyl').trans b1) ((hbx.block wb hwl).trans b2)
            exact q
          clear hcell q0 q1 q2 q3 hpa hka hca hxa b1 b2; have hb2 : Below wr.heap.size wr (wr.alloc (.cells #[.int .i64 a.op, .int .i64 a.n, .string a.nm, .slice pa ka ca] 43)) := (Below.refl _ _).alloc (Nat.le_refl _) _; have HB2 := Lib.hid hb2; have HTK := Lib.hid (pres_take (l := lv + 1) hak); have HPR : Hid (pres (lv + 1) (ks.take (k + 1)) <+: pres (lv + 1) ks) := Lib.hid (by
            have := pres_append (lv + 1) (ks.take (k + 1)) (ks.drop (k + 1)); rw [List.take_append_drop] at this; exact ⟨_, this.symm⟩)
          clear hb2 hak
          gi_wp2_with ((try refine ⟨hdd _, ?_⟩); gi_at_call 148; refine (HC.out _ HB2.out).mono ?_; clear HC; rintro e W5 (⟨rfl, hys, hk5⟩ | ⟨rfl, hq⟩))
          · have H5 := Lib.hid hys; have KW5 : Hid (KeepC n₀ n₁ W W5) := Lib.hid ((KW.out.trans (KeepC.of_below HB2.out)).trans hk5); clear hys hk5; go_roundw
            case rel =>
              obtain ⟨zs, hz, hj⟩ := H5.out; exact ⟨k + 1, ys ++ zs, by omega, by go_num, Lib.hid (by rw [HTK.out, List.map_append, YS.out, hz]), Lib.hid (by rw [← List.append_assoc]; exact hj), KW5⟩
            case measure => simp [intOf]; omega
          · have H5 := Lib.hid hq; clear hq; go_ret; obtain ⟨q, hq1, hq2⟩ := H5.out; refine .inr ⟨rfl, x :: (ys ++ q), ?_, by simpa [List.append_assoc] using hq2⟩; rw [List.map_cons, HXI.out, List.map_append, YS.out]; refine (List.prefix_cons_inj _ |>.2 (List.IsPrefix.trans ?_ HPR.out)); rw [HTK.out]; exact (List.prefix_append_right_inj _).2 hq1
        · have hkK : k = K := (by omega); have YS2 : Hid (ys.map Nd.info = pres (lv + 1) ks) := Lib.hid (by rw [YS.out, hkK, ← HK.out, List.take_length]); clear hkK
          gi_wp2
          go_ret; exact .inl ⟨rfl, ⟨x :: ys, by rw [List.map_cons, HXI.out, YS2.out], by simpa [List.append_assoc] using JW.out⟩, KW.out⟩
    · gi_wp2
      go_ret; exact .inr ⟨rfl, [x], by rw [List.map_cons, HXI.out]; exact ⟨_, rfl⟩, hJx2⟩
set_option maxRecDepth 100000 in
set_option maxHeartbeats 4000000 in
theorem iterN_in (F : Fence) (hd : F.depth = none) (n : Nat) (h59 : F.fn 147) (h60 : F.fn 148) (hro : F.round = none) (l n₀ n₁ eb : Nat) (hn : n₀ ≤ n₁) (e : Ex) (hsz : sz e ≤ 10000)
    (o num : Int) (s : ByteArray) (a3 : Value) (J Jx : List Nd → World → Prop) (hJ : ∀ s A B, J s A → A.grownBy B none → J s B)
    (G : In → Prop) (hG : ∀ y ∈ pre 1 e, G y) (hY : ∀ bef (x : Nd) W, J bef W → G x.info → bef.length < sz e → YieldAt F (n - 1) Tryz.prog l (enc1 x) W fun e W' =>
      (e = .returned (.bool true) ∧ J (bef ++ [x]) W' ∧ KeepC n₀ n₁ W W') ∨ (e = .returned (.bool false) ∧ Jx (bef ++ [x]) W'))
    (W : World) (h1 : n₁ ≤ W.heap.size) (hb : Four W eb (.int .i64 o) (.int .i64 num) (.string s) a3) (hx : ExAt n₀ W (xv o num s a3) e) (h0 : J [] W) :
    CallsIn F n Tryz.prog 147 #[.func (.yield l) #[] #[], .pointer (some ⟨eb, 0, none⟩)] W fun x W' => (∃ v, x = .returned v) ∧
      ((∃ ys : List Nd, ys.map Nd.info = pre 1 e ∧ J ys W') ∨ (∃ q : List Nd, q.map Nd.info <+: pre 1 e ∧ Jx q W')) := by
  have hdd : ∀ k : Nat, (F.depth.isSome = true → 1 ≤ k) := (fun k h => by rw [hd] at h; cases h); have HW : Hid (∀ W2, Below W.heap.size W W2 → Boxed W2 W.heap.size 171 (.func (.yield l) #[] #[]) → Boxed W2 (W.heap.size + 1) 171 (.func (.func 148) #[] #[.pointer (some ⟨W.heap.size, 0, none⟩), .pointer (some ⟨W.heap.size + 1, 0, none⟩)]) →
      CallsIn F (n - 1) Tryz.prog 148 #[xv o num s a3, .pointer (some ⟨W.heap.size, 0, none⟩), .pointer (some ⟨W.heap.size + 1, 0, none⟩)] W2 (CameN J Jx n₀ n₁ (pre 1 e) [] W2)) := Lib.hid fun W2 hb2 c1 c2 =>
    walkN_in F hd h60 hro l n₀ n₁ (sz e) W.heap.size (W.heap.size + 1) J Jx hn hJ (by omega) (by omega) G (fun m bef x W hj hg hl => yieldFree hd m (hY bef x W hj hg hl)) e (n - 1) 1 _ [] W2 (hx.under (hb2.mono (by omega))) (hJ _ _ _ h0 (grown_of_below hb2)) (by have := hb2.size; omega) (by simp) (by omega) hG c1 c2
  have a0 := hb.alloc (.cells #[.func (.yield l) #[] #[]] 171); have a1 := a0.alloc (.cells #[.func (.func 148) #[] #[.pointer (some ⟨W.heap.size, 0, none⟩), .pointer (some ⟨W.heap.size + 1, 0, none⟩)]] 171); have d0 := a1.c0; have d1 := a1.c1; have d2 := a1.c2; have d3 := a1.c3; clear a0 a1 hb hY hJ hx h0; refine callsIn_of_wp Tryz.func147 rfl h59 ?_ hro; simp only [Tryz.ntmps147, List.size_toArray, List.length_cons, List.length_nil, Nat.reduceAdd, Nat.reduceSub, Array.replicate_succ, Array.replicate_zero, List.push_toArray, List.append_toArray, List.nil_append, List.cons_append]; have BX1 := Lib.hid ((Boxed.new W 171 (.func (.yield l) #[] #[])).alloc (.cells #[.func (.func 148) #[] #[.pointer (some ⟨W.heap.size, 0, none⟩), .pointer (some ⟨W.heap.size + 1, 0, none⟩)]] 171)); have bx2 := Boxed.new (W.alloc (.cells #[.func (.yield l) #[] #[]] 171)) 171 (.func (.func 148) #[] #[.pointer (some ⟨W.heap.size, 0, none⟩), .pointer (some ⟨W.heap.size + 1, 0, none⟩)]); rw [World.size_alloc] at bx2; have BX2 := Lib.hid bx2; clear bx2; have HB1 : Hid (Below W.heap.size W ((W.alloc (.cells #[.func (.yield l) #[] #[]] 171)).alloc (.cells #[.func (.func 148) #[] #[.pointer (some ⟨W.heap.size, 0, none⟩), .pointer (some ⟨W.heap.size + 1, 0, none⟩)]] 171))) := Lib.hid (((Below.refl _ _).alloc (Nat.le_refl _) _).alloc (by simp) _)
  gi_wp2_with ((try refine ⟨hdd _, ?_⟩); gi_at_call 148; refine (HW.out _ HB1.out BX1.out BX2.out).mono ?_; clear HW; rintro e W5 (⟨rfl, hys, _⟩ | ⟨rfl, hq⟩))
  · have H5 := Lib.hid hys; clear hys
    go_end0
    obtain ⟨ys, h1, h2⟩ := H5.out; exact ⟨⟨_, rfl⟩, .inl ⟨ys, h1, by simpa using h2⟩⟩
  · have H5 := Lib.hid hq; clear hq
    go_end0
    obtain ⟨q, h1, h2⟩ := H5.out; exact ⟨⟨_, rfl⟩, .inr ⟨q, h1, by simpa using h2⟩⟩
set_option maxRecDepth 100000 in
set_option maxHeartbeats 1000000 in
theorem nodesN_in (F : Fence) (n : Nat) (h40 : F.fn 96) (hro : F.round = none) (o num : Int) (s : ByteArray) (a3 : Value) (w : World) :
    CallsIn F n Tryz.prog 96 #[xv o num s a3] w fun e w' => e = .returned (.func (.func 147) #[] #[.pointer (some ⟨w.heap.size, 0, none⟩)]) ∧ w' = w.alloc (.cells #[.int .i64 o, .int .i64 num, .string s, a3] 43) := by
  refine callsIn_of_wp Tryz.func96 rfl h40 ?_ hro; simp only [Tryz.ntmps96, List.size_toArray, List.length_cons, List.length_nil, Nat.reduceAdd, Nat.reduceSub, Array.replicate_succ, Array.replicate_zero, List.push_toArray, List.append_toArray, List.nil_append, List.cons_append]
  gi_wp2
  go_ret; exact ⟨rfl, rfl⟩
theorem nodesN_tells (F : Fence) (hd : F.depth = none) (n : Nat) (h59 : F.fn 147) (h60 : F.fn 148) (hro : F.round = none) (n₀ n₁ eb : Nat) (hn : n₀ ≤ n₁) (e : Ex) (hsz : sz e ≤ 10000) (G : In → Prop) (hG : ∀ y ∈ pre 1 e, G y)
    (o num : Int) (s : ByteArray) (a3 : Value) (w : World) (h1 : n₁ ≤ w.heap.size) (hb : Four w eb (.int .i64 o) (.int .i64 num) (.string s) a3) (hx : ExAt n₀ w (xv o num s a3) e) :
    Tells F n Tryz.prog 147 #[.pointer (some ⟨eb, 0, none⟩)] (fun x : Nd => #[xv x.op x.n x.nm (.slice x.p x.k x.cap)]) (KeepC n₀ n₁) (fun ys => ys.map Nd.info = pre 1 e) (fun q => q.map Nd.info <+: pre 1 e) (sz e) (fun x _ => G x.info) w := fun l J Jx W hW hJ _ hY h0 =>
  iterN_in F hd n h59 h60 hro l n₀ n₁ eb hn e hsz o num s a3 J Jx (fun s A B hs hg => hJ s A B none hs hg (fun r e => by cases e)) G hG (fun bef x W hj hg hl => by
    obtain ⟨fn, tmps, assign, body, hy, hR⟩ := hY bef x W hj hg hl; exact ⟨fn, tmps, assign, body, hy, hR.mono fun e B hp => hp.imp (fun q => q) (fun q => ⟨q.1, q.2.1⟩)⟩) W (Nat.le_trans h1 hW.size) (hb.stay hW) (hx.under (hW.mono (by omega))) h0
end Go.Proofs.YtpejflgdehioaaaGreatDoor.ItW
namespace Go.Proofs.YtpejflgdehioaaaGreatDoor.ItW
open Go Go.RowKit Go.Proofs.YtpejflgdehioaaaGreatDoor.NumM Go.Proofs.YtpejflgdehioaaaGreatDoor.LexW Go.Proofs.YtpejflgdehioaaaGreatDoor.LexM Go.Proofs.YtpejflgdehioaaaGreatDoor.ExM Go.Proofs.YtpejflgdehioaaaGreatDoor.ExW Go.Proofs.YtpejflgdehioaaaGreatDoor.ItM
theorem any_next {α : Type} {l : List α} {q : α → Bool} {j : Nat} {c : α} (h : l[j]? = some c) (hq : q c = false) (hp : (l.take j).any q = false) : (l.take (j + 1)).any q = false := by
  obtain ⟨hj, he⟩ := List.getElem?_eq_some_iff.1 h; rw [List.take_succ_eq_append_getElem hj, List.any_append, hp, he]; simp [hq]
theorem any_at {α : Type} {l : List α} {q : α → Bool} {j : Nat} {c : α} (h : l[j]? = some c) (hq : q c = true) : l.any q = true := List.any_eq_true.2 ⟨c, List.mem_of_getElem? h, hq⟩
set_option maxRecDepth 100000 in
set_option maxHeartbeats 4000000 in
theorem noVar_ix (l : List ByteArray) (q : ByteArray → Bool) (v : Value) (N : Nat) (w : World) (ha : StA N w v l) (hN : N ≤ w.heap.size) (hq : ∀ s ∈ l, ∀ W, Below w.heap.size w W → s.size ≤ 140737488351232 → Calls Tryz.prog 117 #[.string s] W (tBool (q s) W)) :
    Calls Tryz.prog 126 #[v, .func (.func 117) #[] #[]] w fun e w' => ∃ r : Int, e = .returned (.int .i64 r) ∧ (-1 ≤ r ∧ r ≤ 140737488351232) ∧ decide (0 ≤ r) = l.any q ∧ Below w.heap.size w w' := by
  obtain ⟨p, cap, rfl, hl, hc0, hz, hp⟩ := ha; have HP := Lib.hid hp; have HZ := Lib.hid hz; clear hp hz; have HQ := Lib.hid hq; obtain ⟨K, hK⟩ : ∃ K, l.length = K := ⟨_, rfl⟩; have HK := Lib.hid hK; rw [hK] at hl ⊢; have hk : K ≤ 140737488351232 := (by omega); clear hK hl hq; have HB0 := Lib.hid (Below.refl w.heap.size w)
  go_enter Tryz.func126, Tryz.ntmps126
  go_wp2; go_loopw [8] (fun i wr => ∃ j : Nat, j ≤ K ∧ i = .int .i64 j ∧ Hid ((l.take j).any q = false) ∧ Hid (Below w.heap.size w wr)) (fun i _ => K - (intOf i).toNat)
  case atStart => exact ⟨0, Nat.zero_le _, rfl, Lib.hid rfl, HB0⟩
  case round =>
    obtain ⟨j, hj, rfl, FN, BW⟩ := hrel; by_cases hlt : j < K
    · obtain ⟨c, hc⟩ : ∃ c, l[j]? = some c := ⟨_, List.getElem?_eq_getElem (by rw [HK.out]; exact hlt)⟩; have hbw : Below N w wr := BW.out.mono hN; obtain ⟨b, off, rfl, hb, hcell⟩ := HP.out (by rw [HK.out]; omega); have c0 := low_cells hbw _ _ hb _ (hcell j c hc); have CC := Lib.hid (HQ.out c (List.mem_of_getElem? hc) wr BW.out (HZ.out c (List.mem_of_getElem? hc))); clear hcell; have HC := Lib.hid hc; clear hc hbw; cases hs : q c
      · have FN2 := Lib.hid (any_next HC.out hs FN.out); rw [hs] at CC; clear hs; go_wp2_with (go_at_call 117; ((with_reducible refine CC.out.mono ?_); rintro e w1 ⟨rfl, hb1⟩; have HB1 := Lib.hid (BW.out.then_ hb1); clear hb1))
        go_roundw
        case rel => exact ⟨j + 1, by omega, by go_num, FN2, HB1⟩
        case measure => simp [intOf]; omega
      · have FS := Lib.hid (any_at HC.out hs); rw [hs] at CC; clear hs; go_wp2_with (go_at_call 117; ((with_reducible refine CC.out.mono ?_); rintro e w1 ⟨rfl, hb1⟩; have HB1 := Lib.hid (BW.out.then_ hb1); clear hb1))
        go_ret; exact ⟨_, rfl, by omega, by rw [FS.out]; exact decide_eq_true (by omega), HB1.out⟩
    · have FN2 : Hid (l.any q = false) := Lib.hid (by have := FN.out; rw [List.take_of_length_le (by rw [HK.out]; omega)] at this; exact this); go_wp2; go_ret; exact ⟨_, rfl, by omega, by rw [FN2.out]; rfl, BW.out⟩
set_option maxRecDepth 100000 in
set_option maxHeartbeats 4000000 in
theorem noVar_has (l : List ByteArray) (q : ByteArray → Bool) (v : Value) (N : Nat) (w : World) (ha : StA N w v l) (hN : N ≤ w.heap.size) (hq : ∀ s ∈ l, ∀ W, Below w.heap.size w W → s.size ≤ 140737488351232 → Calls Tryz.prog 117 #[.string s] W (tBool (q s) W)) :
    Calls Tryz.prog 82 #[v, .func (.func 117) #[] #[]] w (tBool (l.any q) w) := by
  have IC := Lib.hid (noVar_ix l q v N w ha hN hq); have hcc : ∃ p cap, v = .slice p l.length cap := (by obtain ⟨p, cap, e, _⟩ := ha; exact ⟨p, cap, e⟩); obtain ⟨p, cap, rfl⟩ := hcc; clear ha hq; generalize l.any q = c at *
  generalize l.length = K at *
  cases c
  · go_enter Tryz.func82, Tryz.ntmps82
    go_wp2_with (go_at_call 126; ((with_reducible refine IC.out.mono ?_); rintro e w1 ⟨r, rfl, ⟨hr0, hr1⟩, hr, hb⟩; have HB := Lib.hid hb; clear hb))
    go_ret; exact ⟨rfl, HB.out⟩
  · go_enter Tryz.func82, Tryz.ntmps82
    go_wp2_with (go_at_call 126; ((with_reducible refine IC.out.mono ?_); rintro e w1 ⟨r, rfl, ⟨hr0, hr1⟩, hr, hb⟩; have HB := Lib.hid hb; clear hb))
    go_ret; exact ⟨rfl, HB.out⟩
set_option maxRecDepth 100000 in
set_option maxHeartbeats 4000000 in
theorem wrong_ix (l : List Wt) (q : Wt → Bool) (v : Value) (N : Nat) (w : World) (ha : WtA N w v l) (hN : N ≤ w.heap.size) (hq : ∀ t ∈ l, ∀ W, Below w.heap.size w W → Calls Tryz.prog 116 #[.agg #[.int .i64 t.lo, .int .i64 t.hi, .int .i64 t.wt, .bool t.ea]] W (tBool (q t) W)) :
    Calls Tryz.prog 164 #[v, .func (.func 116) #[] #[]] w fun e w' => ∃ r : Int, e = .returned (.int .i64 r) ∧ (-1 ≤ r ∧ r ≤ 140737488351232) ∧ decide (0 ≤ r) = l.any q ∧ Below w.heap.size w w' := by
  obtain ⟨p, cap, rfl, hl, hc0, hp⟩ := ha; have HP := Lib.hid hp; clear hp; have HQ := Lib.hid hq; obtain ⟨K, hK⟩ : ∃ K, l.length = K := ⟨_, rfl⟩; have HK := Lib.hid hK; rw [hK] at hl ⊢; have hk : K ≤ 140737488351232 := (by omega); clear hK hl hq; have HB0 := Lib.hid (Below.refl w.heap.size w)
  go_enter Tryz.func164, Tryz.ntmps164
  go_wp2; go_loopw [8] (fun i wr => ∃ j : Nat, j ≤ K ∧ i = .int .i64 j ∧ Hid ((l.take j).any q = false) ∧ Hid (Below w.heap.size w wr)) (fun i _ => K - (intOf i).toNat)
  case atStart => exact ⟨0, Nat.zero_le _, rfl, Lib.hid rfl, HB0⟩
  case round =>
    obtain ⟨j, hj, rfl, FN, BW⟩ := hrel; by_cases hlt : j < K
    · obtain ⟨c, hc⟩ : ∃ c, l[j]? = some c := ⟨_, List.getElem?_eq_getElem (by rw [HK.out]; exact hlt)⟩; have hbw : Below N w wr := BW.out.mono hN; obtain ⟨b, off, rfl, hb, hcell⟩ := HP.out (by rw [HK.out]; omega); obtain ⟨q0, q1, q2, q3⟩ := hcell j c hc; have c0 := low_cells hbw _ _ hb _ q0; have c1 := low_cells hbw _ _ hb _ q1; have c2 := low_cells hbw _ _ hb _ q2; have c3 := low_cells hbw _ _ hb _ q3; have CC := Lib.hid (HQ.out c (List.mem_of_getElem? hc) wr BW.out); clear hcell q0 q1 q2 q3; have HC := Lib.hid hc; clear hc hbw; cases hs : q c
      · have FN2 := Lib.hid (any_next HC.out hs FN.out); rw [hs] at CC; clear hs; go_wp2_with (go_at_call 116; ((with_reducible refine CC.out.mono ?_); rintro e w1 ⟨rfl, hb1⟩; have HB1 := Lib.hid (BW.out.then_ hb1); clear hb1))
        go_roundw
        case rel => exact ⟨j + 1, by omega, by go_num, FN2, HB1⟩
        case measure => simp [intOf]; omega
      · have FS := Lib.hid (any_at HC.out hs); rw [hs] at CC; clear hs; go_wp2_with (go_at_call 116; ((with_reducible refine CC.out.mono ?_); rintro e w1 ⟨rfl, hb1⟩; have HB1 := Lib.hid (BW.out.then_ hb1); clear hb1))
        go_ret; exact ⟨_, rfl, by omega, by rw [FS.out]; exact decide_eq_true (by omega), HB1.out⟩
    · have FN2 : Hid (l.any q = false) := Lib.hid (by have := FN.out; rw [List.take_of_length_le (by rw [HK.out]; omega)] at this; exact this); go_wp2; go_ret; exact ⟨_, rfl, by omega, by rw [FN2.out]; rfl, BW.out⟩
set_option maxRecDepth 100000 in
set_option maxHeartbeats 4000000 in
theorem wrong_has (l : List Wt) (q : Wt → Bool) (v : Value) (N : Nat) (w : World) (ha : WtA N w v l) (hN : N ≤ w.heap.size) (hq : ∀ t ∈ l, ∀ W, Below w.heap.size w W → Calls Tryz.prog 116 #[.agg #[.int .i64 t.lo, .int .i64 t.hi, .int .i64 t.wt, .bool t.ea]] W (tBool (q t) W)) :
    Calls Tryz.prog 115 #[v, .func (.func 116) #[] #[]] w (tBool (l.any q) w) := by
  have IC := Lib.hid (wrong_ix l q v N w ha hN hq); have hcc : ∃ p cap, v = .slice p l.length cap := (by obtain ⟨p, cap, e, _⟩ := ha; exact ⟨p, cap, e⟩); obtain ⟨p, cap, rfl⟩ := hcc; clear ha hq; generalize l.any q = c at *
  generalize l.length = K at *
  cases c
  · go_enter Tryz.func115, Tryz.ntmps115
    go_wp2_with (go_at_call 164; ((with_reducible refine IC.out.mono ?_); rintro e w1 ⟨r, rfl, ⟨hr0, hr1⟩, hr, hb⟩; have HB := Lib.hid hb; clear hb))
    go_ret; exact ⟨rfl, HB.out⟩
  · go_enter Tryz.func115, Tryz.ntmps115
    go_wp2_with (go_at_call 164; ((with_reducible refine IC.out.mono ?_); rintro e w1 ⟨r, rfl, ⟨hr0, hr1⟩, hr, hb⟩; have HB := Lib.hid hb; clear hb))
    go_ret; exact ⟨rfl, HB.out⟩
end Go.Proofs.YtpejflgdehioaaaGreatDoor.ItW
namespace Go.Proofs.YtpejflgdehioaaaGreatDoor.ItW
open Go Go.RowKit Go.Proofs.YtpejflgdehioaaaGreatDoor.NumM Go.Proofs.YtpejflgdehioaaaGreatDoor.LexW Go.Proofs.YtpejflgdehioaaaGreatDoor.LexM Go.Proofs.YtpejflgdehioaaaGreatDoor.ExM Go.Proofs.YtpejflgdehioaaaGreatDoor.ExW Go.Proofs.YtpejflgdehioaaaGreatDoor.ItM
open Go.Proofs.YtpejflgdehioaaaGreatDoor.ClM (Fld)
theorem memB_at {B : List ByteArray} {s y : ByteArray} {k : Nat} (h : B[k]? = some y) (e : y.data.toList = s.data.toList) : memB B s = true := by
  unfold memB; exact List.any_eq_true.2 ⟨y, List.mem_of_getElem? h, by unfold ClM.same; rw [e]; simp⟩
theorem memB_no {B : List ByteArray} {s : ByteArray} (h : ∀ (i : Nat) t, i < B.length → B[i]? = some t → t.data.toList ≠ s.data.toList) : memB B s = false := by
  rw [Bool.eq_false_iff]; intro hm; obtain ⟨t, ht, e⟩ := List.any_eq_true.1 hm; obtain ⟨i, hi, he⟩ := List.mem_iff_getElem.1 ht; exact h i t hi (by rw [List.getElem?_eq_getElem hi, he]) (by simpa [ClM.same] using e)
set_option maxRecDepth 100000 in
set_option maxHeartbeats 2000000 in
theorem boundR_any (l : List ByteArray) (v : Value) (s : ByteArray) (N : Nat) (w : World) (h : StA N w v l) :
    Calls Tryz.prog 39 #[v, .string s] w fun e w' => e = .returned (.bool (memB l s)) ∧ w = w' := by
  obtain ⟨p, cap, rfl, hl, hcap, hz, hx⟩ := h; have HX := Lib.hid hx; clear hx hcap hz; obtain ⟨n, hnn⟩ : ∃ n, l.length = n := ⟨_, rfl⟩; have HN := Lib.hid hnn; rw [hnn] at hl ⊢; have hn47 : n ≤ 140737488351232 := (by omega); clear hnn hl
  go_enter Tryz.func39, Tryz.ntmps39
  go_wp2; go_loop [5] (fun i => ∃ k : Nat, k ≤ n ∧ i = .int .i64 k ∧ Hid (∀ (j : Nat) t, j < k → l[j]? = some t → t.data.toList ≠ s.data.toList)) (fun i => n - (intOf i).toNat)
  case atStart => exact ⟨0, Nat.zero_le _, rfl, Lib.hid fun j _ h => by omega⟩
  case round =>
    obtain ⟨k, hk, rfl, NO⟩ := hrel; by_cases hlt : k < n
    · obtain ⟨b, off, rfl, _, hcell⟩ := HX.out (by rw [HN.out]; omega); obtain ⟨y, hyk⟩ : ∃ y, l[k]? = some y := ⟨_, List.getElem?_eq_getElem (by rw [HN.out]; exact hlt)⟩; have ca0 := hcell k y hyk; have HY := Lib.hid hyk; clear hcell hyk; by_cases e : y.data.toList = s.data.toList
      · have e1 : (y.toList == s.toList) = true := (by rw [Lib.toList_data, Lib.toList_data, e]; simp); have EE := Lib.hid (memB_at HY.out e); clear e; go_wp2; go_ret; exact ⟨retb EE.out.symm, rfl⟩
      · have e1 : (y.toList == s.toList) = false := (by rw [Lib.toList_data, Lib.toList_data]; simpa using e); have NO2 : Hid (∀ (j : Nat) t, j < k + 1 → l[j]? = some t → t.data.toList ≠ s.data.toList) := Lib.hid fun j t hj ht => by
          rcases Nat.lt_or_ge j k with h | h
          · exact NO.out j t h ht
          · obtain rfl : j = k := (by omega); rw [HY.out] at ht; cases ht; exact e
        clear e; go_wp2; go_round
        case rel => exact ⟨k + 1, by omega, by go_num, NO2⟩
        case measure => simp [intOf]; omega
    · have EE := Lib.hid (memB_no (s := s) (B := l) (fun i t hi ht => NO.out i t (by rw [HN.out] at hi; omega) ht)); go_wp2; go_ret; exact ⟨retb EE.out.symm, rfl⟩
end Go.Proofs.YtpejflgdehioaaaGreatDoor.ItW
namespace Go.Proofs.YtpejflgdehioaaaGreatDoor.ItM
open Go Go.Proofs.YtpejflgdehioaaaGreatDoor.WordM Go.Proofs.YtpejflgdehioaaaGreatDoor.LexM Go.Proofs.YtpejflgdehioaaaGreatDoor.ExM
open Go.Proofs.YtpejflgdehioaaaGreatDoor.ClM (Fld)
def GE (fs : List Fld) (e : Ex) : Prop := ∃ l, ∀ y ∈ pre l e, fltS y = 0 ∧ nodE fs [] y = 0
theorem GE.kid {fs : List Fld} {o n : Int} {s : ByteArray} {ks : List Ex} (h : GE fs (.mk o n s ks)) {a : Ex} (ha : a ∈ ks) : GE fs a := by
  obtain ⟨l, h⟩ := h; exact ⟨l + 1, fun y hy => h y (by rw [pre_mk]; exact List.mem_cons_of_mem _ (mem_pres.2 ⟨a, ha, hy⟩))⟩
theorem GE.top {fs : List Fld} {o n : Int} {s : ByteArray} {ks : List Ex} (h : GE fs (.mk o n s ks)) : fltS ⟨0, o, n, s, ks.length⟩ = 0 ∧ nodE fs [] ⟨0, o, n, s, ks.length⟩ = 0 := by
  obtain ⟨l, h⟩ := h; exact h ⟨l, o, n, s, ks.length⟩ (by rw [pre_mk]; simp)
theorem flt_facts {l : Nat} {o n : Int} {s : ByteArray} {k : Nat} (h : fltS ⟨l, o, n, s, k⟩ = 0) : takesS o k = true ∧ 0 ≤ n ∧ (isAr o = true → nmB s.data.toList = true) := by
  unfold fltS at h; cases hA : badA ⟨l, o, n, s, k⟩ with
  | true => rw [hA, if_pos rfl] at h; cases h
  | false =>
    rw [hA, if_neg (by decide)] at h; cases hB : badN ⟨l, o, n, s, k⟩ with
    | true => rw [hB, if_pos rfl] at h; cases h
    | false =>
      simp only [badA, Bool.or_eq_false_iff, Bool.not_eq_false', decide_eq_false_iff_not] at hA; simp only [badN, Bool.or_eq_false_iff, Bool.and_eq_false_iff, Bool.not_eq_false'] at hB; refine ⟨hA.1, by omega, fun ha => ?_⟩; rcases hB.2 with e | e
      · rw [ha] at e; cases e
      · exact e
theorem takes3 {k : Nat} (h : takesS 3 k = true) : k = 1 := by simp [takesS, arS] at h; omega
theorem takes24 {k : Nat} (h : takesS 24 k = true) : k = 0 := by simp [takesS, arS] at h; omega
theorem nm_len {s : ByteArray} (h : nmB s.data.toList = true) : s.size ≤ 16 := by
  have e : s.size = s.data.toList.length := rfl; rw [e]; generalize s.data.toList = l at *
  cases l with
  | nil => simp
  | cons c r =>
    unfold nmB at h; simp only [Bool.and_eq_true, decide_eq_true_eq] at h
    simpa using h.1
theorem GE.arr {fs : List Fld} {o n : Int} {s : ByteArray} {ks : List Ex} (h : GE fs (.mk o n s ks)) (ha : isAr o = true) : s.size ≤ 16 ∧ 0 < szI fs s := by
  obtain ⟨h1, h2⟩ := h.top; refine ⟨nm_len ((flt_facts h1).2.2 ha), ?_⟩; unfold nodE at h2; rw [if_pos ha] at h2; unfold arrE at h2; split at h2
  · cases h2
  · split at h2
    · rename_i hh; exact of_decide_eq_true hh
    · cases h2
theorem sz_cst (k : Int) : sz (cst k) = 1 := by unfold cst; rw [sz_mk, szs_nil]
theorem sz_elV (a : ByteArray) (k : Nat) : sz (elV a k) = 1 := by unfold elV; rw [sz_mk, szs_nil]
theorem sz_sumE (a : ByteArray) : ∀ k, sz (sumE a k) = 2 * k + 1
  | 0 => sz_elV a 0
  | k + 1 => by
    show sz (.mk 7 0 ⟨#[]⟩ [sumE a k, elV a (k + 1)]) = _; rw [sz_mk, szs_cons, szs_cons, szs_nil, sz_sumE a k, sz_elV]; omega
theorem sz_choE (a : ByteArray) (i : Ex) : ∀ m k, sz (choE a i k m) = m * (sz i + 4) + 1
  | 0, k => by show sz (cst 0) = _; rw [sz_cst]; omega
  | m + 1, k => by
    show sz (.mk 22 0 ⟨#[]⟩ [.mk 15 0 ⟨#[]⟩ [i, cst k], elV a k, choE a i (k + 1) m]) = _; rw [sz_mk, szs_cons, szs_cons, szs_cons, szs_nil, sz_mk, szs_cons, szs_cons, szs_nil, sz_cst, sz_elV, sz_choE a i m (k + 1), Nat.succ_mul]; omega
theorem sz_pos (e : Ex) : 1 ≤ sz e := by cases e; rw [sz_mk]; omega
theorem sz_elmE (a : ByteArray) (n : Nat) (hn : n ≤ 8) (i : Ex) : sz (elmE a n i) ≤ 8 * (sz i + 4) + 1 := by
  have := sz_pos i; unfold elmE; split
  · split
    · rw [sz_elV]; omega
    · rw [sz_cst]; omega
  · rw [sz_choE]; have : n * (sz i + 4) ≤ 8 * (sz i + 4) := Nat.mul_le_mul_right _ hn; omega
theorem szI_le (fs : List Fld) (hS : ∀ f ∈ fs, 0 ≤ f.sz ∧ f.sz ≤ 8) (s : ByteArray) : 0 ≤ szI fs s ∧ szI fs s ≤ 8 := by
  unfold szI szO; cases h : fs.find? (fun f => ClM.same f.nm s) with
  | none => exact ⟨by decide, by decide⟩
  | some f => exact hS f (List.mem_of_find?_eq_some h)
theorem leaf_sz {fs : List Fld} (hS : ∀ f ∈ fs, 0 ≤ f.sz ∧ f.sz ≤ 8) {e : Ex} (hg : GE fs e) (h1 : sz e = 1) : sz (scM fs e) ≤ 15 := by
  obtain ⟨o, n, s, ks⟩ := e; rw [sz_mk] at h1; have hk : ks = [] := by
    cases ks with
    | nil => rfl
    | cons a r => rw [szs_cons] at h1; have := sz_pos a; omega
  subst hk; rw [scM_mk]; have h8 := szI_le fs hS s; split
  · rw [sz_sumE]; omega
  · split
    · rename_i h3; subst h3; have := takes3 (flt_facts hg.top.1).1; simp at this
    · rw [sz_mk]; simp [szs_nil]
theorem szs_map_le {f : Ex → Ex} {c : Nat} : ∀ (ks : List Ex), (∀ a ∈ ks, sz (f a) ≤ c * sz a) → szs (ks.map f) ≤ c * szs ks
  | [], _ => by simp [szs_nil]
  | a :: r, h => by
    rw [List.map_cons, szs_cons, szs_cons, Nat.mul_add]; have h1 := h a (by simp); have h2 := szs_map_le r (fun b hb => h b (by simp [hb])); omega
theorem scM_sz {fs : List Fld} (hS : ∀ f ∈ fs, 0 ≤ f.sz ∧ f.sz ≤ 8) {e : Ex} (hg : GE fs e) (hb : scB fs e = true) : sz (scM fs e) ≤ 160 * sz e ∧ sz (scM fs e) ≤ 400 := by
  obtain ⟨o, n, s, ks⟩ := e; have hb2 := hb; rw [scB_mk, Bool.and_eq_true] at hb2; have hv := ((vld_zero _).1 (of_decide_eq_true hb2.2)).2.2; refine ⟨?_, hv⟩; by_cases h3 : 3 ≤ sz (.mk o n s ks)
  · omega
  · rw [sz_mk] at h3; cases ks with
    | nil => have := leaf_sz hS hg (by rw [sz_mk, szs_nil]); rw [sz_mk]; omega
    | cons a r =>
      rw [szs_cons] at h3; have ha := sz_pos a; have hr : r = [] := by
        cases r with
        | nil => rfl
        | cons b q => rw [szs_cons] at h3; have := sz_pos b; omega
      subst hr; rw [szs_nil] at h3; have hl := leaf_sz hS (hg.kid (a := a) (by simp)) (by omega); rw [scM_mk, sz_mk, szs_cons, szs_nil]; have h8 := szI_le fs hS s; split
      · rw [sz_sumE]; omega
      · split
        · have := sz_elmE s (szI fs s).toNat (by omega) (hdE ([a].map (scM fs))); have e : hdE ([a].map (scM fs)) = scM fs a := rfl; rw [e] at this ⊢; omega
        · rw [sz_mk, List.map_cons, List.map_nil, szs_cons, szs_nil]; omega
theorem scM_top {fs : List Fld} (hS : ∀ f ∈ fs, 0 ≤ f.sz ∧ f.sz ≤ 8) {o n : Int} {s : ByteArray} {ks : List Ex} (hg : GE fs (.mk o n s ks)) (hb : ∀ a ∈ ks, scB fs a = true) (h60 : sz (.mk o n s ks) ≤ 60) : sz (scM fs (.mk o n s ks)) ≤ 10000 := by
  have h8 := szI_le fs hS s; rw [sz_mk] at h60; rw [scM_mk]; split
  · rw [sz_sumE]; omega
  · split
    · have h1 := sz_elmE s (szI fs s).toNat (by omega) (hdE (ks.map (scM fs))); have h2 : sz (hdE (ks.map (scM fs))) ≤ 400 := by
        cases ks with
        | nil => show sz zE ≤ 400; unfold zE; rw [sz_mk, szs_nil]; omega
        | cons a r => exact (scM_sz hS (hg.kid (a := a) (by simp)) (hb a (by simp))).2
      omega
    · rw [sz_mk]; have := szs_map_le (f := scM fs) (c := 160) ks (fun a ha => (scM_sz hS (hg.kid ha) (hb a ha)).1); omega
def scR (fs : List Fld) (e : Ex) : Ex × Int := if scB fs e = true then (scM fs e, 0) else (zE, 2)
end Go.Proofs.YtpejflgdehioaaaGreatDoor.ItM
namespace Go.Proofs.YtpejflgdehioaaaGreatDoor.ClW
open Go Go.RowKit Go.Proofs.YtpejflgdehioaaaGreatDoor.LexW Go.Proofs.YtpejflgdehioaaaGreatDoor.LexM Go.Proofs.YtpejflgdehioaaaGreatDoor.ClM
inductive At (S : Nat → Prop) (w : World) : Sh → Value → Lf → Prop where
  | n (i : Int) : At S w .n (.int .i64 i) (.n i)
  | s (t : ByteArray) (h : t.size ≤ 140737488351232) : At S w .s (.string t) (.s t)
  | b (v : Bool) : At S w .b (.bool v) (.b v)
  | row (k : Kd) (l : List (List Lf)) (p : Option Addr) (cap : Nat) (F : Nat → Nat → Value)
      (hl : l.length * byt k ≤ 140737488351232) (hc : l.length ≤ cap)
      (hp : 0 < l.length → ∃ b off, p = some ⟨b, off, none⟩ ∧ S b ∧ ∀ i j, i < l.length → j < (shp k).length → w.cell? ⟨b, off + i * (shp k).length + j, none⟩ = some (F i j))
      (hw : ∀ (i : Nat) (x : List Lf), l[i]? = some x → x.length = (shp k).length)
      (hx : ∀ (i : Nat) (x : List Lf) (j : Nat) (y : Lf) (sh : Sh), l[i]? = some x → x[j]? = some y → (shp k)[j]? = some sh → At S w sh (F i j) y) :
      At S w (.r k) (.slice p l.length cap) (.row k l)
structure RowA (S : Nat → Prop) (w : World) (k : Kd) (p : Option Addr) (cap : Nat) (F : Nat → Nat → Value) (l : List (List Lf)) : Prop where
  hl : l.length * byt k ≤ 140737488351232
  hc : l.length ≤ cap
  hp : 0 < l.length → ∃ b off, p = some ⟨b, off, none⟩ ∧ S b ∧ ∀ i j, i < l.length → j < (shp k).length → w.cell? ⟨b, off + i * (shp k).length + j, none⟩ = some (F i j)
  hw : ∀ (i : Nat) (x : List Lf), l[i]? = some x → x.length = (shp k).length
  hx : ∀ (i : Nat) (x : List Lf) (j : Nat) (y : Lf) (sh : Sh), l[i]? = some x → x[j]? = some y → (shp k)[j]? = some sh → At S w sh (F i j) y
theorem At.nInv {S : Nat → Prop} {w : World} {v : Value} {lf : Lf} (h : At S w .n v lf) : ∃ i, v = .int .i64 i ∧ lf = .n i := by cases h; exact ⟨_, rfl, rfl⟩
theorem At.bInv {S : Nat → Prop} {w : World} {v : Value} {lf : Lf} (h : At S w .b v lf) : ∃ i, v = .bool i ∧ lf = .b i := by cases h; exact ⟨_, rfl, rfl⟩
theorem At.kept {S S' : Nat → Prop} {w w' : World} (hS : ∀ b, S b → S' b) (hk : ∀ b o, S b → ∀ v, w.cell? ⟨b, o, none⟩ = some v → w'.cell? ⟨b, o, none⟩ = some v) {sh : Sh} {v : Value} {lf : Lf} (h : At S w sh v lf) : At S' w' sh v lf := by
  induction h with
  | n i => exact .n i
  | s t h => exact .s t h
  | b v => exact .b v
  | row k l p cap F hl hc hp hw hx ih =>
    refine .row k l p cap F hl hc (fun h0 => ?_) hw ih; obtain ⟨b, off, e, hb, hcell⟩ := hp h0; exact ⟨b, off, e, hS b hb, fun i j hi hj => hk _ _ hb _ (hcell i j hi hj)⟩
theorem RowA.kept {S S' : Nat → Prop} {w w' : World} (hS : ∀ b, S b → S' b) (hk : ∀ b o, S b → ∀ v, w.cell? ⟨b, o, none⟩ = some v → w'.cell? ⟨b, o, none⟩ = some v) {k : Kd} {p : Option Addr} {cap : Nat} {F : Nat → Nat → Value} {l : List (List Lf)} (h : RowA S w k p cap F l) : RowA S' w' k p cap F l := by
  refine ⟨h.hl, h.hc, fun h0 => ?_, h.hw, fun i x j y sh a b c => (h.hx i x j y sh a b c).kept hS hk⟩; obtain ⟨b, off, e, hb, hcell⟩ := h.hp h0; exact ⟨b, off, e, hS b hb, fun i j hi hj => hk _ _ hb _ (hcell i j hi hj)⟩
abbrev Lo (N : Nat) : Nat → Prop := fun b => b < N
abbrev Hi (lo : Nat) (w : World) : Nat → Prop := fun b => lo ≤ b ∧ b < w.heap.size
theorem At.under {N : Nat} {w w' : World} (hb : Below N w w') {sh : Sh} {v : Value} {lf : Lf} (h : At (Lo N) w sh v lf) : At (Lo N) w' sh v lf :=
  h.kept (fun _ h => h) (fun b o hlt _ hv => (hb.cell (p := ⟨b, o, none⟩) hlt).trans hv)
theorem RowA.under {N : Nat} {w w' : World} (hb : Below N w w') {k : Kd} {p : Option Addr} {cap : Nat} {F : Nat → Nat → Value} {l : List (List Lf)} (h : RowA (Lo N) w k p cap F l) : RowA (Lo N) w' k p cap F l :=
  h.kept (fun _ h => h) (fun b o hlt _ hv => (hb.cell (p := ⟨b, o, none⟩) hlt).trans hv)
theorem At.later {lo : Nat} {w w' : World} {sh : Sh} {v : Value} {lf : Lf} (h : At (Hi lo w) w sh v lf) (hb : Below w.heap.size w w') : At (Hi lo w') w' sh v lf :=
  h.kept (fun _ g => ⟨g.1, Nat.lt_of_lt_of_le g.2 hb.size⟩) (fun _ o g _ hv => (hb.cell (p := ⟨_, o, none⟩) g.2).trans hv)
abbrev cv (nm par : ByteArray) (f b : Value) : Value := .agg #[.string nm, .string par, f, b]
structure CV (S : Nat → Prop) (w : World) (pf : Option Addr) (cf : Nat) (pb : Option Addr) (cb : Nat) (c : Cl) : Prop where
  nm : c.nm.size ≤ 140737488351232
  par : c.par.size ≤ 140737488351232
  fs : At S w (.r .fields) (.slice pf c.fs.length cf) (.row .fields (c.fs.map Fld.lf))
  bs : At S w (.r .blocks) (.slice pb c.bs.length cb) (.row .blocks (c.bs.map Bk.lf))
theorem CV.kept {S S' : Nat → Prop} {w w' : World} (hS : ∀ b, S b → S' b) (hk : ∀ b o, S b → ∀ v, w.cell? ⟨b, o, none⟩ = some v → w'.cell? ⟨b, o, none⟩ = some v) {pf : Option Addr} {cf : Nat} {pb : Option Addr} {cb : Nat} {c : Cl} (h : CV S w pf cf pb cb c) : CV S' w' pf cf pb cb c :=
  ⟨h.nm, h.par, h.fs.kept hS hk, h.bs.kept hS hk⟩
theorem CV.under {N : Nat} {w w' : World} (hb : Below N w w') {pf : Option Addr} {cf : Nat} {pb : Option Addr} {cb : Nat} {c : Cl} (h : CV (Lo N) w pf cf pb cb c) : CV (Lo N) w' pf cf pb cb c := ⟨h.nm, h.par, h.fs.under hb, h.bs.under hb⟩
theorem RowA.wt {S : Nat → Prop} {w : World} {p : Option Addr} {cap : Nat} {F : Nat → Nat → Value} {l : List (List Lf)} (h : RowA S w .weights p cap F l) {i : Nat} {x : List Lf} (hi : l[i]? = some x) :
    ∃ b off a c d e, x = [.n a, .n c, .n d, .b e] ∧ p = some ⟨b, off, none⟩ ∧ S b ∧ w.cell? ⟨b, off + i * 4, none⟩ = some (.int .i64 a) ∧ w.cell? ⟨b, off + i * 4 + 1, none⟩ = some (.int .i64 c) ∧ w.cell? ⟨b, off + i * 4 + 2, none⟩ = some (.int .i64 d) ∧ w.cell? ⟨b, off + i * 4 + 3, none⟩ = some (.bool e) := by
  have hil := (List.getElem?_eq_some_iff.1 hi).1; obtain ⟨b, off, rfl, hb, hcell⟩ := h.hp (by omega); have hw := h.hw i x hi; match x, hw with
  | [y0, y1, y2, y3], _ =>
    obtain ⟨a, e0, rfl⟩ := (h.hx i _ 0 y0 .n hi rfl rfl).nInv; obtain ⟨c, e1, rfl⟩ := (h.hx i _ 1 y1 .n hi rfl rfl).nInv; obtain ⟨d, e2, rfl⟩ := (h.hx i _ 2 y2 .n hi rfl rfl).nInv; obtain ⟨e, e3, rfl⟩ := (h.hx i _ 3 y3 .b hi rfl rfl).bInv; have c0 := hcell i 0 hil (by decide); have c1 := hcell i 1 hil (by decide); have c2 := hcell i 2 hil (by decide); have c3 := hcell i 3 hil (by decide); rw [e0] at c0; rw [e1] at c1; rw [e2] at c2; rw [e3] at c3; exact ⟨b, off, a, c, d, e, rfl, rfl, hb, c0, c1, c2, c3⟩
structure ItL where
  kd : Int
  op : Int
  n : Int
  en : ByteArray
  ea : List (List Lf)
  nm : ByteArray
  ix : ByteArray
  ws : List (List Lf)
  it : List (List Lf)
  el : List (List Lf)
  bf : List (List Lf)
  af : List (List Lf)
def ItL.lf (x : ItL) : List Lf := [.n x.kd, .n x.op, .n x.n, .s x.en, .row .exprs x.ea, .s x.nm, .s x.ix, .row .weights x.ws, .row .items x.it, .row .items x.el, .row .strs x.bf, .row .strs x.af]
structure ItP where
  p4 : Option Addr
  c4 : Nat
  p7 : Option Addr
  c7 : Nat
  p8 : Option Addr
  c8 : Nat
  p9 : Option Addr
  c9 : Nat
  p10 : Option Addr
  c10 : Nat
  p11 : Option Addr
  c11 : Nat
structure IV (S : Nat → Prop) (w : World) (q : ItP) (x : ItL) : Prop where
  en : x.en.size ≤ 140737488351232
  nm : x.nm.size ≤ 140737488351232
  ix : x.ix.size ≤ 140737488351232
  ea : At S w (.r .exprs) (.slice q.p4 x.ea.length q.c4) (.row .exprs x.ea)
  ws : At S w (.r .weights) (.slice q.p7 x.ws.length q.c7) (.row .weights x.ws)
  it : At S w (.r .items) (.slice q.p8 x.it.length q.c8) (.row .items x.it)
  el : At S w (.r .items) (.slice q.p9 x.el.length q.c9) (.row .items x.el)
  bf : At S w (.r .strs) (.slice q.p10 x.bf.length q.c10) (.row .strs x.bf)
  af : At S w (.r .strs) (.slice q.p11 x.af.length q.c11) (.row .strs x.af)
theorem IV.kept {S S' : Nat → Prop} {w w' : World} (hS : ∀ b, S b → S' b) (hk : ∀ b o, S b → ∀ v, w.cell? ⟨b, o, none⟩ = some v → w'.cell? ⟨b, o, none⟩ = some v) {q : ItP} {x : ItL} (h : IV S w q x) : IV S' w' q x :=
  ⟨h.en, h.nm, h.ix, h.ea.kept hS hk, h.ws.kept hS hk, h.it.kept hS hk, h.el.kept hS hk, h.bf.kept hS hk, h.af.kept hS hk⟩
theorem IV.under {N : Nat} {w w' : World} (hb : Below N w w') {q : ItP} {x : ItL} (h : IV (Lo N) w q x) : IV (Lo N) w' q x :=
  h.kept (fun _ h => h) (fun b o hlt _ hv => (hb.cell (p := ⟨b, o, none⟩) hlt).trans hv)
end Go.Proofs.YtpejflgdehioaaaGreatDoor.ClW
namespace Go.Proofs.YtpejflgdehioaaaGreatDoor.ClW
open Go Go.RowKit Go.ChangeShapes Go.WideShapes Go.ChangeAt Go.Proofs.YtpejflgdehioaaaGreatDoor.LexM Go.Proofs.YtpejflgdehioaaaGreatDoor.LexW Go.Proofs.YtpejflgdehioaaaGreatDoor.ClM
def laidAll : List (String × DataW Unit) := Rows.itemScalarsRow.laid
theorem own : ownKnob Tryz.prog.godebug = none := by kernel_rfl
theorem tRange : (Tryz.prog.globals[2]?).map (·.type) = some 194 := by kernel_rfl
theorem cellsErr : Tryz.prog.cellsOf 235 = 1 := by kernel_rfl
theorem cellsStr : Tryz.prog.cellsOf 9 = 1 := by kernel_rfl
theorem star : "*" ++ "errors.errorString" = "*errors.errorString" := by decide
theorem rowErr (u : TypeId) (h : Tryz.prog.typeName? 3 u = some "*errors.errorString") : u = 233 :=
  typeName_ptr_named (nm := "errors.errorString") (by rw [star]; kernel_rfl) (by kernel_rfl) (by decide) u (by rw [star]; exact h)
theorem tab_of_laid {W : World} (h : laidMetH Tryz.prog laidAll W) : Tab W := by
  rw [MakeChecks.laidMetH_plain _ _ _ (by kernel_rfl)] at h; have h1 : laidMet Tryz.prog (("strconv.ErrRange", Rows.laid_strconv_ErrRange) :: ("strconv.ErrSyntax", Rows.laid_strconv_ErrSyntax) :: []) W := h.tail.tail.tail; obtain ⟨a0, _, hv0, _⟩ := laid_sentinel h1 gRange tRange Tryz.underlying194 rowErr Tryz.underlying233 Tryz.underlying235 rfl rfl Tryz.underlying9 cellsErr cellsStr; exact ⟨_, _, hv0⟩
theorem door_met (os : Os) (args : Array Value) : laidMetH Tryz.prog laidAll ((World.doorLaid Tryz.prog 400 os).forCall (fun _ _ => 0) ⟨#[], args, []⟩).memory :=
  laidMetH_of_parts3 (fuel := 8) (laidMet_of_run' 8 (by kernel_rfl) (by kernel_rfl)) (by kernel_rfl) (by kernel_rfl)
theorem laidOut : laidOutB Tryz.prog = true := by kernel_rfl
theorem add_at (b off k : Nat) : (⟨b, off, none⟩ : Addr).add k = ⟨b, off + k, none⟩ := by
  unfold Addr.add; by_cases h : k = 0
  · subst h; simp
  · simp [h]
theorem pick_list {α : Type} {Q : Nat → α → Prop} : ∀ n : Nat, (∀ i, i < n → ∃ t, Q i t) → ∃ l : List α, l.length = n ∧ ∀ i t, l[i]? = some t → Q i t
  | 0, _ => ⟨[], rfl, fun i t h => by simp at h⟩
  | n + 1, h => by
    obtain ⟨l, hl, hq⟩ := pick_list n (fun i hi => h i (by omega)); obtain ⟨t, ht⟩ := h n (by omega); refine ⟨l ++ [t], by simp [hl], fun i u hu => ?_⟩; by_cases hi : i < n
    · rw [List.getElem?_append_left (by omega)] at hu; exact hq i u hu
    · have hil : i < (l ++ [t]).length := (List.getElem?_eq_some_iff.1 hu).1; have e : i = n := (by simp [hl] at hil; omega); subst e; rw [List.getElem?_append_right (by omega), hl] at hu; have : t = u := (by simpa using hu); rw [← this]; exact ht
theorem weights_in {H : Type} {P : Program} {e : TypeId} : ∀ {l : List (DataW H)} {d : DataW H}, d ∈ l → ∀ n ∈ d.weights P e, n ∈ DataW.weightsAll P e l
  | d' :: r, d, hd, n, hn => by
    simp only [DataW.weightsAll, List.mem_append]; rcases List.mem_cons.1 hd with rfl | h
    · exact .inl hn
    · exact .inr (weights_in h n hn)
theorem cells_int : Tryz.prog.cellsOf 3 = 1 := by kernel_rfl
theorem cells_string : Tryz.prog.cellsOf 9 = 1 := by kernel_rfl
theorem cells_bool : Tryz.prog.cellsOf 4 = 1 := by kernel_rfl
theorem cells_Expr : Tryz.prog.cellsOf 43 = 4 := by kernel_rfl
theorem cells_Item : Tryz.prog.cellsOf 55 = 12 := by kernel_rfl
theorem cells_Weight : Tryz.prog.cellsOf 130 = 4 := by kernel_rfl
theorem cells_SItem : Tryz.prog.cellsOf 22 = 1 := by kernel_rfl
theorem cells_SWeight : Tryz.prog.cellsOf 53 = 1 := by kernel_rfl
theorem cells_Sstring : Tryz.prog.cellsOf 27 = 1 := by kernel_rfl
theorem bytes_Weight : Tryz.prog.bytesOf 130 = 32 := by kernel_rfl
theorem bytes_Item : Tryz.prog.bytesOf 55 = 216 := by kernel_rfl
theorem bytes_string : Tryz.prog.bytesOf 9 = 16 := by kernel_rfl
theorem reach_le {n : Nat} (h : decide (n ≤ reachBytes) = true) : n ≤ 140737488351232 := of_decide_eq_true h
end Go.Proofs.YtpejflgdehioaaaGreatDoor.ClW
namespace Go.Proofs.YtpejflgdehioaaaGreatDoor.ExW
open Go Go.RowKit Go.ChangeShapes Go.WideShapes Go.ChangeAt Go.Proofs.YtpejflgdehioaaaGreatDoor.LexM Go.Proofs.YtpejflgdehioaaaGreatDoor.LexW Go.Proofs.YtpejflgdehioaaaGreatDoor.ExM
def laidAll : List (String × DataW Unit) := Rows.itemScalarsRow.laid
theorem own : ownKnob Tryz.prog.godebug = none := by kernel_rfl
theorem tRange : (Tryz.prog.globals[2]?).map (·.type) = some 194 := by kernel_rfl
theorem cellsErr : Tryz.prog.cellsOf 235 = 1 := by kernel_rfl
theorem cellsStr : Tryz.prog.cellsOf 9 = 1 := by kernel_rfl
theorem star : "*" ++ "errors.errorString" = "*errors.errorString" := by decide
theorem rowErr (u : TypeId) (h : Tryz.prog.typeName? 3 u = some "*errors.errorString") : u = 233 :=
  typeName_ptr_named (nm := "errors.errorString") (by rw [star]; kernel_rfl) (by kernel_rfl) (by decide) u (by rw [star]; exact h)
theorem tab_of_laid {W : World} (h : laidMetH Tryz.prog laidAll W) : Tab W := by
  rw [MakeChecks.laidMetH_plain _ _ _ (by kernel_rfl)] at h; have h1 : laidMet Tryz.prog (("strconv.ErrRange", Rows.laid_strconv_ErrRange) :: ("strconv.ErrSyntax", Rows.laid_strconv_ErrSyntax) :: []) W := h.tail.tail.tail; obtain ⟨a0, _, hv0, _⟩ := laid_sentinel h1 gRange tRange Tryz.underlying194 rowErr Tryz.underlying233 Tryz.underlying235 rfl rfl Tryz.underlying9 cellsErr cellsStr; exact ⟨_, _, hv0⟩
theorem door_met (os : Os) (args : Array Value) : laidMetH Tryz.prog laidAll ((World.doorLaid Tryz.prog 400 os).forCall (fun _ _ => 0) ⟨#[], args, []⟩).memory :=
  laidMetH_of_parts3 (fuel := 8) (laidMet_of_run' 8 (by kernel_rfl) (by kernel_rfl)) (by kernel_rfl) (by kernel_rfl)
theorem laidOut : laidOutB Tryz.prog = true := by kernel_rfl
theorem cellsX : Tryz.prog.cellsOf 3 = 1 ∧ Tryz.prog.cellsOf 9 = 1 ∧ Tryz.prog.cellsOf 43 = 4 ∧ Tryz.prog.cellsOf 103 = 2 ∧ Tryz.prog.cellsOf 41 = 1 ∧ Tryz.prog.bytesOf 43 = 56 ∧ Tryz.prog.bytesOf 103 = 24 := by
  refine ⟨?_, ?_, ?_, ?_, ?_, ?_, ?_⟩ <;> kernel_rfl
theorem add_at (b off k : Nat) : (⟨b, off, none⟩ : Addr).add k = ⟨b, off + k, none⟩ := by
  unfold Addr.add; by_cases h : k = 0
  · subst h; simp
  · simp [h]
theorem pick_list {α : Type} {Q : Nat → α → Prop} : ∀ n : Nat, (∀ i, i < n → ∃ t, Q i t) → ∃ l : List α, l.length = n ∧ ∀ i t, l[i]? = some t → Q i t
  | 0, _ => ⟨[], rfl, fun i t h => by simp at h⟩
  | n + 1, h => by
    obtain ⟨l, hl, hq⟩ := pick_list n (fun i hi => h i (by omega)); obtain ⟨t, ht⟩ := h n (by omega); refine ⟨l ++ [t], by simp [hl], fun i u hu => ?_⟩; by_cases hi : i < n
    · rw [List.getElem?_append_left (by omega)] at hu; exact hq i u hu
    · have hil : i < (l ++ [t]).length := (List.getElem?_eq_some_iff.1 hu).1; have e : i = n := (by simp [hl] at hil; omega); subst e; rw [List.getElem?_append_right (by omega), hl] at hu; have : t = u := (by simpa using hu); rw [← this]; exact ht
theorem weights_in {H : Type} {P : Program} {e : TypeId} : ∀ {l : List (DataW H)} {d : DataW H}, d ∈ l → ∀ n ∈ d.weights P e, n ∈ DataW.weightsAll P e l
  | d' :: r, d, hd, n, hn => by
    simp only [DataW.weightsAll, List.mem_append]; rcases List.mem_cons.1 hd with rfl | h
    · exact .inl hn
    · exact .inr (weights_in h n hn)
theorem four_of {W : World} {a : Addr} {i : Nat} {c0 c1 c2 c3 : Value} (h : ∀ j, j < 4 → W.cell? ((a.add (i * 4)).add j) = ([c0, c1, c2, c3] : List Value)[j]?) {b off : Nat} (e : a = ⟨b, off, none⟩) :
    W.cell? ⟨b, off + i * 4, none⟩ = some c0 ∧ W.cell? ⟨b, off + i * 4 + 1, none⟩ = some c1 ∧ W.cell? ⟨b, off + i * 4 + 2, none⟩ = some c2 ∧ W.cell? ⟨b, off + i * 4 + 3, none⟩ = some c3 := by
  subst e; simp only [add_at] at h; exact ⟨h 0 (by omega), h 1 (by omega), h 2 (by omega), h 3 (by omega)⟩
set_option maxRecDepth 100000 in
theorem open_ex {H : Type} {enc : TypeId × Value → H} {W : World} : ∀ (fuel : Nat) (cs : List Value) (x : DataW H × List MemPlace), cs.length = 4 →
    DataW.trod enc Tryz.prog W 0 (fun _ => true) true fuel 43 cs = some x → (∀ y ∈ x.2, y.block < W.heap.size) → (∀ n ∈ x.1.weights Tryz.prog 43, n ≤ 140737488351232) →
    ∃ (e : Ex) (p : Option Addr) (cap : Nat), cs = [.int .i64 e.op, .int .i64 e.n, .string e.nm, .slice p e.args.length cap] ∧ ExAt W.heap.size W (xv e.op e.n e.nm (.slice p e.args.length cap)) e := by
  intro fuel; induction fuel using Nat.strongRecOn with
  | _ fuel ih =>
  intro cs x hl h hlt hw; obtain ⟨k1, k2, k3, _, k5, k6, _⟩ := cellsX; obtain ⟨xs, n, rfl, rfl, _, hlen, hfd⟩ := DataW.trod_struct Tryz.underlying43 h; match cs, hl with
  | [c0, c1, c2, c3], _ =>
    match xs, hlen with
    | [y0, y1, y2, y3], _ =>
      have h0 : DataW.trod enc Tryz.prog W 0 (fun _ => true) true n 3 ([c0, c1, c2, c3].take (Tryz.prog.cellsOf 3)) = some y0 := hfd 0 _ rfl; rw [k1, show [c0, c1, c2, c3].take 1 = [c0] from rfl] at h0; have h1 : DataW.trod enc Tryz.prog W 0 (fun _ => true) true n 3 ([c1, c2, c3].take (Tryz.prog.cellsOf 3)) = some y1 := hfd 1 _ rfl; rw [k1, show [c1, c2, c3].take 1 = [c1] from rfl] at h1; have h2 : DataW.trod enc Tryz.prog W 0 (fun _ => true) true n 9 ([c2, c3].take (Tryz.prog.cellsOf 9)) = some y2 := hfd 2 _ rfl; rw [k2, show [c2, c3].take 1 = [c2] from rfl] at h2; have h3 : DataW.trod enc Tryz.prog W 0 (fun _ => true) true n 41 ([c3].take (Tryz.prog.cellsOf 41)) = some y3 := hfd 3 _ rfl; rw [k5, show [c3].take 1 = [c3] from rfl] at h3; obtain ⟨m0, e0, _, w0⟩ := DataW.trod_int Tryz.underlying3 h0; obtain ⟨m1, e1, _, w1⟩ := DataW.trod_int Tryz.underlying3 h1; obtain ⟨s2, e2, rfl, w2⟩ := DataW.trod_string Tryz.underlying9 h2; obtain rfl : c0 = .int .i64 m0 := (by simpa using e0); obtain rfl : c1 = .int .i64 m1 := (by simpa using e1); obtain rfl : c2 = .string s2 := (by simpa using e2); have hwS : ∀ q ∈ (DataW.lit (Lit.string s2.data.toList) : DataW H).weights Tryz.prog 9, q ≤ 140737488351232 := fun q hq => hw q (by
        simp only [DataW.weights, Tryz.underlying43]; exact DataW.weights_mem_each (j := 2) rfl rfl q hq)
      have hwA : ∀ q ∈ y3.1.weights Tryz.prog 41, q ≤ 140737488351232 := fun q hq => hw q (by
        simp only [DataW.weights, Tryz.underlying43]; exact DataW.weights_mem_each (j := 3) rfl rfl q hq)
      have hs2 : s2.size ≤ 140737488351232 := by
        have := hwS s2.data.toList.length (by simp [DataW.weights]); rw [len_data] at this; exact this
      rcases DataW.trod_slice Tryz.underlying41 h3 with ⟨hcs, _⟩ | ⟨a, len, cap, elems, rest, m, rfl, hcs, rfl, _, hlc, _, hel, hE, _, _⟩
      · obtain rfl : c3 = .slice none 0 0 := (by simpa using hcs); exact ⟨.mk m0 m1 s2 [], none, 0, rfl, ExAt.mk (ks := []) (fun _ => none) (fun _ => 0) hs2 (by simp) (by simp) (fun h => by simp at h) (fun i a hi => by simp at hi)⟩
      · obtain rfl : c3 = .slice (some a) len cap := (by simpa using hcs); rw [k3] at hE hlt; have hbytes : len ≤ 140737488351232 := by
          have := hwA ((elems.length + rest.length) * 56) (by simp only [DataW.weights, Tryz.underlying41, k6, List.length_map]; simp); omega
        have each : ∀ i, i < len → ∃ t : Ex × Option Addr × Nat, (∀ j, j < 4 → W.cell? ((a.add (i * 4)).add j) = ([.int .i64 t.1.op, .int .i64 t.1.n, .string t.1.nm, .slice t.2.1 t.1.args.length t.2.2] : List Value)[j]?) ∧ ExAt W.heap.size W (xv t.1.op t.1.n t.1.nm (.slice t.2.1 t.1.args.length t.2.2)) t.1 := fun i hi => by
          have hi2 : i < elems.length := (by omega); have hb := hE i hi; rw [List.getElem?_eq_getElem hi2, Option.bind_eq_some_iff] at hb; obtain ⟨cs', hc', ht'⟩ := hb; obtain ⟨_, hcl, hat⟩ := World.cells?_some hc'; have hmem : elems[i] ∈ elems := List.getElem_mem hi2
          obtain ⟨e', p', cap', rfl, hx'⟩ := ih m (by omega) cs' elems[i] hcl ht'
            (fun y hy => hlt y (by simp only [List.flatMap_cons, List.mem_append]; exact .inr (.inr (.inr (.inl (.inr (List.mem_flatMap.2 ⟨_, List.mem_append.2 (.inl hmem), hy⟩))))))) 
            (fun q hq => hwA q (by
              simp only [DataW.weights, Tryz.underlying41, List.mem_cons, List.mem_append]; exact .inr (.inl (weights_in (List.mem_map.2 ⟨_, hmem, rfl⟩) q hq))))
          exact ⟨(e', p', cap'), hat, hx'⟩
        obtain ⟨l, hll, hq⟩ := pick_list len each; have hkl : (l.map (·.1)).length = len := (by rw [List.length_map, hll]); refine ⟨.mk m0 m1 s2 (l.map (·.1)), some a, cap, by simp only [Ex.op, Ex.n, Ex.nm, Ex.args, hkl], ?_⟩; simp only [Ex.op, Ex.n, Ex.nm, Ex.args]; have get : ∀ (i : Nat) (e' : Ex), (l.map (·.1))[i]? = some e' → ∃ t : Ex × Option Addr × Nat, l[i]? = some t ∧ t.1 = e' := fun i e' he => by
          rw [List.getElem?_map] at he; obtain ⟨t, ht, rfl⟩ := Option.map_eq_some_iff.1 he; exact ⟨t, ht, rfl⟩
        refine ExAt.mk (fun i => ((l[i]?).map (·.2.1)).getD none) (fun i => ((l[i]?).map (·.2.2)).getD 0) hs2 (by omega) (by omega) (fun h0 => ?_) (fun i e' he => ?_)
        · obtain ⟨b, off, spot⟩ := a; have hspot : spot = none := by
            obtain ⟨t0, ht0⟩ : ∃ t, l[0]? = some t := ⟨_, List.getElem?_eq_getElem (by omega)⟩; have := (hq 0 t0 ht0).1 0 (by omega)
            simpa [Addr.add] using World.cell?_spot this
          subst hspot; refine ⟨b, off, rfl, hlt (.cell b off) (by
            simp only [List.flatMap_cons, List.mem_append]; exact .inr (.inr (.inr (.inl (.inl (MemPlace.mem_row.2 ⟨0, by omega, by simp⟩)))))), fun i e' he => ?_⟩
          obtain ⟨t, ht, rfl⟩ := get i e' he; simp only [ht]; exact four_of (hq i t ht).1 rfl
        · obtain ⟨t, ht, rfl⟩ := get i e' he; simp only [ht]; exact (hq i t ht).2
end Go.Proofs.YtpejflgdehioaaaGreatDoor.ExW
