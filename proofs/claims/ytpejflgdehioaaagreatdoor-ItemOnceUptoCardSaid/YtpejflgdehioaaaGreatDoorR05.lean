/-
  Laws that the card uses; no conditions beside those that each states (ExSig ExComp ExValue ExSameR ExIter).
-/
import Derived.Lib.QuietBelow
import Derived.RangeFuncBound
import Derived.Laws.EntriesVeiled
import Derived.RangeFuncLeaves
import Derived.Shelf.Abstract
import Derived.OwnWalkIn
import Derived.TacticsInMore
import Derived.LoopNIn
import Derived.LoopIn
import Derived.Test.YtpejflgdehioaaaGreatDoorR04
namespace Go.Proofs.YtpejflgdehioaaaGreatDoor.ExW
open Go Go.RowKit Go.Proofs.YtpejflgdehioaaaGreatDoor.NumM Go.Proofs.YtpejflgdehioaaaGreatDoor.LexW Go.Proofs.YtpejflgdehioaaaGreatDoor.LexM Go.Proofs.YtpejflgdehioaaaGreatDoor.ExM
def SigsAt (w : World) (v : Value) (env : Env) : Prop :=
  ∃ p cap, v = .slice p env.length cap ∧ env.length ≤ 140737488351232 ∧ env.length ≤ cap ∧ (0 < env.length → ∃ b off, p = some ⟨b, off, none⟩ ∧ b < w.heap.size ∧ ∀ i x, env[i]? = some x →
    w.cell? ⟨b, off + i * 2, none⟩ = some (.string x.1) ∧ w.cell? ⟨b, off + i * 2 + 1, none⟩ = some (.int .i64 x.2))
theorem SigsAt.later {w w' : World} {v : Value} {env : Env} (h : SigsAt w v env) (hb : Below w.heap.size w w') : SigsAt w' v env := by
  obtain ⟨p, cap, rfl, hl, hc, hx⟩ := h; refine ⟨p, cap, rfl, hl, hc, fun h0 => ?_⟩; obtain ⟨b, off, hp, hbs, hcell⟩ := hx h0; refine ⟨b, off, hp, Nat.lt_of_lt_of_le hbs hb.size, fun i t hi => ?_⟩; rw [hb.cell hbs, hb.cell hbs]; exact hcell i t hi
theorem SigsAt.nil (w : World) : SigsAt w (.slice none 0 0) [] := ⟨none, 0, rfl, by simp, by simp, fun h => by simp at h⟩
theorem elm_data (a : ByteArray) (i : Nat) : (elmN a i).data.toList = a.data.toList ++ [91, UInt8.ofNat (48 + i), 93] := rfl
theorem elm_cat (a d : ByteArray) (i : Nat) (h : d.data.toList = [UInt8.ofNat (48 + i)]) : ((a ++ ⟨#[91]⟩) ++ d) ++ ⟨#[93]⟩ = elmN a i := by
  apply bs_inj; rw [elm_data]; simp [ByteArray.data_append, h]
structure IntsAt (w : World) (b off : Nat) (l : List Int) : Prop where
  lt : b < w.heap.size
  cell : ∀ i v, l[i]? = some v → w.cell? ⟨b, off + i, none⟩ = some (.int .i64 v)
theorem IntsAt.later {w w' : World} {b off : Nat} {l : List Int} (h : IntsAt w b off l) (hb : Below w.heap.size w w') : IntsAt w' b off l :=
  ⟨Nat.lt_of_lt_of_le h.lt hb.size, fun i v hi => (hb.cell (p := ⟨b, off + i, none⟩) h.lt).trans (h.cell i v hi)⟩
theorem IntsAt.tail {w : World} {b off : Nat} {a : Int} {l : List Int} (h : IntsAt w b off (a :: l)) : IntsAt w b (off + 1) l :=
  ⟨h.lt, fun i v hi => by have := h.cell (i + 1) v (by simpa using hi); rwa [show off + (i + 1) = off + 1 + i by omega] at this⟩
end Go.Proofs.YtpejflgdehioaaaGreatDoor.ExW
namespace Go.Proofs.YtpejflgdehioaaaGreatDoor.ExW
open Go Go.RowKit Go.«Sort» Go.Proofs.YtpejflgdehioaaaGreatDoor.NumM Go.Proofs.YtpejflgdehioaaaGreatDoor.LexW Go.Proofs.YtpejflgdehioaaaGreatDoor.LexM Go.Proofs.YtpejflgdehioaaaGreatDoor.ExM
theorem flt_zero {lv : Nat} {o n : Int} {s : ByteArray} {k : Nat} (h : fltS ⟨lv, o, n, s, k⟩ = 0) : badA ⟨lv, o, n, s, k⟩ = false ∧ badN ⟨lv, o, n, s, k⟩ = false := by
  unfold fltS at h; cases ha : badA ⟨lv, o, n, s, k⟩
  · rw [ha] at h; cases hb : badN ⟨lv, o, n, s, k⟩
    · exact ⟨rfl, rfl⟩
    · rw [hb] at h; simp at h
  · rw [ha] at h; simp at h
theorem flt_takes {lv : Nat} {o n : Int} {s : ByteArray} {k : Nat} (h : fltS ⟨lv, o, n, s, k⟩ = 0) : takesS o k = true := by
  have := (flt_zero h).1; unfold badA at this; cases ht : takesS o k
  · simp [ht] at this
  · rfl
theorem reB {P : Program} {f : FuncId} {args : Array Value} {w : World} {v : Value} (C : ∀ W, Below w.heap.size w W → Calls P f args W fun e w' => e = .returned v ∧ Below W.heap.size W w') (d : Nat) (os : Array Obj) :
    Calls P f args (grow (redrawn w d) os) fun e w'' => e = .returned v ∧ ∃ p : Regrown, w'' = grow (redrawn w p.d) p.os :=
  Calls.regrown_of (C _ (below_regrown w d os))
end Go.Proofs.YtpejflgdehioaaaGreatDoor.ExW
namespace Go.Proofs.YtpejflgdehioaaaGreatDoor.ExW
open Go Go.RowKit Go.Proofs.YtpejflgdehioaaaGreatDoor.NumM Go.Proofs.YtpejflgdehioaaaGreatDoor.LexW Go.Proofs.YtpejflgdehioaaaGreatDoor.LexM Go.Proofs.YtpejflgdehioaaaGreatDoor.ExM
open Classical in
noncomputable def eqB (a b : Ex) : Bool := decide (a = b)
open Classical in
noncomputable def eqL (a b : List Ex) : Bool := decide (a = b)
theorem eqB_mk (o n : Int) (s : ByteArray) (ks : List Ex) (o' n' : Int) (s' : ByteArray) (ks' : List Ex) : eqB (.mk o n s ks) (.mk o' n' s' ks') = ((o == o') && ((n == n') && ((s.toList == s'.toList) && eqL ks ks'))) := by
  unfold eqB eqL; rw [Bool.eq_iff_iff, Lib.toList_data, Lib.toList_data]; simp only [decide_eq_true_eq, Bool.and_eq_true, beq_iff_eq, Ex.mk.injEq]; constructor
  · rintro ⟨rfl, rfl, rfl, rfl⟩; exact ⟨rfl, rfl, rfl, rfl⟩
  · rintro ⟨h1, h2, h3, h4⟩; exact ⟨h1, h2, bs_inj h3, h4⟩
theorem eqL_len {a b : List Ex} (h : a.length ≠ b.length) : eqL a b = false := by
  unfold eqL; rw [decide_eq_false_iff_not]; rintro rfl; exact h rfl
theorem eqL_no {a b : List Ex} {i : Nat} {x y : Ex} (h : a[i]? = some x) (g : b[i]? = some y) (k : eqB x y = false) : eqL a b = false := by
  unfold eqL eqB at *; rw [decide_eq_false_iff_not] at *; rintro rfl; rw [h] at g; exact k (Option.some.inj g)
open Classical in
theorem eqL_yes {a b : List Ex} (hl : a.length = b.length) (h : ∀ (i : Nat) (x y : Ex), i < a.length → a[i]? = some x → b[i]? = some y → eqB x y = true) : eqL a b = true := by
  unfold eqL; refine decide_eq_true ?_; apply List.ext_getElem hl; intro i h1 h2; have := h i _ _ h1 (List.getElem?_eq_getElem h1) (List.getElem?_eq_getElem h2); exact of_decide_eq_true this
def eqRow (f : FuncId) (ks ks' : List Ex) (N : Nat) (w : World) : Prop :=
  ∀ a ∈ ks, ∀ b ∈ ks', ∀ W va vb, Below w.heap.size w W → ExAt N W va a → ExAt N W vb b → Calls Tryz.prog f #[va, vb] W (tBool (eqB a b) W)
set_option maxRecDepth 100000 in
set_option maxHeartbeats 4000000 in
theorem equal_any (ks ks' : List Ex) (pl pl' : Nat → Option Addr) (cl cl' : Nat → Nat) (p p' : Option Addr) (cap cap' N : Nat) (w : World) (ha : ArgsAt N w p cap pl cl ks) (hb : ArgsAt N w p' cap' pl' cl' ks') (hN : N ≤ w.heap.size) (hk : ks.length ≤ 10000)
    (hc : eqRow 114 ks ks' N w) :
    Calls Tryz.prog 163 #[.slice p ks.length cap, .slice p' ks'.length cap', .func (.func 114) #[] #[]] w (tBool (eqL ks ks') w) := by
  have HA := Lib.hid ha; have HB := Lib.hid hb; have HC := Lib.hid hc; have hkb := hb.hl; have HB0 := Lib.hid (Below.refl w.heap.size w); by_cases hl : ks.length = ks'.length
  · have HL := Lib.hid hl; obtain ⟨K, hK⟩ : ∃ K, ks.length = K := ⟨_, rfl⟩; have HK := Lib.hid hK; rw [← hl, hK]; rw [hK] at hk; clear hK ha hb hc hl hkb
    go_enter Tryz.func163, Tryz.ntmps163
    go_wp2; go_loopw [17] (fun i wr => ∃ j : Nat, j ≤ K ∧ i = .int .i64 j ∧ Hid (∀ (i : Nat) (x y : Ex), i < j → ks[i]? = some x → ks'[i]? = some y → eqB x y = true) ∧ Hid (Below w.heap.size w wr)) (fun i _ => K - (intOf i).toNat)
    case atStart => exact ⟨0, Nat.zero_le _, rfl, Lib.hid (fun i _ _ h => by omega), HB0⟩
    case round =>
      obtain ⟨j, hj, rfl, AL, BW⟩ := hrel; by_cases hlt : j < K
      · obtain ⟨b, off, rfl, hbs, hcell⟩ := HA.out.hp (by rw [HK.out]; omega); obtain ⟨b', off', rfl, hbs', hcell'⟩ := HB.out.hp (by rw [← HL.out, HK.out]; omega); obtain ⟨a, hak⟩ : ∃ a, ks[j]? = some a := ⟨_, List.getElem?_eq_getElem (by rw [HK.out]; exact hlt)⟩; obtain ⟨d, hdk⟩ : ∃ d, ks'[j]? = some d := ⟨_, List.getElem?_eq_getElem (by rw [← HL.out, HK.out]; exact hlt)⟩; obtain ⟨q0, q1, q2, q3⟩ := hcell j a hak; obtain ⟨r0, r1, r2, r3⟩ := hcell' j d hdk; have hbw : Below N w wr := BW.out.mono hN; have hbA : ∀ v, Below wr.heap.size wr (wr.alloc v) := (fun v => (Below.refl _ _).alloc (Nat.le_refl _) _); have ca0 : wr.cell? ⟨b, off + j * 4, none⟩ = some (.int .i64 a.op) := (by rw [hbw.cell hbs]; exact q0); have ca1 : wr.cell? ⟨b, off + j * 4 + 1, none⟩ = some (.int .i64 a.n) := (by rw [hbw.cell hbs]; exact q1); have ca2 : wr.cell? ⟨b, off + j * 4 + 2, none⟩ = some (.string a.nm) := (by rw [hbw.cell hbs]; exact q2); have ca3 : wr.cell? ⟨b, off + j * 4 + 3, none⟩ = some (.slice (pl j) a.args.length (cl j)) := (by rw [hbw.cell hbs]; exact q3); have cb0 : ∀ v, (wr.alloc v).cell? ⟨b', off' + j * 4, none⟩ = some (.int .i64 d.op) := (fun v => by rw [(hbw.trans ((hbA v).mono (by have := BW.out.size; omega))).cell hbs']; exact r0); have cb1 : ∀ v, (wr.alloc v).cell? ⟨b', off' + j * 4 + 1, none⟩ = some (.int .i64 d.n) := (fun v => by rw [(hbw.trans ((hbA v).mono (by have := BW.out.size; omega))).cell hbs']; exact r1); have cb2 : ∀ v, (wr.alloc v).cell? ⟨b', off' + j * 4 + 2, none⟩ = some (.string d.nm) := (fun v => by rw [(hbw.trans ((hbA v).mono (by have := BW.out.size; omega))).cell hbs']; exact r2); have cb3 : ∀ v, (wr.alloc v).cell? ⟨b', off' + j * 4 + 3, none⟩ = some (.slice (pl' j) d.args.length (cl' j)) := (fun v => by rw [(hbw.trans ((hbA v).mono (by have := BW.out.size; omega))).cell hbs']; exact r3); have hxa := HA.out.hx j a hak; have hxb := HB.out.hx j d hdk; have HCA : Hid (∀ W, Below w.heap.size w W → Calls Tryz.prog 114 #[xv a.op a.n a.nm (.slice (pl j) a.args.length (cl j)), xv d.op d.n d.nm (.slice (pl' j) d.args.length (cl' j))] W (tBool (eqB a d) W)) := (Lib.hid fun W hb => HC.out a (List.mem_of_getElem? hak) d (List.mem_of_getElem? hdk) W _ _ hb (hxa.under (hb.mono hN)) (hxb.under (hb.mono hN))); have HAK := Lib.hid hak; have HDK := Lib.hid hdk; obtain ⟨v, hv⟩ : ∃ v, eqB a d = v := ⟨_, rfl⟩; have HV := Lib.hid hv; rw [hv] at HCA; obtain ⟨ao, hao⟩ : ∃ x, a.op = x := ⟨_, rfl⟩; obtain ⟨an, han⟩ : ∃ x, a.n = x := ⟨_, rfl⟩; obtain ⟨am, ham⟩ : ∃ x, a.nm = x := ⟨_, rfl⟩; obtain ⟨ak, hka⟩ : ∃ x, a.args.length = x := ⟨_, rfl⟩; obtain ⟨ap, hap⟩ : ∃ x, pl j = x := ⟨_, rfl⟩; obtain ⟨ac, hac⟩ : ∃ x, cl j = x := ⟨_, rfl⟩; obtain ⟨bo, hbo⟩ : ∃ x, d.op = x := ⟨_, rfl⟩; obtain ⟨bn, hbn⟩ : ∃ x, d.n = x := ⟨_, rfl⟩; obtain ⟨bm, hbm⟩ : ∃ x, d.nm = x := ⟨_, rfl⟩; obtain ⟨bk, hbk⟩ : ∃ x, d.args.length = x := ⟨_, rfl⟩; obtain ⟨bp, hbp⟩ : ∃ x, pl' j = x := ⟨_, rfl⟩; obtain ⟨bc, hbc⟩ : ∃ x, cl' j = x := ⟨_, rfl⟩; rw [hao] at ca0 HCA; rw [han] at ca1 HCA; rw [ham] at ca2 HCA; rw [hka, hap, hac] at ca3 HCA; rw [hbo] at cb0 HCA; rw [hbn] at cb1 HCA; rw [hbm] at cb2 HCA; rw [hbk, hbp, hbc] at cb3 HCA; have db0 := cb0 (.cells #[.int .i64 ao, .int .i64 an, .string am, .slice ap ak ac] 43); have db1 := cb1 (.cells #[.int .i64 ao, .int .i64 an, .string am, .slice ap ak ac] 43); have db2 := cb2 (.cells #[.int .i64 ao, .int .i64 an, .string am, .slice ap ak ac] 43); have db3 := cb3 (.cells #[.int .i64 ao, .int .i64 an, .string am, .slice ap ak ac] 43); have FA := (Four.new wr (.int .i64 ao) (.int .i64 an) (.string am) (.slice ap ak ac) 43).alloc (.cells #[.int .i64 bo, .int .i64 bn, .string bm, .slice bp bk bc] 43); have FB := Four.new (wr.alloc (.cells #[.int .i64 ao, .int .i64 an, .string am, .slice ap ak ac] 43)) (.int .i64 bo) (.int .i64 bn) (.string bm) (.slice bp bk bc) 43; rw [World.size_alloc] at FB; have e0 := FA.c0; have e1 := FA.c1; have e2 := FA.c2; have e3 := FA.c3; have g0 := FB.c0; have g1 := FB.c1; have g2 := FB.c2; have g3 := FB.c3; have HB2 : Hid (Below w.heap.size w ((wr.alloc (.cells #[.int .i64 ao, .int .i64 an, .string am, .slice ap ak ac] 43)).alloc (.cells #[.int .i64 bo, .int .i64 bn, .string bm, .slice bp bk bc] 43))) := Lib.hid ((BW.out.alloc BW.out.size _).alloc (by have := BW.out.size; simp; omega) _); have CC := Lib.hid (HCA.out _ HB2.out); clear hcell q0 q1 q2 q3 hcell' r0 r1 r2 r3 hbw hak hdk hao han ham hka hap hac hbo hbn hbm hbk hbp hbc cb0 cb1 cb2 cb3 hxa hxb hbA FA FB HCA hv; cases v
        · go_wp2_with (go_at_call 114; ((with_reducible refine CC.out.mono ?_); rintro e w5 ⟨rfl, hb⟩; have HB5 := Lib.hid (HB2.out.then_ hb); clear hb))
          go_ret; exact tBool_mk (eqL_no HAK.out HDK.out HV.out).symm HB5.out
        · go_wp2_with (go_at_call 114; ((with_reducible refine CC.out.mono ?_); rintro e w5 ⟨rfl, hb⟩; have HB5 := Lib.hid (HB2.out.then_ hb); clear hb))
          go_roundw
          case rel => exact ⟨j + 1, by omega, by go_num, Lib.hid (fun i x y hi hx hy => by
            rcases Nat.lt_or_ge i j with h | h
            · exact AL.out i x y h hx hy
            · obtain rfl : i = j := (by omega); rw [HAK.out] at hx; rw [HDK.out] at hy; cases hx; cases hy; exact HV.out), HB5⟩
          case measure => simp [intOf]; omega
      · have AL2 := Lib.hid (eqL_yes HL.out (fun i x y hi => AL.out i x y (by rw [HK.out] at hi; omega))); go_wp2; go_ret; exact tBool_mk AL2.out.symm BW.out
  · have HE := Lib.hid (eqL_len hl); obtain ⟨K, hK⟩ : ∃ K, ks.length = K := ⟨_, rfl⟩; obtain ⟨L, hL⟩ : ∃ L, ks'.length = L := ⟨_, rfl⟩; rw [hK, hL]; rw [hK, hL] at hl; have h0 : ((K : Int) == (L : Int)) = false := (by rw [beq_eq_false_iff_ne]; omega); clear hl hK hL ha hb hc hk hkb
    go_enter Tryz.func163, Tryz.ntmps163
    go_wp2; go_ret; exact tBool_mk HE.out.symm HB0.out
set_option maxRecDepth 100000 in
set_option maxHeartbeats 8000000 in
theorem same_any (a : Ex) : ∀ (b : Ex) (N : Nat) (w : World) (va vb : Value), ExAt N w va a → ExAt N w vb b → N ≤ w.heap.size → sz a ≤ 10000 → Calls Tryz.prog 114 #[va, vb] w (tBool (eqB a b) w) := by
  induction a using Ex.ind with
  | h o n s ks ih =>
    intro b N w va vb hx hy hN hsz; obtain ⟨o', n', s', ks'⟩ := b; obtain ⟨p, cap, pl, cl, rfl, hs, ha⟩ := hx.form; obtain ⟨p', cap', pl', cl', rfl, hs', hb⟩ := hy.form; simp only [Ex.op, Ex.n, Ex.nm, Ex.args] at hs ha hs' hb ⊢; rw [sz_mk] at hsz; have hl := len_szs ks; have EE := Lib.hid (eqB_mk o n s ks o' n' s' ks'); have hb1 : Below w.heap.size w ((w.alloc (.cells #[.int .i64 o, .int .i64 n, .string s, .slice p ks.length cap] 43)).alloc (.cells #[.int .i64 o', .int .i64 n', .string s', .slice p' ks'.length cap'] 43)) := ((Below.refl _ _).alloc (Nat.le_refl _) _).alloc (by simp) _; have CC := Lib.hid (equal_any ks ks' pl pl' cl cl' p p' cap cap' N _ (ha.under (hb1.mono hN)) (hb.under (hb1.mono hN)) (by have := hb1.size; omega) (by omega) (fun a ha' b hb' W va vb hW hxa hxb => ih a ha' b N W va vb hxa hxb (by have := hW.size; have := hb1.size; omega) (by have := sz_mem ha'; omega))); have FA := (Four.new w (.int .i64 o) (.int .i64 n) (.string s) (.slice p ks.length cap) 43).alloc (.cells #[.int .i64 o', .int .i64 n', .string s', .slice p' ks'.length cap'] 43); have FB := Four.new (w.alloc (.cells #[.int .i64 o, .int .i64 n, .string s, .slice p ks.length cap] 43)) (.int .i64 o') (.int .i64 n') (.string s') (.slice p' ks'.length cap') 43; rw [World.size_alloc] at FB; have HB1 := Lib.hid hb1; clear ha hb hx hy ih hb1 hs hs' hsz hl; generalize ks.length = K at *
    generalize ks'.length = K' at *
    generalize eqL ks ks' = q at *
    have e0 := FA.c0; have e1 := FA.c1; have e2 := FA.c2; have e3 := FA.c3; have g0 := FB.c0; have g1 := FB.c1; have g2 := FB.c2; have g3 := FB.c3; clear FA FB; cases h1 : (o == o') <;> cases h2 : (n == n') <;> cases h3 : (s.toList == s'.toList)
    all_goals
      rw [h1, h2, h3] at EE
      go_enter Tryz.func114, Tryz.ntmps114
      go_wp2_with (go_at_call 163; ((with_reducible refine CC.out.mono ?_); rintro e w5 ⟨rfl, hb⟩; have HB5 := Lib.hid (HB1.out.then_ hb); clear hb))
      go_ret; first
        | exact tBool_mk (by rw [EE.out]; rfl) HB5.out
        | exact tBool_mk (by rw [EE.out]; rfl) HB1.out
end Go.Proofs.YtpejflgdehioaaaGreatDoor.ExW
namespace Go.Proofs.YtpejflgdehioaaaGreatDoor.ExW
open Go Go.RowKit Go.Proofs.YtpejflgdehioaaaGreatDoor.NumM Go.Proofs.YtpejflgdehioaaaGreatDoor.LexW Go.Proofs.YtpejflgdehioaaaGreatDoor.LexM Go.Proofs.YtpejflgdehioaaaGreatDoor.ExM
open Go.«Sort»
theorem ne_of_beq {a b : Int} {x : Bool} (h : (a == b) = x) : (a != b) = !x := by rw [bne, h]
set_option maxRecDepth 100000 in
set_option maxHeartbeats 16000000 in
theorem sameR_any (a : Ex) : ∀ (b : Ex) (N : Nat) (w : World) (va vb : Value), ExAt N w va a → ExAt N w vb b → N ≤ w.heap.size → sz a ≤ 10000 → Calls Tryz.prog 28 #[va, vb] w (tBool (eqB a b) w) := by
  induction a using Ex.ind with
  | h o n s ks ih =>
    intro b N w va vb hx hy hN hsz; obtain ⟨o', n', s', ks'⟩ := b; obtain ⟨p, cap, pl, cl, rfl, hs, ha⟩ := hx.form; obtain ⟨p', cap', pl', cl', rfl, hs', hb⟩ := hy.form; simp only [Ex.op, Ex.n, Ex.nm, Ex.args] at hs ha hs' hb ⊢; rw [sz_mk] at hsz; have hl := len_szs ks; have hk : ks.length ≤ 10000 := (by omega); have hk' := hb.hl; have EE := Lib.hid (eqB_mk o n s ks o' n' s' ks'); have hb1 : Below w.heap.size w ((w.alloc (.cells #[.int .i64 o, .int .i64 n, .string s, .slice p ks.length cap] 43)).alloc (.cells #[.int .i64 o', .int .i64 n', .string s', .slice p' ks'.length cap'] 43)) := ((Below.refl _ _).alloc (Nat.le_refl _) _).alloc (by simp) _; have FA := (Four.new w (.int .i64 o) (.int .i64 n) (.string s) (.slice p ks.length cap) 43).alloc (.cells #[.int .i64 o', .int .i64 n', .string s', .slice p' ks'.length cap'] 43); have FB := Four.new (w.alloc (.cells #[.int .i64 o, .int .i64 n, .string s, .slice p ks.length cap] 43)) (.int .i64 o') (.int .i64 n') (.string s') (.slice p' ks'.length cap') 43; rw [World.size_alloc] at FB; have HB1 := Lib.hid hb1; have HIH : Hid (∀ a ∈ ks, ∀ b ∈ ks', ∀ W va vb, Below w.heap.size w W → ExAt N W va a → ExAt N W vb b → Calls Tryz.prog 28 #[va, vb] W (tBool (eqB a b) W)) := (Lib.hid fun a ha' b hb' W va vb hW hxa hxb => ih a ha' b N W va vb hxa hxb (by have := hW.size; omega) (by have := sz_mem ha'; omega)); have HA := Lib.hid ha; have HB := Lib.hid hb; clear ha hb hx hy ih hb1 hs hs' hsz hl; obtain ⟨K, hK⟩ : ∃ K, ks.length = K := ⟨_, rfl⟩; obtain ⟨K', hK'⟩ : ∃ K', ks'.length = K' := ⟨_, rfl⟩; have HK := Lib.hid hK; have HK' := Lib.hid hK'; rw [hK] at HB1 FA FB hk ⊢; rw [hK'] at HB1 FA FB hk' ⊢; clear hK hK'; have e0 := FA.c0; have e1 := FA.c1; have e2 := FA.c2; have e3 := FA.c3; have g0 := FB.c0; have g1 := FB.c1; have g2 := FB.c2; have g3 := FB.c3; have HFA := Lib.hid FA; have HFB := Lib.hid FB; clear FA FB; by_cases hall : (o == o') = true ∧ (n == n') = true ∧ (s.toList == s'.toList) = true ∧ K = K'
    · obtain ⟨h1, h2, h3, rfl⟩ := hall; have HL : Hid (eqB (.mk o n s ks) (.mk o' n' s' ks') = eqL ks ks') := Lib.hid (by rw [EE.out, h1, h2, h3]; rfl); have i1 := ne_of_beq h1; have i2 := ne_of_beq h2; clear EE
      go_enter Tryz.func28, Tryz.ntmps28
      go_wp2; go_loopw [5] (fun i wr => ∃ j : Nat, j ≤ K ∧ i = .int .i64 j ∧ Hid (∀ (i : Nat) (x y : Ex), i < j → ks[i]? = some x → ks'[i]? = some y → eqB x y = true) ∧ Hid (Below w.heap.size w wr) ∧ Hid (Four wr w.heap.size (.int .i64 o) (.int .i64 n) (.string s) (.slice p K cap)) ∧ Hid (Four wr (w.heap.size + 1) (.int .i64 o') (.int .i64 n') (.string s') (.slice p' K cap'))) (fun i _ => K - (intOf i).toNat)
      case atStart => exact ⟨0, Nat.zero_le _, rfl, Lib.hid (fun i _ _ h => by omega), HB1, HFA, HFB⟩
      case round =>
        obtain ⟨j, hj, rfl, AL, BW, FA, FB⟩ := hrel; clear e0 e1 e2 e3 g0 g1 g2 g3; have e3 := FA.out.c3; have g3 := FB.out.c3; by_cases hlt : j < K
        · obtain ⟨b, off, rfl, hbs, hcell⟩ := HA.out.hp (by rw [HK.out]; omega); obtain ⟨b', off', rfl, hbs', hcell'⟩ := HB.out.hp (by rw [HK'.out]; omega); obtain ⟨a, hak⟩ : ∃ a, ks[j]? = some a := ⟨_, List.getElem?_eq_getElem (by rw [HK.out]; exact hlt)⟩; obtain ⟨d, hdk⟩ : ∃ d, ks'[j]? = some d := ⟨_, List.getElem?_eq_getElem (by rw [HK'.out]; exact hlt)⟩; obtain ⟨q0, q1, q2, q3⟩ := hcell j a hak; obtain ⟨r0, r1, r2, r3⟩ := hcell' j d hdk; have hbw : Below N w wr := BW.out.mono hN; have ca0 : wr.cell? ⟨b, off + j * 4, none⟩ = some (.int .i64 a.op) := (by rw [hbw.cell hbs]; exact q0); have ca1 : wr.cell? ⟨b, off + j * 4 + 1, none⟩ = some (.int .i64 a.n) := (by rw [hbw.cell hbs]; exact q1); have ca2 : wr.cell? ⟨b, off + j * 4 + 2, none⟩ = some (.string a.nm) := (by rw [hbw.cell hbs]; exact q2); have ca3 : wr.cell? ⟨b, off + j * 4 + 3, none⟩ = some (.slice (pl j) a.args.length (cl j)) := (by rw [hbw.cell hbs]; exact q3); have cb0 : wr.cell? ⟨b', off' + j * 4, none⟩ = some (.int .i64 d.op) := (by rw [hbw.cell hbs']; exact r0); have cb1 : wr.cell? ⟨b', off' + j * 4 + 1, none⟩ = some (.int .i64 d.n) := (by rw [hbw.cell hbs']; exact r1); have cb2 : wr.cell? ⟨b', off' + j * 4 + 2, none⟩ = some (.string d.nm) := (by rw [hbw.cell hbs']; exact r2); have cb3 : wr.cell? ⟨b', off' + j * 4 + 3, none⟩ = some (.slice (pl' j) d.args.length (cl' j)) := (by rw [hbw.cell hbs']; exact r3); have hxa := HA.out.hx j a hak; have hxb := HB.out.hx j d hdk; have HCA : ∀ W, Below wr.heap.size wr W → Calls Tryz.prog 28 #[xv a.op a.n a.nm (.slice (pl j) a.args.length (cl j)), xv d.op d.n d.nm (.slice (pl' j) d.args.length (cl' j))] W (tBool (eqB a d) W) := (fun W hb => HIH.out a (List.mem_of_getElem? hak) d (List.mem_of_getElem? hdk) W _ _ (BW.out.then_ hb) ((hxa.under hbw).under (hb.mono (by have := BW.out.size; omega))) ((hxb.under hbw).under (hb.mono (by have := BW.out.size; omega)))); have HAK := Lib.hid hak; have HDK := Lib.hid hdk; obtain ⟨v, hv⟩ : ∃ v, eqB a d = v := ⟨_, rfl⟩; have HV := Lib.hid hv; rw [hv] at HCA; obtain ⟨ao, hao⟩ : ∃ x, a.op = x := ⟨_, rfl⟩; obtain ⟨an, han⟩ : ∃ x, a.n = x := ⟨_, rfl⟩; obtain ⟨am, ham⟩ : ∃ x, a.nm = x := ⟨_, rfl⟩; obtain ⟨ak, hka⟩ : ∃ x, a.args.length = x := ⟨_, rfl⟩; obtain ⟨ap, hap⟩ : ∃ x, pl j = x := ⟨_, rfl⟩; obtain ⟨ac, hac⟩ : ∃ x, cl j = x := ⟨_, rfl⟩; obtain ⟨bo, hbo⟩ : ∃ x, d.op = x := ⟨_, rfl⟩; obtain ⟨bn, hbn⟩ : ∃ x, d.n = x := ⟨_, rfl⟩; obtain ⟨bm, hbm⟩ : ∃ x, d.nm = x := ⟨_, rfl⟩; obtain ⟨bk, hbk⟩ : ∃ x, d.args.length = x := ⟨_, rfl⟩; obtain ⟨bp, hbp⟩ : ∃ x, pl' j = x := ⟨_, rfl⟩; obtain ⟨bc, hbc⟩ : ∃ x, cl' j = x := ⟨_, rfl⟩; rw [hao] at ca0 HCA; rw [han] at ca1 HCA; rw [ham] at ca2 HCA; rw [hka, hap, hac] at ca3 HCA; rw [hbo] at cb0 HCA; rw [hbn] at cb1 HCA; rw [hbm] at cb2 HCA; rw [hbk, hbp, hbc] at cb3 HCA; have EC := reB (v := .bool v) HCA; have m1 := cell_regrown e3; have m2 := cell_regrown g3; have m3 := cell_regrown ca0; have m4 := cell_regrown ca1; have m5 := cell_regrown ca2; have m6 := cell_regrown ca3; have m7 := cell_regrown cb0; have m8 := cell_regrown cb1; have m9 := cell_regrown cb2; have m10 := cell_regrown cb3; clear hcell q0 q1 q2 q3 hcell' r0 r1 r2 r3 hbw hak hdk hao han ham hka hap hac hbo hbn hbm hbk hbp hbc hxa hxb hv HCA; go_wp2; refine wp_region_quiet_below (by kernel_rfl) (by kernel_rfl) ?_; repeat (first | go_big_quiet_step (exact EC _ _) | quiet_step (exact EC _ _))
          refine wpQuiet_nil ?_; intro w4 hw'; obtain ⟨pq, hw''⟩ := hw'; have HX : Hid (Below wr.heap.size wr w4) := Lib.hid (by rw [hw'']; exact below_regrown _ _ _); clear hw'' m1 m2 m3 m4 m5 m6 m7 m8 m9 m10 EC e3 g3 ca0 ca1 ca2 ca3 cb0 cb1 cb2 cb3; cases v
          · go_wp2; go_ret; exact tBool_mk (by rw [HL.out]; exact (eqL_no HAK.out HDK.out HV.out).symm) (BW.out.then_ HX.out)
          · go_wp2; go_roundw
            case rel => exact ⟨j + 1, by omega, by go_num, Lib.hid (fun i x y hi hx hy => by
              rcases Nat.lt_or_ge i j with h | h
              · exact AL.out i x y h hx hy
              · obtain rfl : i = j := (by omega); rw [HAK.out] at hx; rw [HDK.out] at hy; cases hx; cases hy; exact HV.out), Lib.hid (BW.out.then_ HX.out), Lib.hid (FA.out.stay HX.out), Lib.hid (FB.out.stay HX.out)⟩
            case measure => simp [intOf]; omega
        · have AL2 := Lib.hid (eqL_yes (a := ks) (b := ks') (by rw [HK.out, HK'.out]) (fun i x y hi => AL.out i x y (by rw [HK.out] at hi; omega))); go_wp2; go_ret; exact tBool_mk (by rw [HL.out]; exact AL2.out.symm) BW.out
    · have HL : Hid (false = eqB (.mk o n s ks) (.mk o' n' s' ks')) := Lib.hid (by
        rw [EE.out]; cases h1 : (o == o')
        · rfl
        · cases h2 : (n == n')
          · rfl
          · cases h3 : (s.toList == s'.toList)
            · rfl
            · rw [eqL_len (by rw [HK.out, HK'.out]; intro h4; exact hall ⟨h1, h2, h3, h4⟩)]; rfl)
      have h5 : (o == o') = false ∨ ((o == o') = true ∧ (n == n') = false) ∨ ((o == o') = true ∧ (n == n') = true ∧ (s.toList == s'.toList) = false) ∨ ((o == o') = true ∧ (n == n') = true ∧ (s.toList == s'.toList) = true ∧ ((K : Int) == (K' : Int)) = false) := by
        cases h1 : (o == o')
        · exact .inl rfl
        · cases h2 : (n == n')
          · exact .inr (.inl ⟨rfl, rfl⟩)
          · cases h3 : (s.toList == s'.toList)
            · exact .inr (.inr (.inl ⟨rfl, rfl, rfl⟩))
            · exact .inr (.inr (.inr ⟨rfl, rfl, rfl, by rw [beq_eq_false_iff_ne]; intro h4; exact hall ⟨h1, h2, h3, by omega⟩⟩))
      clear hall EE; rcases h5 with h1 | ⟨h1, h2⟩ | ⟨h1, h2, h3⟩ | ⟨h1, h2, h3, h4⟩
      all_goals
        have i1 := ne_of_beq h1; try have i2 := ne_of_beq h2
        try have i4 := ne_of_beq h4
        go_enter Tryz.func28, Tryz.ntmps28
        go_wp2; go_ret; exact tBool_mk HL.out HB1.out
end Go.Proofs.YtpejflgdehioaaaGreatDoor.ExW
namespace Go.Proofs.YtpejflgdehioaaaGreatDoor.ExW
open Go Go.RowKit Go.Shelf Go.Proofs.YtpejflgdehioaaaGreatDoor.LexW Go.Proofs.YtpejflgdehioaaaGreatDoor.LexM Go.Proofs.YtpejflgdehioaaaGreatDoor.ExM
attribute [local go_sem] Oper.semAt_some
theorem roomNone {F : Fence} (hd : F.depth = none) (k : Nat) : F.room k := fun d h => by rw [hd] at h; cases h
theorem roundFree {F : Fence} (hd : F.depth = none) {m m' : Nat} {P : Program} {l : Nat} {f : FuncId} {tmps : Array Value} {assign body : Code} {w : World} {R : Ending → World → Prop}
    (h : RoundIn F m P l f tmps assign body w R) : RoundIn F m' P l f tmps assign body w R := ⟨h.1, fun c cs _ => h.2 c cs (roomNone hd _)⟩
theorem yieldFree {F : Fence} (hd : F.depth = none) {m : Nat} (m' : Nat) {P : Program} {l : Nat} {args : Array Value} {W : World} {R : Ending → World → Prop} (h : YieldAt F m P l args W R) : YieldAt F m' P l args W R := by
  obtain ⟨fn, tmps, assign, body, hy, hR⟩ := h; exact ⟨fn, tmps, assign, body, hy, roundFree hd hR⟩
def Came (J Jx : List Nd → World → Prop) (n₀ n₁ : Nat) (L : List In) (bef : List Nd) (W : World) (e : Ending) (W' : World) : Prop :=
  (e = .returned (.bool true) ∧ (∃ ys : List Nd, ys.map Nd.info = L ∧ J (bef ++ ys) W') ∧ Keep n₀ n₁ W W') ∨
  (e = .returned (.bool false) ∧ ∃ q : List Nd, q.map Nd.info <+: L ∧ Jx (bef ++ q) W')
set_option maxRecDepth 100000 in
set_option maxHeartbeats 4000000 in
theorem walk_nodes_in (F : Fence) (hd : F.depth = none) (h60 : F.fn 141) (hro : F.round = none) (l n₀ n₁ NN yb wb : Nat) (J Jx : List Nd → World → Prop) (hn : n₀ ≤ n₁)
    (hJ : ∀ s A B, J s A → A.grownBy B none → J s B) (hyb : n₁ ≤ yb) (hwb : n₁ ≤ wb)
    (hY : ∀ m bef (x : Nd) W, J bef W → bef.length < NN → YieldAt F m Tryz.prog l x.enc W fun e W' =>
      (e = .returned (.bool true) ∧ J (bef ++ [x]) W' ∧ Keep n₀ n₁ W W') ∨ (e = .returned (.bool false) ∧ Jx (bef ++ [x]) W')) (e : Ex) :
    ∀ (n lv : Nat) (v : Value) (bef : List Nd) (W : World), ExAt n₀ W v e → J bef W → n₁ ≤ W.heap.size → bef.length + sz e ≤ NN → lv + sz e ≤ 100000 →
      Boxed W yb 168 (.func (.yield l) #[] #[]) → Boxed W wb 168 (.func (.func 141) #[] #[.pointer (some ⟨yb, 0, none⟩), .pointer (some ⟨wb, 0, none⟩)]) →
      CallsIn F n Tryz.prog 141 #[.int .i64 lv, v, .pointer (some ⟨yb, 0, none⟩), .pointer (some ⟨wb, 0, none⟩)] W (Came J Jx n₀ n₁ (pre lv e) bef W) := by
  have hdd : ∀ k : Nat, (F.depth.isSome = true → 1 ≤ k) := (fun k h => by rw [hd] at h; cases h); induction e using Ex.ind with
  | h o num s ks ih =>
    intro n lv v bef W hx hJ0 hsz hNN hlv cy cw; obtain ⟨p, cap, pl, cl, rfl, hs, ha⟩ := hx.form; simp only [Ex.op, Ex.n, Ex.nm, Ex.args] at hs ha ⊢; have hks : ks.length ≤ 140737488351232 := ha.hl; rw [sz_mk] at hNN hlv; rw [pre_mk]; obtain ⟨K, hK⟩ : ∃ K, ks.length = K := ⟨_, rfl⟩; have HK := Lib.hid hK; rw [hK] at hks ⊢; clear hK; obtain ⟨x, hxd⟩ : ∃ x : Nd, x = ⟨lv, o, num, s, p, K, cap, by omega, hs, hks⟩ := ⟨_, rfl⟩; have hxe : x.enc = #[.int .i64 lv, xv o num s (.slice p K cap)] := (by rw [hxd]); have hxi : x.info = ⟨lv, o, num, s, K⟩ := (by rw [hxd]; rfl); have four := Four.new W (.int .i64 o) (.int .i64 num) (.string s) (.slice p K cap) 43; have hb1 : Below W.heap.size W (W.alloc (.cells #[.int .i64 o, .int .i64 num, .string s, .slice p K cap] 43)) := (Below.refl _ _).alloc (Nat.le_refl _) _; have hy1 := hY (n - 1) bef x _ (hJ _ _ _ hJ0 (grown_of_below hb1)) (by omega); rw [hxe] at hy1; obtain ⟨fn, tmps, assign, body, hy, hR⟩ := hy1; have by1 := cy.alloc (.cells #[.int .i64 o, .int .i64 num, .string s, .slice p K cap] 43); have bw1 := cw.alloc (.cells #[.int .i64 o, .int .i64 num, .string s, .slice p K cap] 43); have be1 : (W.alloc (.cells #[.int .i64 o, .int .i64 num, .string s, .slice p K cap] 43)).heap[W.heap.size]? = some (.cells #[.int .i64 o, .int .i64 num, .string s, .slice p K cap] 43) := heap_alloc_new _ _; have HBE := Lib.hid be1; have HBY := Lib.hid by1; have HBW := Lib.hid bw1; have cy1 := by1.cell; have cw1 := bw1.cell; have HY := Lib.hid hY; have HIH := Lib.hid ih; have HXI := Lib.hid hxi; have HJ := Lib.hid hJ; have HA := Lib.hid ha; clear hY ih hxi hJ ha hxd hxe hJ0 be1 by1 bw1; have four0 := four.c0; have four1 := four.c1; have four2 := four.c2; have four3 := four.c3; refine callsIn_of_wp Tryz.func141 rfl h60 ?_ hro; simp only [Tryz.ntmps141, List.size_toArray, List.length_cons, List.length_nil, Nat.reduceAdd, Nat.reduceSub, Array.replicate_succ, Array.replicate_zero, List.push_toArray, List.append_toArray, List.nil_append, List.cons_append]
    gi_wp2
    refine hR.mono ?_; rintro e W2 (⟨rfl, hJ2, hk2⟩ | ⟨rfl, hJx2⟩)
    · have c3 : W2.cell? ⟨W.heap.size, 3, none⟩ = some (.slice p K cap) := by
        have := hk2.blk _ _ _ _ HBE.out (.inr ⟨hsz, .inl rfl⟩); simp [World.cell?, this]
      have HCY := Lib.hid cy; have HCW := Lib.hid cw; have HKW : Hid (Keep n₀ n₁ W W2) := Lib.hid ((Keep.of_below hb1).trans hk2); have HJ2 := Lib.hid hJ2; clear four four0 four1 four2 four3 cw1 cy1 cw cy hJ2 hk2 hb1
      gi_wp2
      gi_loopw [17] (fun i wr => ∃ (k : Nat) (ys : List Nd), k ≤ K ∧ i = .int .i64 k ∧ Hid (ys.map Nd.info = pres (lv + 1) (ks.take k)) ∧ Hid (J (bef ++ [x] ++ ys) wr) ∧ Hid (Keep n₀ n₁ W wr)) (fun i _ => K - (intOf i).toNat)
      case atStart => exact ⟨0, [], Nat.zero_le _, rfl, Lib.hid (by rw [List.take_zero, pres_nil]; rfl), Lib.hid (by rw [List.append_nil]; exact HJ2.out), HKW⟩
      case round =>
        obtain ⟨k, ys, hk, rfl, YS, JW, KW⟩ := hrel; clear c3; by_cases hlt : k < K
        · obtain ⟨b, off, rfl, hbs, hcell⟩ := HA.out.hp (by rw [HK.out]; omega); obtain ⟨a, hak⟩ : ∃ a, ks[k]? = some a := ⟨_, List.getElem?_eq_getElem (by rw [HK.out]; exact hlt)⟩; obtain ⟨q0, q1, q2, q3⟩ := hcell k a hak; have ca0 := KW.out.tree hbs q0; have ca1 := KW.out.tree hbs q1; have ca2 := KW.out.tree hbs q2; have ca3 := KW.out.tree hbs q3; have b1 : Boxed wr yb 168 (.func (.yield l) #[] #[]) := KW.out.blk _ _ _ _ HCY.out (.inr ⟨hyb, .inr rfl⟩); have b2 : Boxed wr wb 168 (.func (.func 141) #[] #[.pointer (some ⟨yb, 0, none⟩), .pointer (some ⟨wb, 0, none⟩)]) := KW.out.blk _ _ _ _ HCW.out (.inr ⟨hwb, .inr rfl⟩); have c1 := b1.cell; have c2 := b2.cell; have hwl := cell_lt c2; have hyl' := cell_lt c1; have HB1 := Lib.hid hbs; have hblt := cell_lt ca0; obtain ⟨pa, hpa⟩ : ∃ pa, pl k = pa := ⟨_, rfl⟩; obtain ⟨ka, hka⟩ : ∃ ka, a.args.length = ka := ⟨_, rfl⟩; obtain ⟨ca, hca⟩ : ∃ ca, cl k = ca := ⟨_, rfl⟩; have hxa := (HA.out.hx k a hak).keep KW.out; rw [hpa, hka, hca] at ca3 hxa; have HC : Hid (∀ Wx, Below wr.heap.size wr Wx → CallsIn F (n - 1) Tryz.prog 141 #[.int .i64 ((lv : Int) + 1), xv a.op a.n a.nm (.slice pa ka ca), .pointer (some ⟨yb, 0, none⟩), .pointer (some ⟨wb, 0, none⟩)] Wx (Came J Jx n₀ n₁ (pre (lv + 1) a) (bef ++ [x] ++ ys) Wx)) := Lib.hid fun Wx hbx => by
            have hsa := szs_take hak; have hsb := szs_take_le (k + 1) ks; have hyl : ys.length = szs (ks.take k) := by rw [← pres_len (l := lv + 1) (fun a _ => pre_len a _), ← YS.out, List.length_map]
            have q := HIH.out a (List.mem_of_getElem? hak) (n - 1) (lv + 1) _ _ Wx (hxa.under (hbx.mono (by omega))) (HJ.out _ _ _ JW.out (grown_of_below hbx)) (by have := hbx.size; have := KW.out.size; omega) (by simp; omega) (by omega)
              ((hbx.block yb hyl').trans b1) ((hbx.block wb hwl).trans b2)
            have e1 : ((lv + 1 : Nat) : Int) = (lv : Int) + 1 := (by omega); rw [e1] at q; exact q
          clear hcell q0 q1 q2 q3 hpa hka hca hxa b1 b2; have hb2 : Below wr.heap.size wr (wr.alloc (.cells #[.int .i64 a.op, .int .i64 a.n, .string a.nm, .slice pa ka ca] 43)) := (Below.refl _ _).alloc (Nat.le_refl _) _; have HB2 := Lib.hid hb2; have HTK := Lib.hid (pres_take (l := lv + 1) hak); have HPR : Hid (pres (lv + 1) (ks.take (k + 1)) <+: pres (lv + 1) ks) := Lib.hid (by
            have := pres_append (lv + 1) (ks.take (k + 1)) (ks.drop (k + 1)); rw [List.take_append_drop] at this; exact ⟨_, this.symm⟩)
          clear hb2 hak
          gi_wp2_with ((try refine ⟨hdd _, ?_⟩); gi_at_call 141; refine (HC.out _ HB2.out).mono ?_; clear HC; rintro e W5 (⟨rfl, hys, hk5⟩ | ⟨rfl, hq⟩))
          · have H5 := Lib.hid hys; have KW5 : Hid (Keep n₀ n₁ W W5) := Lib.hid ((KW.out.trans (Keep.of_below HB2.out)).trans hk5); clear hys hk5; go_roundw
            case rel =>
              obtain ⟨zs, hz, hj⟩ := H5.out; exact ⟨k + 1, ys ++ zs, by omega, by go_num, Lib.hid (by rw [HTK.out, List.map_append, YS.out, hz]), Lib.hid (by rw [← List.append_assoc]; exact hj), KW5⟩
            case measure => simp [intOf]; omega
          · have H5 := Lib.hid hq; clear hq; go_ret; obtain ⟨q, hq1, hq2⟩ := H5.out; refine .inr ⟨rfl, x :: (ys ++ q), ?_, by simpa [List.append_assoc] using hq2⟩; rw [List.map_cons, HXI.out, List.map_append, YS.out]; refine (List.prefix_cons_inj _ |>.2 (List.IsPrefix.trans ?_ HPR.out)); rw [HTK.out]; exact (List.prefix_append_right_inj _).2 hq1
        · have hkK : k = K := (by omega); have YS2 : Hid (ys.map Nd.info = pres (lv + 1) ks) := Lib.hid (by rw [YS.out, hkK, ← HK.out, List.take_length]); clear hkK
          gi_wp2
          go_ret; exact .inl ⟨rfl, ⟨x :: ys, by rw [List.map_cons, HXI.out, YS2.out], by simpa [List.append_assoc] using JW.out⟩, KW.out⟩
    · gi_wp2
      go_ret; exact .inr ⟨rfl, [x], by rw [List.map_cons, HXI.out]; exact ⟨_, rfl⟩, hJx2⟩
set_option maxRecDepth 100000 in
set_option maxHeartbeats 4000000 in
theorem iter_in (F : Fence) (hd : F.depth = none) (n : Nat) (h59 : F.fn 140) (h60 : F.fn 141) (hro : F.round = none) (l n₀ n₁ eb : Nat) (hn : n₀ ≤ n₁) (e : Ex) (hsz : sz e ≤ 10000)
    (o num : Int) (s : ByteArray) (a3 : Value) (J Jx : List Nd → World → Prop) (hJ : ∀ s A B, J s A → A.grownBy B none → J s B)
    (hY : ∀ bef (x : Nd) W, J bef W → bef.length < sz e → YieldAt F (n - 1) Tryz.prog l x.enc W fun e W' =>
      (e = .returned (.bool true) ∧ J (bef ++ [x]) W' ∧ Keep n₀ n₁ W W') ∨ (e = .returned (.bool false) ∧ Jx (bef ++ [x]) W'))
    (W : World) (h1 : n₁ ≤ W.heap.size) (hb : Four W eb (.int .i64 o) (.int .i64 num) (.string s) a3) (hx : ExAt n₀ W (xv o num s a3) e) (h0 : J [] W) :
    CallsIn F n Tryz.prog 140 #[.func (.yield l) #[] #[], .pointer (some ⟨eb, 0, none⟩)] W fun x W' => (∃ v, x = .returned v) ∧
      ((∃ ys : List Nd, ys.map Nd.info = pre 1 e ∧ J ys W') ∨ (∃ q : List Nd, q.map Nd.info <+: pre 1 e ∧ Jx q W')) := by
  have hdd : ∀ k : Nat, (F.depth.isSome = true → 1 ≤ k) := (fun k h => by rw [hd] at h; cases h); have HW : Hid (∀ W2, Below W.heap.size W W2 → Boxed W2 W.heap.size 168 (.func (.yield l) #[] #[]) → Boxed W2 (W.heap.size + 1) 168 (.func (.func 141) #[] #[.pointer (some ⟨W.heap.size, 0, none⟩), .pointer (some ⟨W.heap.size + 1, 0, none⟩)]) →
      CallsIn F (n - 1) Tryz.prog 141 #[.int .i64 1, xv o num s a3, .pointer (some ⟨W.heap.size, 0, none⟩), .pointer (some ⟨W.heap.size + 1, 0, none⟩)] W2 (Came J Jx n₀ n₁ (pre 1 e) [] W2)) := Lib.hid fun W2 hb2 c1 c2 =>
    walk_nodes_in F hd h60 hro l n₀ n₁ (sz e) W.heap.size (W.heap.size + 1) J Jx hn hJ (by omega) (by omega) (fun m bef x W hj hl => yieldFree hd m (hY bef x W hj hl)) e (n - 1) 1 _ [] W2 (hx.under (hb2.mono (by omega))) (hJ _ _ _ h0 (grown_of_below hb2)) (by have := hb2.size; omega) (by simp) (by omega) c1 c2
  have a0 := hb.alloc (.cells #[.func (.yield l) #[] #[]] 168); have a1 := a0.alloc (.cells #[.func (.func 141) #[] #[.pointer (some ⟨W.heap.size, 0, none⟩), .pointer (some ⟨W.heap.size + 1, 0, none⟩)]] 168); have d0 := a1.c0; have d1 := a1.c1; have d2 := a1.c2; have d3 := a1.c3; clear a0 a1 hb hY hJ hx h0; refine callsIn_of_wp Tryz.func140 rfl h59 ?_ hro; simp only [Tryz.ntmps140, List.size_toArray, List.length_cons, List.length_nil, Nat.reduceAdd, Nat.reduceSub, Array.replicate_succ, Array.replicate_zero, List.push_toArray, List.append_toArray, List.nil_append, List.cons_append]; have BX1 := Lib.hid ((Boxed.new W 168 (.func (.yield l) #[] #[])).alloc (.cells #[.func (.func 141) #[] #[.pointer (some ⟨W.heap.size, 0, none⟩), .pointer (some ⟨W.heap.size + 1, 0, none⟩)]] 168)); have bx2 := Boxed.new (W.alloc (.cells #[.func (.yield l) #[] #[]] 168)) 168 (.func (.func 141) #[] #[.pointer (some ⟨W.heap.size, 0, none⟩), .pointer (some ⟨W.heap.size + 1, 0, none⟩)]); rw [World.size_alloc] at bx2; have BX2 := Lib.hid bx2; clear bx2; have HB1 : Hid (Below W.heap.size W ((W.alloc (.cells #[.func (.yield l) #[] #[]] 168)).alloc (.cells #[.func (.func 141) #[] #[.pointer (some ⟨W.heap.size, 0, none⟩), .pointer (some ⟨W.heap.size + 1, 0, none⟩)]] 168))) := Lib.hid (((Below.refl _ _).alloc (Nat.le_refl _) _).alloc (by simp) _)
  gi_wp2_with ((try refine ⟨hdd _, ?_⟩); gi_at_call 141; refine (HW.out _ HB1.out BX1.out BX2.out).mono ?_; clear HW; rintro e W5 (⟨rfl, hys, _⟩ | ⟨rfl, hq⟩))
  · have H5 := Lib.hid hys; clear hys
    go_end0
    obtain ⟨ys, h1, h2⟩ := H5.out; exact ⟨⟨_, rfl⟩, .inl ⟨ys, h1, by simpa using h2⟩⟩
  · have H5 := Lib.hid hq; clear hq
    go_end0
    obtain ⟨q, h1, h2⟩ := H5.out; exact ⟨⟨_, rfl⟩, .inr ⟨q, h1, by simpa using h2⟩⟩
set_option maxRecDepth 100000 in
set_option maxHeartbeats 1000000 in
theorem nodes_in (F : Fence) (n : Nat) (h40 : F.fn 94) (hro : F.round = none) (o num : Int) (s : ByteArray) (a3 : Value) (w : World) :
    CallsIn F n Tryz.prog 94 #[xv o num s a3] w fun e w' => e = .returned (.func (.func 140) #[] #[.pointer (some ⟨w.heap.size, 0, none⟩)]) ∧ w' = w.alloc (.cells #[.int .i64 o, .int .i64 num, .string s, a3] 43) := by
  refine callsIn_of_wp Tryz.func94 rfl h40 ?_ hro; simp only [Tryz.ntmps94, List.size_toArray, List.length_cons, List.length_nil, Nat.reduceAdd, Nat.reduceSub, Array.replicate_succ, Array.replicate_zero, List.push_toArray, List.append_toArray, List.nil_append, List.cons_append]
  gi_wp2
  go_ret; exact ⟨rfl, rfl⟩
theorem nodes_stops (F : Fence) (hd : F.depth = none) (n : Nat) (h59 : F.fn 140) (h60 : F.fn 141) (hro : F.round = none) (n₀ n₁ eb : Nat) (hn : n₀ ≤ n₁) (e : Ex) (hsz : sz e ≤ 10000)
    (o num : Int) (s : ByteArray) (a3 : Value) (w : World) (h1 : n₁ ≤ w.heap.size) (hb : Four w eb (.int .i64 o) (.int .i64 num) (.string s) a3) (hx : ExAt n₀ w (xv o num s a3) e) :
    SeqStopsK F n Tryz.prog 140 #[.pointer (some ⟨eb, 0, none⟩)] (fun x : Nd => #[Value.int .i64 x.lv, xv x.op x.n x.nm (.slice x.p x.k x.cap)]) (Keep n₀ n₁) (fun ys => ys.map Nd.info = pre 1 e) (fun q => q.map Nd.info <+: pre 1 e) (sz e) w := fun l J Jx W hW hJ _ hY h0 =>
  iter_in F hd n h59 h60 hro l n₀ n₁ eb hn e hsz o num s a3 J Jx (fun s A B hs hg => hJ s A B none hs hg (fun r e => by cases e)) hY W (Nat.le_trans h1 hW.size) (hb.stay hW) (hx.under (hW.mono (by omega))) h0
end Go.Proofs.YtpejflgdehioaaaGreatDoor.ExW
