/-
  Laws that the card uses; no conditions beside those that each states (ClMath ItKeepM ItLKeep).
-/
import Derived.Test.YtpejflgdehioaaaGreatDoorQ14
import Derived.Test.YtpejflgdehioaaaGreatDoorQ37
import Derived.Test.YtpejflgdehioaaaGreatDoorQ39
namespace Go.Proofs.YtpejflgdehioaaaGreatDoor.ClM
open Go Go.Proofs.YtpejflgdehioaaaGreatDoor.LexM
theorem same_rfl (a : ByteArray) : same a a = true := same_iff.2 rfl
end Go.Proofs.YtpejflgdehioaaaGreatDoor.ClM
namespace Go.Proofs.YtpejflgdehioaaaGreatDoor.ItM
open Go Go.Proofs.YtpejflgdehioaaaGreatDoor.WordM Go.Proofs.YtpejflgdehioaaaGreatDoor.LexM Go.Proofs.YtpejflgdehioaaaGreatDoor.ExM
open Go.Proofs.YtpejflgdehioaaaGreatDoor.ClM (Fld)
theorem kfind_none {env : Env} {s : ByteArray} (h : s ∉ env.map Prod.fst) : findS env s = none := by
  induction env with
  | nil => rfl
  | cons x r ih =>
    obtain ⟨a, v⟩ := x; simp only [List.map_cons, List.mem_cons, not_or] at h; unfold findS; rw [if_neg (fun e => h.1 (ItW.same_eq (ClM.same_iff.2 (ClM.same_iff.1 (by unfold ClM.same; rw [e]; simp)))).symm)]; exact ih h.2
theorem kfnd_none {env : Env} {s : ByteArray} (h : s ∉ env.map Prod.fst) : fnd env s = 0 := by unfold fnd; rw [kfind_none h]; rfl
theorem elmN_inj {a b : ByteArray} {j k : Nat} (hj : j ≤ 7) (hk : k ≤ 7) (h : elmN a j = elmN b k) : a = b ∧ j = k := by
  have e := congrArg (fun x : ByteArray => x.data.toList) h; simp only [elmN_list] at e; have hl : a.data.toList.length = b.data.toList.length := (by have := congrArg List.length e; simpa using this); obtain ⟨e1, e2⟩ := List.append_inj e hl; refine ⟨bs_ext e1, ?_⟩; simp only [List.cons.injEq, and_true, true_and] at e2; have := congrArg UInt8.toNat e2; rw [UInt8.toNat_ofNat', UInt8.toNat_ofNat'] at this; omega
theorem isE_elm {a : ByteArray} {k : Nat} (ha : nmB a.data.toList = true) (hk : k ≤ 7) : isE (elmN a k) = true := by
  unfold isE; rw [ExW.elm_iff]; refine ⟨a.data.toList, UInt8.ofNat (48 + k), elmN_list a k, ?_, ha⟩; rw [UInt8.toNat_ofNat']; omega
theorem szO_of {fs : List Fld} (hD : Dst fs fs.length) {f : Fld} (hf : f ∈ fs) : szO fs f.nm = some f.sz := by
  unfold szO; cases h : fs.find? (fun g => ClM.same g.nm f.nm) with
  | none =>
    have := List.find?_eq_none.1 h f hf; exact absurd (ClM.same_rfl f.nm) this
  | some g =>
    have hg := List.mem_of_find?_eq_some h; have hs : g.nm = f.nm := ClM.same_iff.1 (by simpa using List.find?_some h); obtain ⟨i, hi⟩ := List.getElem?_of_mem hf; obtain ⟨k, hk⟩ := List.getElem?_of_mem hg; have hil := (List.getElem?_eq_some_iff.1 hi).1; have hkl := (List.getElem?_eq_some_iff.1 hk).1; have : i = k := by
      rcases Nat.lt_trichotomy i k with h1 | h1 | h1
      · exact absurd (by rw [hs]) (hD k i g f hkl h1 hk hi)
      · exact h1
      · exact absurd (by rw [hs]) (hD i k f g hil h1 hi hk)
    subst this; rw [hi] at hk; cases hk; rfl
section
variable {fs : List Fld} (hS : ∀ f ∈ fs, 0 ≤ f.sz ∧ f.sz ≤ 8) (hN : ∀ f ∈ fs, nmB f.nm.data.toList = true) (hD : Dst fs fs.length)
include hS hN hD
theorem not_elm {a : ByteArray} {k : Nat} (ha : nmB a.data.toList = true) (hk : k ≤ 7) (hz : szI fs a ≤ k) : elmN a k ∉ varsN fs := by
  intro h; obtain ⟨f, hf, hm⟩ := List.mem_flatMap.1 h; unfold fldN at hm; split at hm
  · obtain ⟨j, hj, he⟩ := List.mem_map.1 hm; have hj' := List.mem_range.1 hj; have h8 := hS f hf; obtain ⟨e1, e2⟩ := elmN_inj (by omega) hk he; have hz2 := szO_of hD hf; rw [e1] at hz2; unfold szI at hz; rw [hz2] at hz; simp only [Option.getD_some] at hz; omega
  · simp only [List.mem_singleton] at hm; have := ItW.isE_name (hN f hf); rw [← hm, isE_elm ha hk] at this; cases this
end
theorem ev_elV (env : Env) (a : ByteArray) (k : Nat) : ev env (elV a k) = fnd env (elmN a k) := by unfold elV; rw [ev_mk]; rfl
theorem ev_sumE (env : Env) (a : ByteArray) : ∀ m, m ≤ 7 → ev env (sumE a m) = sumK env a (m + 1)
  | 0, _ => by
    have h := fnd_range env (elmN a 0); show ev env (elV a 0) = (0 + elS env a 0) % 65536; rw [ev_elV]; have : elS env a 0 = fnd env (elmN a 0) := (by unfold elS; rw [if_pos (by decide)]; rfl); rw [this]; omega
  | m + 1, hm => by
    show ev env (.mk 7 0 ⟨#[]⟩ [sumE a m, elV a (m + 1)]) = (sumK env a (m + 1) + elS env a ((m + 1 : Nat) : Int)) % 65536; rw [ev_mk, evs_cons, evs_cons, evs_nil, ev_sumE env a m (by omega), ev_elV]; have : elS env a ((m + 1 : Nat) : Int) = fnd env (elmN a (m + 1)) := (by unfold elS; rw [if_pos (by omega)]; rfl); rw [this]; rfl
theorem sumK_end (env : Env) (a : ByteArray) (n : Nat) (h : ∀ k : Nat, n ≤ k → elS env a k = 0) : ∀ j, sumK env a (n + j) = sumK env a n
  | 0 => rfl
  | j + 1 => by
    show (sumK env a (n + j) + elS env a ((n + j : Nat) : Int)) % 65536 = _; rw [sumK_end env a n h j, h _ (by omega)]; have := sumK_range env a n; omega
theorem ev_choE (env : Env) (a : ByteArray) (i : Ex) : ∀ m k : Nat, ev env (choE a i k m) = if (k : Int) ≤ ev env i ∧ ev env i < k + m then fnd env (elmN a (ev env i).toNat) else 0
  | 0, k => by
    show ev env (cst 0) = _; rw [ev_cst, if_neg (by omega)]
  | m + 1, k => by
    show ev env (.mk 22 0 ⟨#[]⟩ [.mk 15 0 ⟨#[]⟩ [i, cst k], elV a k, choE a i (k + 1) m]) = _; rw [ev_mk, evs_cons, evs_cons, evs_cons, evs_nil, ev_mk, evs_cons, evs_cons, evs_nil, ev_cst, ev_elV, ev_choE env a i m (k + 1)]; generalize ev env i = v; have e15 : valS env 15 0 ⟨#[]⟩ [v, (k : Int)] = tr (decide (v = (k : Int))) := rfl; rw [e15]; have e22 : ∀ x y z : Int, valS env 22 0 ⟨#[]⟩ [x, y, z] = if x = 0 then z else y := fun _ _ _ => rfl
    rw [e22]; by_cases hv : v = (k : Int)
    · subst hv; simp only [tr, decide_true, if_true]; rw [if_neg (by decide), if_pos (by omega)]; rw [Int.toNat_natCast]
    · rw [decide_eq_false hv]; simp only [tr, Bool.false_eq_true, if_false, if_true]; by_cases h2 : ((k + 1 : Nat) : Int) ≤ v ∧ v < ((k + 1 : Nat) : Int) + (m : Int)
      · rw [if_pos h2, if_pos (by omega)]
      · rw [if_neg h2, if_neg (by omega)]
theorem kn_elV (env : Env) (a : ByteArray) (k : Nat) : kn env (elV a k) = hasN env (elmN a k) := by unfold elV; rw [kn_leaf]; rfl
theorem kn_sumE {env : Env} {a : ByteArray} : ∀ m, (∀ k, k ≤ m → hasN env (elmN a k) = true) → kn env (sumE a m) = true
  | 0, h => by show kn env (elV a 0) = true; rw [kn_elV]; exact h 0 (Nat.le_refl _)
  | m + 1, h => by
    show kn env (.mk 7 0 ⟨#[]⟩ [sumE a m, elV a (m + 1)]) = true; rw [kn_mk, kns_all]; simp only [List.all_cons, List.all_nil, Bool.and_true]; rw [kn_sumE m (fun k hk => h k (by omega)), kn_elV, h (m + 1) (Nat.le_refl _)]; rfl
theorem kn_choE {env : Env} {a : ByteArray} {i : Ex} (hi : kn env i = true) : ∀ m k, (∀ j, j < k + m → hasN env (elmN a j) = true) → kn env (choE a i k m) = true
  | 0, k, _ => kn_cst env 0
  | m + 1, k, h => by
    show kn env (.mk 22 0 ⟨#[]⟩ [.mk 15 0 ⟨#[]⟩ [i, cst k], elV a k, choE a i (k + 1) m]) = true; rw [kn_mk, kns_all]; simp only [List.all_cons, List.all_nil, Bool.and_true]; rw [kn_mk, kns_all]; simp only [List.all_cons, List.all_nil, Bool.and_true]; rw [hi, kn_cst, kn_elV, h k (by omega), kn_choE hi m (k + 1) (fun j hj => h j (by omega))]; rfl
theorem ge_of2 {fs : List Fld} {e : Ex} (h1 : vld e = 0) (h2 : exE fs [] e = 0) : GE fs e := by
  have h3 := (ok_at e 1).1 ((vld_zero e).1 h1).1; have h4 := ClM.firstE_zero.1 h2; exact ⟨1, fun y hy => ⟨h3 y hy, h4 _ (List.mem_map_of_mem hy)⟩⟩
section
variable {fs : List Fld} (hS : ∀ f ∈ fs, 0 ≤ f.sz ∧ f.sz ≤ 8) (hN : ∀ f ∈ fs, nmB f.nm.data.toList = true) (hD : Dst fs fs.length)
include hS hN hD
theorem keep_ev {vs : List Int} (e : Ex) : GE fs e → kn (envS (varsN fs) vs) e = true ∧ kn (envS (varsN fs) vs) (scM fs e) = true ∧ ev (envS (varsN fs) vs) (scM fs e) = ev (envS (varsN fs) vs) e := by
  obtain ⟨env, he⟩ : ∃ env, envS (varsN fs) vs = env := ⟨_, rfl⟩; have hf : env.map Prod.fst = varsN fs := (by rw [← he]; exact envS_fst _ _); rw [he]; have hin : ∀ (a : ByteArray) (k : Nat), (k : Int) < szI fs a → hasN env (elmN a k) = true := (fun a k hk => khas_mem (by rw [hf]; exact in_elm hk)); have hout : ∀ (a : ByteArray) (k : Nat), nmB a.data.toList = true → szI fs a ≤ k → elS env a (k : Int) = 0 := fun a k ha hk => by
    unfold elS; split
    · rename_i h7; rw [Int.toNat_natCast]; exact kfnd_none (by rw [hf]; exact not_elm hS hN hD ha (by omega) hk)
    · rfl
  induction e using Ex.ind with
  | h o n s ks ih =>
    intro hg; have hk := (fun a ha => ih a ha (hg.kid ha)); have h8 := szI_le fs hS s; by_cases ha : isAr o = true
    · have hz := (hg.arr ha).2; have hnm := (flt_facts hg.top.1).2.2 ha; by_cases h24 : o = 24
      · subst h24; rw [scM_mk, if_pos rfl]; obtain ⟨m, hm⟩ : ∃ m, (szI fs s).toNat = m + 1 := ⟨(szI fs s).toNat - 1, by omega⟩; have hkn : kns env ks = true := (by rw [kns_all]; exact List.all_eq_true.2 fun a ha => (hk a ha).1); refine ⟨?_, ?_, ?_⟩
        · rw [kn_mk, hkn]; show (true && hasN env (elmN s 0)) = true; rw [hin s 0 (by omega)]; rfl
        · rw [hm]; exact kn_sumE _ fun k hk => hin s k (by omega)
        · rw [hm, show m + 1 - 1 = m by omega, ev_sumE env s m (by omega), ev_mk]; show _ = sumK env s 8; have := sumK_end env s (m + 1) (fun k hk => hout s k hnm (by omega)) (8 - (m + 1)); rw [show m + 1 + (8 - (m + 1)) = 8 by omega] at this; exact this.symm
      · have h3 : o = 3 := by
          unfold isAr at ha; simp only [Bool.or_eq_true, decide_eq_true_eq] at ha; omega
        subst h3; obtain ⟨a, rfl⟩ := one_of (takes3 (flt_facts hg.top.1).1); obtain ⟨k1, k2, k3⟩ := hk a (by simp); have hrng := ev_range env a (hg.kid (a := a) (by simp)).ok; rw [scM_mk, if_neg (by decide), if_pos rfl]; have hhd : hdE ([a].map (scM fs)) = scM fs a := rfl; rw [hhd]; obtain ⟨i, hi⟩ : ∃ i, scM fs a = i := ⟨_, rfl⟩; rw [hi] at k2 k3 ⊢; have hev : ev env (.mk 3 n s [a]) = elS env s (ev env i) := by
          rw [ev_mk, evs_cons, evs_nil, k3]; rfl
        have hv0 : 0 ≤ ev env i := (by rw [k3]; exact hrng.1); refine ⟨?_, ?_, ?_⟩
        · rw [kn_mk, kns_all]; simp only [List.all_cons, List.all_nil, Bool.and_true]; rw [k1]; show (true && hasN env (elmN s 0)) = true; rw [hin s 0 (by omega)]; rfl
        · unfold elmE; split
          · split
            · rename_i h1 h2; have h1' : ev env i = i.n := by
                obtain ⟨o', n', s', ks'⟩ := i; have e1 : o' = 1 := h1; rw [ev_mk, e1]; rfl
              rw [kn_elV]; exact hin s _ (by omega)
            · exact kn_cst env 0
          · exact kn_choE k2 _ _ fun j hj => hin s j (by omega)
        · rw [hev]; unfold elmE; have hlow : ev env i < szI fs s → elS env s (ev env i) = fnd env (elmN s (ev env i).toNat) := fun h => by
            unfold elS; rw [if_pos (by omega)]
          have hhigh : ¬ ev env i < szI fs s → elS env s (ev env i) = 0 := fun h => by
            have := hout s (ev env i).toNat hnm (by omega)
            rwa [Int.toNat_of_nonneg hv0] at this
          split
          · rename_i h1; have h1' : ev env i = i.n := by
              obtain ⟨o', n', s', ks'⟩ := i; have e1 : o' = 1 := h1; rw [ev_mk, e1]; rfl
            split
            · rename_i h2; rw [ev_elV, hlow (by omega), h1']
            · rename_i h2; rw [ev_cst, hhigh (by omega)]
          · rw [ev_choE]; by_cases h2 : ev env i < szI fs s
            · rw [if_pos (by omega), hlow h2]
            · rw [if_neg (by omega), hhigh h2]
    · have h24 : o ≠ 24 := (fun h => ha (by rw [h]; rfl)); have h3 : o ≠ 3 := (fun h => ha (by rw [h]; rfl)); rw [scM_mk, if_neg h24, if_neg h3]; have hkw : knwS env o s = true := by
        unfold knwS; by_cases h2 : o = 2
        · rw [if_pos h2]; have hn2 := hg.top.2; subst h2; have hv : varE fs s = 0 := by
            have : nodE fs [] ⟨0, 2, n, s, ks.length⟩ = varE fs s := rfl; rw [← this]; exact hn2
          unfold varE at hv; split at hv
          · cases hv
          · split at hv
            · rename_i hh; unfold hasV at hh; rcases Bool.or_eq_true_iff.1 hh with h | h
              · exact khas_mem (by rw [hf]; exact in_plain h)
              · obtain ⟨hE, hK⟩ := (Bool.and_eq_true _ _).mp h; obtain ⟨k, hk7, hck, hs, _⟩ := isE_form hE; rw [hs]; have := of_decide_eq_true hK; exact hin _ k (by omega)
            · cases hv
        · rw [if_neg h2, if_neg (fun h => h.elim h3 h24)]
      refine ⟨?_, ?_, ?_⟩
      · rw [kn_mk, hkw, kns_all, List.all_eq_true.2 fun a ha => (hk a ha).1]; rfl
      · rw [kn_mk, hkw, kns_all, List.all_eq_true.2]
        · rfl
        · intro b hb; obtain ⟨a, ha, rfl⟩ := List.mem_map.1 hb; exact (hk a ha).2.1
      · rw [ev_mk, ev_mk, evs_map, evs_map, List.map_map]
        congr 1
        exact List.map_congr_left fun a ha => (hk a ha).2.2
theorem keep_eval {vs : List Int} {e : Ex} (h : (scaS fs e).2 = 0) : ∃ v, evalS (envS (varsN fs) vs) e = (v, 0) ∧ evalS (envS (varsN fs) vs) (scaS fs e).1 = (v, 0) := by
  unfold scaS at h ⊢; by_cases h1 : vld e = 0
  · rw [if_pos h1] at h ⊢; by_cases h2 : exE fs [] e = 0
    · rw [if_pos h2] at h ⊢; by_cases h3 : scB fs e = true
      · rw [if_pos h3]; obtain ⟨k1, k2, k3⟩ := keep_ev hS hN hD (vs := vs) e (ge_of2 h1 h2); refine ⟨ev (envS (varsN fs) vs) e, ?_, ?_⟩
        · unfold evalS; rw [if_pos h1, if_pos k1]
        · unfold evalS; rw [if_pos (scB_vld h3), if_pos k2, k3]
      · rw [if_neg h3] at h; cases h
    · rw [if_neg h2] at h; exact absurd h h2
  · rw [if_neg h1] at h; exact absurd h h1
end
end Go.Proofs.YtpejflgdehioaaaGreatDoor.ItM
namespace Go.Proofs.YtpejflgdehioaaaGreatDoor.ItW
open Go Go.RowKit Go.Shelf Go.Proofs.YtpejflgdehioaaaGreatDoor.NumM Go.Proofs.YtpejflgdehioaaaGreatDoor.LexW Go.Proofs.YtpejflgdehioaaaGreatDoor.LexM Go.Proofs.YtpejflgdehioaaaGreatDoor.ExM Go.Proofs.YtpejflgdehioaaaGreatDoor.ExW Go.Proofs.YtpejflgdehioaaaGreatDoor.ItM
open Go.Proofs.YtpejflgdehioaaaGreatDoor.ClM (Fld)
set_option maxRecDepth 100000 in
set_option maxHeartbeats 16000000 in
theorem itemKeeps_any (fs : List Fld) (x : Ex) (vs : List Int) (v cv vv : Value) (w : World) (hx : ExAt w.heap.size w v x) (hc : ClA w.heap.size w cv fs) (hv : IntsL w vv vs) (ht : TabI w) :
    Calls Tryz.prog 8 #[v, cv, vv] w fun e w' => e = .returned (.bool true) ∧ Below w.heap.size w w' := by
  have FC0 : Hid (∀ W, Below w.heap.size w W → Calls Tryz.prog 25 #[v, .int .i64 60] W fun e w' => e = .returned (.bool (decide (sz x ≤ 60))) ∧ Below W.heap.size W w') := (Lib.hid fun W hW => few_any x W.heap.size 60 W v (by decide) ((hx.under hW).wide hW.size) (Nat.le_refl _)); have SM0 : Hid (∀ W, Below w.heap.size w W → Calls Tryz.prog 19 #[cv] W (tSm2 fs W)) := (Lib.hid fun W hW => small2_any fs cv W.heap.size W ((hc.under hW).wide hW.size) (Nat.le_refl _)); have AW0 : Hid (∀ W, Below w.heap.size w W → Calls Tryz.prog 11 #[] W fun e w' => e = .returned (.bool true) ∧ Below W.heap.size W w') := (Lib.hid fun W hW => awake_any W (ht.later hW)); have SC0 : Hid (sz x ≤ 60 → ((fs.length ≤ 20 ∧ ∀ f ∈ fs, SmF f) ∧ Dst fs fs.length) → ∀ W, Below w.heap.size w W → Calls Tryz.prog 26 #[v, cv] W (tScR (scaS fs x) W)) := (Lib.hid fun h60 hsm W hW => (itemScalar_any fs (fun f hf => (hsm.1.2 f hf).1) (by have := hsm.1.1; omega) x v cv W ((hx.under hW).wide hW.size) ((hc.under hW).wide hW.size) h60 (ht.later hW)).mono fun e w' ⟨v, h1, h2, h3⟩ => ⟨v, h1, h2.at_, h3⟩); have EN0 : Hid (((fs.length ≤ 20 ∧ ∀ f ∈ fs, SmF f) ∧ Dst fs fs.length) → ∀ W, Below w.heap.size w W → Calls Tryz.prog 30 #[cv, vv] W fun e w' => ∃ sv, e = .returned sv ∧ SigsAt w' sv (envS (varsN fs) vs) ∧ Below W.heap.size W w') := (Lib.hid fun hsm W hW => env_any fs vs cv vv W.heap.size W ((hc.under hW).wide hW.size) (Nat.le_refl _) (hv.later hW) hsm.1.1 hsm.1.2); obtain ⟨EVS, hEVS⟩ : ∃ l, envS (varsN fs) vs = l := ⟨_, rfl⟩; have hrng : ∀ q ∈ EVS, -9223372036854775808 ≤ q.2 ∧ q.2 ≤ 9223372036854775807 := by
    rw [← hEVS]; obtain ⟨_, _, _, _, _, hr, _⟩ := hv; exact envS_range hr
  obtain ⟨C, hC⟩ : ∃ C, (scaS fs x).1 = C := ⟨_, rfl⟩; obtain ⟨E, hE⟩ : ∃ E, (scaS fs x).2 = E := ⟨_, rfl⟩; have hCE : scaS fs x = (C, E) := (by rw [← hC, ← hE]); have hCs : sz C ≤ 10000 := (by rw [← hC]; have := sca_sz (fs := fs) (x := x); omega); have EV0 : Hid (sz x ≤ 60 → ∀ W sv, Below w.heap.size w W → SigsAt W sv EVS → Calls Tryz.prog 33 #[v, sv] W (tEv (evalS EVS x) W)) := (Lib.hid fun h60 W sv hW hs => evalR_any EVS sv v x W ((hx.under hW).wide hW.size) hs hrng (by omega)); have EC0 : Hid (∀ W va sv, ExAt W.heap.size W va C → SigsAt W sv EVS → Calls Tryz.prog 33 #[va, sv] W (tEv (evalS EVS C) W)) := (Lib.hid fun W va sv ha hs => evalR_any EVS sv va C W ha hs hrng hCs); have KP : Hid (((fs.length ≤ 20 ∧ ∀ f ∈ fs, SmF f) ∧ Dst fs fs.length) → E = 0 → ∃ V, evalS EVS x = (V, 0) ∧ evalS EVS C = (V, 0)) := Lib.hid fun hsm h0 => by
    rw [← hEVS, ← hC]; exact keep_eval (fun f hf => (hsm.1.2 f hf).1) (fun f hf => (hsm.1.2 f hf).2) hsm.2 (by rw [hE]; exact h0)
  rw [hCE] at SC0; rw [hEVS] at EN0; obtain ⟨p, cap, pl, cl, rfl, hs, _⟩ := hx.form; obtain ⟨cnm, par, vf, pb, kb, cb, rfl, pf, cf, rfl, _⟩ := hc; obtain ⟨pv, cpv, rfl, _⟩ := hv; obtain ⟨z, hz⟩ : ∃ z, sz x = z := ⟨_, rfl⟩; rw [hz] at FC0 SC0 EV0; generalize x.op = o at *
  generalize x.n = num at *
  generalize x.nm = s at *
  generalize x.args.length = K at *
  obtain ⟨KF, hKF⟩ : ∃ K, fs.length = K := ⟨_, rfl⟩; rw [hKF] at SM0 SC0 EN0 ⊢; obtain ⟨KV, hKV⟩ : ∃ K, vs.length = K := ⟨_, rfl⟩; rw [hKV] at EN0 ⊢; have l1 := ba w (.cells #[.int .i64 o, .int .i64 num, .string s, .slice p K cap] 43); have l2 := ba (w.alloc (.cells #[.int .i64 o, .int .i64 num, .string s, .slice p K cap] 43)) (.cells #[.string cnm, .string par, .slice pf KF cf, .slice pb kb cb] 34); have B2 := (Four.new w (.int .i64 o) (.int .i64 num) (.string s) (.slice p K cap) 43).stay l2; have B3 := Four.new (w.alloc (.cells #[.int .i64 o, .int .i64 num, .string s, .slice p K cap] 43)) (.string cnm) (.string par) (.slice pf KF cf) (.slice pb kb cb) 34; have hb3 := l1.then_ l2; simp only [World.size_alloc] at B3; obtain ⟨W0, hW0⟩ : ∃ W0, (w.alloc (.cells #[.int .i64 o, .int .i64 num, .string s, .slice p K cap] 43)).alloc (.cells #[.string cnm, .string par, .slice pf KF cf, .slice pb kb cb] 34) = W0 := ⟨_, rfl⟩; rw [hW0] at B2 B3 hb3; have HB := Lib.hid hb3; have H2 := Lib.hid B2; have H3 := Lib.hid B3; have HX := Lib.hid (Below.refl W0.heap.size W0); have d0 := B2.c0; have d1 := B2.c1; have d2 := B2.c2; have d3 := B2.c3; have a0 := B3.c0; have a1 := B3.c1; have a2 := B3.c2; have a3 := B3.c3; have FC : Hid (∀ W, Below W0.heap.size W0 W → Calls Tryz.prog 25 #[xv o num s (.slice p K cap), .int .i64 60] W fun e w' => e = .returned (.bool (decide (z ≤ 60))) ∧ Below W.heap.size W w') := (Lib.hid fun W hW => FC0.out W (HB.out.then_ hW)); have SM : Hid (∀ W, Below W0.heap.size W0 W → Calls Tryz.prog 19 #[.agg #[.string cnm, .string par, .slice pf KF cf, .slice pb kb cb]] W fun e w' => ∃ b, e = .returned (.bool b) ∧ Below W.heap.size W w' ∧ (b = true → (fs.length ≤ 20 ∧ ∀ f ∈ fs, SmF f) ∧ Dst fs fs.length)) := (Lib.hid fun W hW => SM0.out W (HB.out.then_ hW)); have AW : Hid (∀ W, Below W0.heap.size W0 W → Calls Tryz.prog 11 #[] W fun e w' => e = .returned (.bool true) ∧ Below W.heap.size W w') := (Lib.hid fun W hW => AW0.out W (HB.out.then_ hW)); clear B2 B3 hb3 l1 l2 hx hs FC0 SM0 AW0 ht hC hE hCE hCs hz hEVS hrng; by_cases h60 : z ≤ 60
  · rw [decide_eq_true h60] at FC
    go_enter Tryz.func8, Tryz.ntmps8
    go_wp2_with (go_at_call 25; ((with_reducible refine (FC.out _ HX.out).mono ?_); rintro e w1 ⟨rfl, hb⟩; have HX := Lib.hid (HX.out.then_ hb); (try clear d0 d1 d2 d3 a0 a1 a2 a3); have F2 := H2.out.stay HX.out; have F3 := H3.out.stay HX.out; have d0 := F2.c0; have d1 := F2.c1; have d2 := F2.c2; have d3 := F2.c3; have a0 := F3.c0; have a1 := F3.c1; have a2 := F3.c2; have a3 := F3.c3; clear F2 F3; clear hb))
    go_at_call 19
    refine (SM.out _ HX.out).mono ?_; rintro e w2 ⟨b2, rfl, hb, hsm⟩; have HX := Lib.hid (HX.out.then_ hb)
    (try clear d0 d1 d2 d3 a0 a1 a2 a3); have F2 := H2.out.stay HX.out; have F3 := H3.out.stay HX.out; have d0 := F2.c0; have d1 := F2.c1; have d2 := F2.c2; have d3 := F2.c3; have a0 := F3.c0; have a1 := F3.c1; have a2 := F3.c2; have a3 := F3.c3; clear F2 F3
    clear hb; cases b2
    · clear SC0 EV0 EC0 EN0 KP h60 hsm; go_wp2_with (first
        | (go_at_call 11; ((with_reducible refine (AW.out _ HX.out).mono ?_); rintro e w9 ⟨rfl, hb⟩; have HX := Lib.hid (HX.out.then_ hb); (try clear d0 d1 d2 d3 a0 a1 a2 a3); have F2 := H2.out.stay HX.out; have F3 := H3.out.stay HX.out; have d0 := F2.c0; have d1 := F2.c1; have d2 := F2.c2; have d3 := F2.c3; have a0 := F3.c0; have a1 := F3.c1; have a2 := F3.c2; have a3 := F3.c3; clear F2 F3; clear hb)))
      go_ret; exact fin_true (HB.out.then_ HX.out)
    · have hsm' := hsm rfl; rw [hKF] at hsm'; have hsm2 := hsm rfl; have SC : Hid (∀ W, Below W0.heap.size W0 W → Calls Tryz.prog 26 #[xv o num s (.slice p K cap), .agg #[.string cnm, .string par, .slice pf KF cf, .slice pb kb cb]] W fun e w' => ∃ v, e = .returned (.tuple #[v, .int .i64 E]) ∧ ExAt w'.heap.size w' v C ∧ Below W.heap.size W w') := (Lib.hid fun W hW => SC0.out h60 hsm' W (HB.out.then_ hW)); have EN : Hid (∀ W, Below W0.heap.size W0 W → Calls Tryz.prog 30 #[.agg #[.string cnm, .string par, .slice pf KF cf, .slice pb kb cb], .slice pv KV cpv] W fun e w' => ∃ sv, e = .returned sv ∧ SigsAt w' sv EVS ∧ Below W.heap.size W w') := (Lib.hid fun W hW => EN0.out hsm' W (HB.out.then_ hW)); by_cases h0 : E = 0
      · obtain ⟨V, hV1, hV2⟩ := KP.out hsm2 h0; subst h0; have EV : Hid (∀ W sv, Below W0.heap.size W0 W → SigsAt W sv EVS → Calls Tryz.prog 33 #[xv o num s (.slice p K cap), sv] W fun e w' => e = .returned (.tuple #[.int .i64 V, .int .i64 0]) ∧ Below W.heap.size W w') := Lib.hid fun W sv hW hs => by
          have := EV0.out h60 W sv (HB.out.then_ hW) hs; rw [hV1] at this; exact this
        have EC : Hid (∀ W va sv, ExAt W.heap.size W va C → SigsAt W sv EVS → Calls Tryz.prog 33 #[va, sv] W fun e w' => e = .returned (.tuple #[.int .i64 V, .int .i64 0]) ∧ Below W.heap.size W w') := Lib.hid fun W va sv ha hs => by
          have := EC0.out W va sv ha hs; rw [hV2] at this; exact this
        clear SC0 EV0 EC0 EN0 KP h60 hsm hsm' hsm2 hV1 hV2; go_wp2_with (first
          | (go_at_call 26; go_loud ((with_reducible refine (SC.out _ HX.out).mono ?_); rintro e w3 ⟨v5, rfl, hx5, hb⟩; obtain ⟨p5, c5, _, _, rfl, _, _⟩ := hx5.form; have HX5 := Lib.hid ((hx5.under (ba w3 (.cells #[.int .i64 C.op, .int .i64 C.n, .string C.nm, .slice p5 C.args.length c5] 43))).wide (ba w3 (.cells #[.int .i64 C.op, .int .i64 C.n, .string C.nm, .slice p5 C.args.length c5] 43)).size); have H5 := Lib.hid (Four.new w3 (.int .i64 C.op) (.int .i64 C.n) (.string C.nm) (.slice p5 C.args.length c5) 43); have HY : Hid (Below (w3.alloc (.cells #[.int .i64 C.op, .int .i64 C.n, .string C.nm, .slice p5 C.args.length c5] 43)).heap.size (w3.alloc (.cells #[.int .i64 C.op, .int .i64 C.n, .string C.nm, .slice p5 C.args.length c5] 43)) (w3.alloc (.cells #[.int .i64 C.op, .int .i64 C.n, .string C.nm, .slice p5 C.args.length c5] 43))) := Lib.hid (Below.refl _ _); have HX := Lib.hid ((HX.out.then_ hb).then_ (ba w3 (.cells #[.int .i64 C.op, .int .i64 C.n, .string C.nm, .slice p5 C.args.length c5] 43))); (try clear d0 d1 d2 d3 a0 a1 a2 a3); have F2 := H2.out.stay HX.out; have F3 := H3.out.stay HX.out; have d0 := F2.c0; have d1 := F2.c1; have d2 := F2.c2; have d3 := F2.c3; have a0 := F3.c0; have a1 := F3.c1; have a2 := F3.c2; have a3 := F3.c3; clear F2 F3; clear hb hx5))
          | (go_at_call 30; go_loud ((with_reducible refine (EN.out _ HX.out).mono ?_); rintro e w4 ⟨v7, rfl, hs7, hb⟩; have HS7 := Lib.hid hs7; have HZ : Hid (Below w4.heap.size w4 w4) := Lib.hid (Below.refl _ _); have HX := Lib.hid (HX.out.then_ hb); have HY := Lib.hid (HY.out.then_ hb); (try clear m0 m1 m2 m3); have F5 := H5.out.stay HY.out; have m0 := F5.c0; have m1 := F5.c1; have m2 := F5.c2; have m3 := F5.c3; (try clear d0 d1 d2 d3 a0 a1 a2 a3); have F2 := H2.out.stay HX.out; have F3 := H3.out.stay HX.out; have d0 := F2.c0; have d1 := F2.c1; have d2 := F2.c2; have d3 := F2.c3; have a0 := F3.c0; have a1 := F3.c1; have a2 := F3.c2; have a3 := F3.c3; clear F2 F3; clear hb hs7 F5))
          | (go_at_call 33; ((with_reducible refine (EV.out _ _ HX.out (HS7.out.later HZ.out)).mono ?_); rintro e w5 ⟨rfl, hb⟩; have HX := Lib.hid (HX.out.then_ hb); have HY := Lib.hid (HY.out.then_ hb); have HZ := Lib.hid (HZ.out.then_ hb); (try clear m0 m1 m2 m3); have F5 := H5.out.stay HY.out; have m0 := F5.c0; have m1 := F5.c1; have m2 := F5.c2; have m3 := F5.c3; (try clear d0 d1 d2 d3 a0 a1 a2 a3); have F2 := H2.out.stay HX.out; have F3 := H3.out.stay HX.out; have d0 := F2.c0; have d1 := F2.c1; have d2 := F2.c2; have d3 := F2.c3; have a0 := F3.c0; have a1 := F3.c1; have a2 := F3.c2; have a3 := F3.c3; clear F2 F3; clear hb F5))
          | (go_at_call 33; ((with_reducible refine (EC.out _ _ _ ((HX5.out.under HY.out).wide HY.out.size) (HS7.out.later HZ.out)).mono ?_); rintro e w6 ⟨rfl, hb⟩; have HX := Lib.hid (HX.out.then_ hb); (try clear m0 m1 m2 m3); (try clear d0 d1 d2 d3 a0 a1 a2 a3); have F2 := H2.out.stay HX.out; have F3 := H3.out.stay HX.out; have d0 := F2.c0; have d1 := F2.c1; have d2 := F2.c2; have d3 := F2.c3; have a0 := F3.c0; have a1 := F3.c1; have a2 := F3.c2; have a3 := F3.c3; clear F2 F3; clear hb))
          | (go_at_call 11; ((with_reducible refine (AW.out _ HX.out).mono ?_); rintro e w9 ⟨rfl, hb⟩; have HX := Lib.hid (HX.out.then_ hb); (try clear d0 d1 d2 d3 a0 a1 a2 a3); have F2 := H2.out.stay HX.out; have F3 := H3.out.stay HX.out; have d0 := F2.c0; have d1 := F2.c1; have d2 := F2.c2; have d3 := F2.c3; have a0 := F3.c0; have a1 := F3.c1; have a2 := F3.c2; have a3 := F3.c3; clear F2 F3; clear hb)))
        go_ret; exact fin_true (HB.out.then_ HX.out)
      · have f0 : (E != 0) = true := (by simpa using h0); clear SC0 EV0 EC0 EN0 EN KP h60 hsm hsm' hsm2 h0; go_wp2_with (first
          | (go_at_call 26; go_loud ((with_reducible refine (SC.out _ HX.out).mono ?_); rintro e w3 ⟨v5, rfl, hx5, hb⟩; obtain ⟨p5, c5, _, _, rfl, _, _⟩ := hx5.form; have HX5 := Lib.hid ((hx5.under (ba w3 (.cells #[.int .i64 C.op, .int .i64 C.n, .string C.nm, .slice p5 C.args.length c5] 43))).wide (ba w3 (.cells #[.int .i64 C.op, .int .i64 C.n, .string C.nm, .slice p5 C.args.length c5] 43)).size); have H5 := Lib.hid (Four.new w3 (.int .i64 C.op) (.int .i64 C.n) (.string C.nm) (.slice p5 C.args.length c5) 43); have HY : Hid (Below (w3.alloc (.cells #[.int .i64 C.op, .int .i64 C.n, .string C.nm, .slice p5 C.args.length c5] 43)).heap.size (w3.alloc (.cells #[.int .i64 C.op, .int .i64 C.n, .string C.nm, .slice p5 C.args.length c5] 43)) (w3.alloc (.cells #[.int .i64 C.op, .int .i64 C.n, .string C.nm, .slice p5 C.args.length c5] 43))) := Lib.hid (Below.refl _ _); have HX := Lib.hid ((HX.out.then_ hb).then_ (ba w3 (.cells #[.int .i64 C.op, .int .i64 C.n, .string C.nm, .slice p5 C.args.length c5] 43))); (try clear d0 d1 d2 d3 a0 a1 a2 a3); have F2 := H2.out.stay HX.out; have F3 := H3.out.stay HX.out; have d0 := F2.c0; have d1 := F2.c1; have d2 := F2.c2; have d3 := F2.c3; have a0 := F3.c0; have a1 := F3.c1; have a2 := F3.c2; have a3 := F3.c3; clear F2 F3; clear hb hx5))
          | (go_at_call 11; ((with_reducible refine (AW.out _ HX.out).mono ?_); rintro e w9 ⟨rfl, hb⟩; have HX := Lib.hid (HX.out.then_ hb); (try clear d0 d1 d2 d3 a0 a1 a2 a3); have F2 := H2.out.stay HX.out; have F3 := H3.out.stay HX.out; have d0 := F2.c0; have d1 := F2.c1; have d2 := F2.c2; have d3 := F2.c3; have a0 := F3.c0; have a1 := F3.c1; have a2 := F3.c2; have a3 := F3.c3; clear F2 F3; clear hb)))
        go_ret; exact fin_true (HB.out.then_ HX.out)
  · rw [decide_eq_false h60] at FC; clear SC0 EV0 EC0 EN0 KP h60 SM
    go_enter Tryz.func8, Tryz.ntmps8
    go_wp2_with (first
      | (go_at_call 25; ((with_reducible refine (FC.out _ HX.out).mono ?_); rintro e w1 ⟨rfl, hb⟩; have HX := Lib.hid (HX.out.then_ hb); (try clear d0 d1 d2 d3 a0 a1 a2 a3); have F2 := H2.out.stay HX.out; have F3 := H3.out.stay HX.out; have d0 := F2.c0; have d1 := F2.c1; have d2 := F2.c2; have d3 := F2.c3; have a0 := F3.c0; have a1 := F3.c1; have a2 := F3.c2; have a3 := F3.c3; clear F2 F3; clear hb))
      | (go_at_call 11; ((with_reducible refine (AW.out _ HX.out).mono ?_); rintro e w9 ⟨rfl, hb⟩; have HX := Lib.hid (HX.out.then_ hb); (try clear d0 d1 d2 d3 a0 a1 a2 a3); have F2 := H2.out.stay HX.out; have F3 := H3.out.stay HX.out; have d0 := F2.c0; have d1 := F2.c1; have d2 := F2.c2; have d3 := F2.c3; have a0 := F3.c0; have a1 := F3.c1; have a2 := F3.c2; have a3 := F3.c3; clear F2 F3; clear hb)))
    go_ret; exact fin_true (HB.out.then_ HX.out)
end Go.Proofs.YtpejflgdehioaaaGreatDoor.ItW
