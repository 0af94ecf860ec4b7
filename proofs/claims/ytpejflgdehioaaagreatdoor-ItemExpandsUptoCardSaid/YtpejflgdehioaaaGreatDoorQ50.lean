/-
  Laws that the card uses; no conditions beside those that each states (ItExpM ItLExp).
-/
import Derived.Test.YtpejflgdehioaaaGreatDoorQ41
import Derived.Test.YtpejflgdehioaaaGreatDoorQ42
import Derived.Test.YtpejflgdehioaaaGreatDoorQ48
namespace Go.Proofs.YtpejflgdehioaaaGreatDoor.ItM
open Go Go.Proofs.YtpejflgdehioaaaGreatDoor.WordM Go.Proofs.YtpejflgdehioaaaGreatDoor.LexM Go.Proofs.YtpejflgdehioaaaGreatDoor.ExM
open Go.Proofs.YtpejflgdehioaaaGreatDoor.ClM (Fld firstE_zero)
def hSB (env : Env) (x : It) : Bool := !decide (x.kd = 1) || !decide ((evalS env x.e).1 = 0)
theorem exp_parts {fs : List Fld} {l out : List It} (h : expS fs l = (out, 0)) : (∀ p ∈ wks 0 [] l, fltP p = 0 ∧ chkP fs p = 0) ∧ out = exL fs none (fun a => a) l ∧ (∀ x ∈ out, largeB x = false) ∧ validI l = 0 ∧ cntL fs l ≤ 400 := by
  unfold expS at h; split at h
  · rename_i hc; have hv : validI l = 0 ∧ firstC fs l = 0 := by
      unfold checkI at hc; split at hc
      · exact ⟨by assumption, hc⟩
      · rename_i hn; exact absurd hc hn
    have hf : firstV l = 0 := by
      have := hv.1; unfold validI at this; split at this
      · cases this
      · exact this
    split at h
    · cases h
    · rename_i h400; split at h
      · cases h
      · rename_i hl; have e : exL fs none (fun a => a) l = out := congrArg Prod.fst h; refine ⟨fun p hp => ⟨firstE_zero.1 hf _ (List.mem_map_of_mem hp), firstE_zero.1 hv.2 _ (List.mem_map_of_mem hp)⟩, e.symm, fun x hx => ?_, hv.1, by omega⟩; rw [e] at hl; cases hb : largeB x with
        | false => rfl
        | true => exact absurd (List.any_eq_true.2 ⟨x, hx, hb⟩) hl
  · rename_i hn; exact absurd (congrArg Prod.snd h) hn
theorem large_vld {x : It} (h : largeB x = false) (hk : x.kd = 1 ∨ x.kd = 2) : vld x.e = 0 := by
  unfold largeB outK at h; rw [decide_eq_false (show ¬ x.kd = 3 by omega), decide_eq_false (show ¬ x.kd = 6 by omega)] at h; by_cases hv : vld x.e = 0
  · exact hv
  · rw [decide_eq_false hv] at h; cases h
theorem exp_law {fs : List Fld} (hS : ∀ f ∈ fs, 0 ≤ f.sz ∧ f.sz ≤ 8) {vs : List Int} {l out : List It} (h : expS fs l = (out, 0)) :
    (out.all (hSB (envS (varsN fs) vs)) = hoL fs (envS (varsN fs) vs) l) ∧ ∀ x ∈ out, x.kd = 1 ∨ x.kd = 2 ∨ x.kd = 3 ∨ x.kd = 6 := by
  obtain ⟨h1, h2, h3, _⟩ := exp_parts h; obtain ⟨g1, g2⟩ := exp_ho hS (vs := vs) l none (fun a => a) [] [] 0 h1 (fun s => by simp [memB]) SG.id (fun c hc => by cases hc); rw [← h2] at g1 g2; have e : ∀ x ∈ out, hSB (envS (varsN fs) vs) x = hOk (envS (varsN fs) vs) x := fun x hx => by
    unfold hSB hOk; by_cases hk : x.kd = 1
    · obtain ⟨_, q⟩ := g2 x hx; obtain ⟨_, q2⟩ := q (.inl hk); have hv := large_vld (h3 x hx) (.inl hk); unfold evalS; rw [if_pos hv, if_pos q2]
    · rw [decide_eq_false hk]; rfl
  refine ⟨?_, fun x hx => (g2 x hx).1⟩; rw [Bool.eq_iff_iff]; have : out.all (hSB (envS (varsN fs) vs)) = out.all (hOk (envS (varsN fs) vs)) := by
    rw [Bool.eq_iff_iff, List.all_eq_true, List.all_eq_true]; exact ⟨fun g x hx => by rw [← e x hx]; exact g x hx, fun g x hx => by rw [e x hx]; exact g x hx⟩
  rw [this, g1]; simp [qNo]
theorem exp_sz {fs : List Fld} {l out : List It} (h : expS fs l = (out, 0)) (hsm : ItW.SmE l) : ∀ x ∈ out, sz x.e ≤ 10000 := by
  obtain ⟨_, h2, _, h4, _⟩ := exp_parts h; rw [h2]; exact ItW.exL_sz fs l 5 none (fun a => a) (ItW.dpt_valid h4) (by decide) hsm (fun _ => Nat.le_refl _) (fun c hc => by cases hc)
theorem fw_wks (l : List It) : ∀ d B, FwL l → ∀ p ∈ wks d B l, okB p.x = true := by
  induction l using its_rec with
  | h0 => intro d B _ p hp; rw [wks_nil] at hp; cases hp
  | h1 x r h1 h2 h3 =>
    intro d B h p hp; rw [fwL_cons, fwI_eq] at h; rw [wks_cons, wk_eq] at hp; rcases List.mem_append.1 hp with hp | hp
    · rcases List.mem_cons.1 hp with rfl | hp
      · exact h.1.1
      · rcases List.mem_append.1 hp with hp | hp
        · exact h1 _ _ h.1.2.1 p hp
        · exact h2 _ _ h.1.2.2 p hp
    · exact h3 _ _ h.2 p hp
theorem fw_sm {l : List It} (h : FwL l) : ItW.SmE l := fun x hx => by
  obtain ⟨p, hp, rfl⟩ := List.mem_map.1 hx; have := (okB_iff.1 (fw_wks l 0 [] h p hp)).1; omega
end Go.Proofs.YtpejflgdehioaaaGreatDoor.ItM
namespace Go.Proofs.YtpejflgdehioaaaGreatDoor.ItW
open Go Go.RowKit Go.Shelf Go.«Sort» Go.Proofs.YtpejflgdehioaaaGreatDoor.NumM Go.Proofs.YtpejflgdehioaaaGreatDoor.LexW Go.Proofs.YtpejflgdehioaaaGreatDoor.LexM Go.Proofs.YtpejflgdehioaaaGreatDoor.ExM Go.Proofs.YtpejflgdehioaaaGreatDoor.ExW Go.Proofs.YtpejflgdehioaaaGreatDoor.ItM
open Go.Proofs.YtpejflgdehioaaaGreatDoor.ClM (Fld)
set_option maxRecDepth 100000 in
set_option maxHeartbeats 16000000 in
theorem itemExpands_any (l : List It) (fs : List Fld) (vs : List Int) (v cv vv : Value) (w : World) (hx : ItsA w.heap.size w v l) (hc : ClA w.heap.size w cv fs) (hv : IntsL w vv vs) (hz : iszs l ≤ 2000000) (ht : TabI w) :
    Calls Tryz.prog 7 #[v, cv, vv] w fun e w' => e = .returned (.bool true) ∧ Below w.heap.size w w' := by
  have FC0 : Hid (∀ W, Below w.heap.size w W → Calls Tryz.prog 10 #[v] W fun e w' => e = .returned (.bool (fewB l)) ∧ Below W.heap.size W w') := (Lib.hid fun W hW => fewI_any l v W.heap.size W hz ((hx.under hW).wide hW.size) (Nat.le_refl _)); have SM0 : Hid (∀ W, Below w.heap.size w W → Calls Tryz.prog 19 #[cv] W (tSm2 fs W)) := (Lib.hid fun W hW => small2_any fs cv W.heap.size W ((hc.under hW).wide hW.size) (Nat.le_refl _)); have AW0 : Hid (∀ W, Below w.heap.size w W → Calls Tryz.prog 11 #[] W fun e w' => e = .returned (.bool true) ∧ Below W.heap.size W w') := (Lib.hid fun W hW => awake_any W (ht.later hW)); obtain ⟨out, hout⟩ : ∃ out, (expS fs l).1 = out := ⟨_, rfl⟩; obtain ⟨E, hE⟩ : ∃ E, (expS fs l).2 = E := ⟨_, rfl⟩; have hOE : expS fs l = (out, E) := (by rw [← hout, ← hE]); have EX0 : Hid (fewB l = true → ((fs.length ≤ 20 ∧ ∀ f ∈ fs, SmF f) ∧ Dst fs fs.length) → ∀ W, Below w.heap.size w W → Calls Tryz.prog 22 #[v, cv] W (tLE (out, E) W)) := Lib.hid fun hf hsm W hW => by
    obtain ⟨h1, h2⟩ := few_true hf; have := itemExpand_any fs (fun f hf => (hsm.1.2 f hf).1) (by have := hsm.1.1; omega) l v cv W ((hx.under hW).wide hW.size) ((hc.under hW).wide hW.size) (by omega) (fw_rs l h1) (fw_sm h1) (ht.later hW); rw [hOE] at this; exact this
  have EN0 : Hid (((fs.length ≤ 20 ∧ ∀ f ∈ fs, SmF f) ∧ Dst fs fs.length) → ∀ W, Below w.heap.size w W → Calls Tryz.prog 30 #[cv, vv] W fun e w' => ∃ sv, e = .returned sv ∧ SigsAt w' sv (envS (varsN fs) vs) ∧ Below W.heap.size W w') := (Lib.hid fun hsm W hW => env_any fs vs cv vv W.heap.size W ((hc.under hW).wide hW.size) (Nat.le_refl _) (hv.later hW) hsm.1.1 hsm.1.2); obtain ⟨EVS, hEVS⟩ : ∃ l, envS (varsN fs) vs = l := ⟨_, rfl⟩; have hrng : ∀ q ∈ EVS, -9223372036854775808 ≤ q.2 ∧ q.2 ≤ 9223372036854775807 := by
    rw [← hEVS]; obtain ⟨_, _, _, _, _, hr, _⟩ := hv; exact envS_range hr
  have HHO0 : Hid (fewB l = true → ((fs.length ≤ 20 ∧ ∀ f ∈ fs, SmF f) ∧ Dst fs fs.length) → ∀ W sv, Below w.heap.size w W → SigsAt W sv EVS → Calls Tryz.prog 32 #[v, cv, sv] W fun e w' => e = .returned (.bool (hoL fs EVS l)) ∧ Below W.heap.size W w') := Lib.hid fun hf hsm W sv hW hs => by
    obtain ⟨h1, h2⟩ := few_true hf; refine holds_any fs (fun f hf => (hsm.1.2 f hf).1) cv l EVS sv v W.heap.size W ((hx.under hW).wide hW.size) (Nat.le_refl _) ((hc.under hW).wide hW.size) hs hrng (fw_rs l h1) ?_; rw [← hEVS, envS_len]; have := vars_len (fs := fs) (fun f hf => (hsm.1.2 f hf).1); omega
  have LAW : Hid (((fs.length ≤ 20 ∧ ∀ f ∈ fs, SmF f) ∧ Dst fs fs.length) → E = 0 → (out.all (hSB EVS) = hoL fs EVS l) ∧ ∀ x ∈ out, x.kd = 1 ∨ x.kd = 2 ∨ x.kd = 3 ∨ x.kd = 6) := Lib.hid fun hsm h0 => by
    rw [← hEVS]; exact exp_law (fun f hf => (hsm.1.2 f hf).1) (by rw [hOE, h0])
  have OSZ : Hid (fewB l = true → E = 0 → ∀ x ∈ out, sz x.e ≤ 10000) := (Lib.hid fun hf h0 => exp_sz (fs := fs) (by rw [hOE, h0]) (fw_sm (few_true hf).1)); have VV0 : Hid (∀ (x : It) W va sv, sz x.e ≤ 10000 → ExAt W.heap.size W va x.e → SigsAt W sv EVS → Calls Tryz.prog 31 #[va, sv] W fun e w' => e = .returned (.int .i64 (evalS EVS x.e).1) ∧ Below W.heap.size W w') := (Lib.hid fun x W va sv h1 h2 h3 => valF_any EVS sv va x.e W h2 h3 hrng h1); rw [hEVS] at EN0; obtain ⟨pv, cpv, rfl, _⟩ := hv; obtain ⟨KV, hKV⟩ : ∃ K, vs.length = K := ⟨_, rfl⟩; rw [hKV] at EN0 ⊢; obtain ⟨cnm, par, vf, pb, kb, cb, rfl, pf, cf, rfl, _⟩ := hc; obtain ⟨KF, hKF⟩ : ∃ K, fs.length = K := ⟨_, rfl⟩; rw [hKF] at SM0 EX0 EN0 HHO0 ⊢; have l2 := ba w (.cells #[.string cnm, .string par, .slice pf KF cf, .slice pb kb cb] 34); have B3 := Four.new w (.string cnm) (.string par) (.slice pf KF cf) (.slice pb kb cb) 34; obtain ⟨W0, hW0⟩ : ∃ W0, w.alloc (.cells #[.string cnm, .string par, .slice pf KF cf, .slice pb kb cb] 34) = W0 := ⟨_, rfl⟩; rw [hW0] at B3 l2; have HB := Lib.hid l2; have H3 := Lib.hid B3; have HX := Lib.hid (Below.refl W0.heap.size W0); have a0 := B3.c0; have a1 := B3.c1; have a2 := B3.c2; have a3 := B3.c3; have FC : Hid (∀ W, Below W0.heap.size W0 W → Calls Tryz.prog 10 #[v] W fun e w' => e = .returned (.bool (fewB l)) ∧ Below W.heap.size W w') := (Lib.hid fun W hW => FC0.out W (HB.out.then_ hW)); have AW : Hid (∀ W, Below W0.heap.size W0 W → Calls Tryz.prog 11 #[] W fun e w' => e = .returned (.bool true) ∧ Below W.heap.size W w') := (Lib.hid fun W hW => AW0.out W (HB.out.then_ hW)); have SM : Hid (∀ W, Below W0.heap.size W0 W → Calls Tryz.prog 19 #[.agg #[.string cnm, .string par, .slice pf KF cf, .slice pb kb cb]] W fun e w' => ∃ b, e = .returned (.bool b) ∧ Below W.heap.size W w' ∧ (b = true → (fs.length ≤ 20 ∧ ∀ f ∈ fs, SmF f) ∧ Dst fs fs.length)) := (Lib.hid fun W hW => SM0.out W (HB.out.then_ hW)); clear B3 l2 hx ht FC0 SM0 AW0 hE hout hOE hz hKV hEVS hrng; cases hf : fewB l
  · rw [hf] at FC; clear EX0 EN0 HHO0 LAW OSZ VV0 SM hf
    go_enter Tryz.func7, Tryz.ntmps7
    go_wp2_with (first
      | (go_at_call 10; ((with_reducible refine (FC.out _ HX.out).mono ?_); rintro e w1 ⟨rfl, hb⟩; have HX := Lib.hid (HX.out.then_ hb); (try clear a0 a1 a2 a3); have F3 := H3.out.stay HX.out; have a0 := F3.c0; have a1 := F3.c1; have a2 := F3.c2; have a3 := F3.c3; clear F3; clear hb))
      | (go_at_call 11; ((with_reducible refine (AW.out _ HX.out).mono ?_); rintro e w9 ⟨rfl, hb⟩; have HX := Lib.hid (HX.out.then_ hb); (try clear a0 a1 a2 a3); have F3 := H3.out.stay HX.out; have a0 := F3.c0; have a1 := F3.c1; have a2 := F3.c2; have a3 := F3.c3; clear F3; clear hb)))
    go_ret; exact fin_yes (HB.out.then_ HX.out)
  · rw [hf] at FC
    go_enter Tryz.func7, Tryz.ntmps7
    go_wp2_with (go_at_call 10; ((with_reducible refine (FC.out _ HX.out).mono ?_); rintro e w1 ⟨rfl, hb⟩; have HX := Lib.hid (HX.out.then_ hb); (try clear a0 a1 a2 a3); have F3 := H3.out.stay HX.out; have a0 := F3.c0; have a1 := F3.c1; have a2 := F3.c2; have a3 := F3.c3; clear F3; clear hb))
    go_at_call 19
    refine (SM.out _ HX.out).mono ?_; rintro e w2 ⟨b2, rfl, hb, hsm⟩; have HX := Lib.hid (HX.out.then_ hb)
    (try clear a0 a1 a2 a3); have F3 := H3.out.stay HX.out; have a0 := F3.c0; have a1 := F3.c1; have a2 := F3.c2; have a3 := F3.c3; clear F3
    clear hb; cases b2
    · clear EX0 EN0 HHO0 LAW OSZ VV0 hsm; go_wp2_with (first
        | (go_at_call 11; ((with_reducible refine (AW.out _ HX.out).mono ?_); rintro e w9 ⟨rfl, hb⟩; have HX := Lib.hid (HX.out.then_ hb); (try clear a0 a1 a2 a3); have F3 := H3.out.stay HX.out; have a0 := F3.c0; have a1 := F3.c1; have a2 := F3.c2; have a3 := F3.c3; clear F3; clear hb)))
      go_ret; exact fin_yes (HB.out.then_ HX.out)
    · have hsm2 := hsm rfl; have hsm' := hsm rfl; rw [hKF] at hsm'; have EX : Hid (∀ W, Below W0.heap.size W0 W → Calls Tryz.prog 22 #[v, .agg #[.string cnm, .string par, .slice pf KF cf, .slice pb kb cb]] W fun x w' => ∃ vo, x = .returned (.tuple #[vo, .int .i64 E]) ∧ ItsA w'.heap.size w' vo out ∧ Below W.heap.size W w') := (Lib.hid fun W hW => EX0.out hf hsm' W (HB.out.then_ hW)); have EN : Hid (∀ W, Below W0.heap.size W0 W → Calls Tryz.prog 30 #[.agg #[.string cnm, .string par, .slice pf KF cf, .slice pb kb cb], .slice pv KV cpv] W fun e w' => ∃ sv, e = .returned sv ∧ SigsAt w' sv EVS ∧ Below W.heap.size W w') := (Lib.hid fun W hW => EN0.out hsm' W (HB.out.then_ hW)); have HHO1 : Hid (∀ W sv, Below W0.heap.size W0 W → SigsAt W sv EVS → Calls Tryz.prog 32 #[v, .agg #[.string cnm, .string par, .slice pf KF cf, .slice pb kb cb], sv] W fun e w' => e = .returned (.bool (hoL fs EVS l)) ∧ Below W.heap.size W w') := (Lib.hid fun W sv hW hs => HHO0.out hf hsm' W sv (HB.out.then_ hW) hs); by_cases h0 : E = 0
      · have HEQ := Lib.hid (LAW.out hsm2 h0).1; have HKD := Lib.hid (LAW.out hsm2 h0).2; have HOS := Lib.hid (OSZ.out hf h0); subst h0; clear EX0 EN0 HHO0 LAW OSZ hsm hsm' hsm2 SM FC hf; go_wp2_with (go_at_call 10; skip)
        go_at_call 22
        refine (EX.out _ HX.out).mono ?_; rintro e wo ⟨vo, rfl, ho, hb⟩; have HX := Lib.hid (HX.out.then_ hb)
        (try clear a0 a1 a2 a3); have F3 := H3.out.stay HX.out; have a0 := F3.c0; have a1 := F3.c1; have a2 := F3.c2; have a3 := F3.c3; clear F3
        clear hb; obtain ⟨po, ko, VO, rfl, hro⟩ := ho.form; obtain ⟨KO, hKO⟩ : ∃ K, out.length = K := ⟨_, rfl⟩; have HOL := Lib.hid hKO; have hol := hro.hl; rw [hKO] at hol ⊢; have hko47 : KO ≤ 140737488351232 := (by omega); have HOR0 := Lib.hid hro; clear hro ho hKO hol; go_wp2_with (go_at_call 10; skip)
        go_at_call 30
        refine (EN.out _ HX.out).mono ?_; rintro e w3 ⟨v7, rfl, hs7, hb⟩; have HX := Lib.hid (HX.out.then_ hb); have HOR := Lib.hid ((HOR0.out.under hb).kept (fun _ _ _ _ hv => hv) hb.size); have HS7 := Lib.hid hs7; have HX3 := HX; have HZ : Hid (Below w3.heap.size w3 w3) := Lib.hid (Below.refl _ _); have HHO : Hid (∀ W, Below w3.heap.size w3 W → Below W0.heap.size W0 W → Calls Tryz.prog 32 #[v, .agg #[.string cnm, .string par, .slice pf KF cf, .slice pb kb cb], v7] W fun e w' => e = .returned (.bool (hoL fs EVS l)) ∧ Below W.heap.size W w') := (Lib.hid fun W h3 hW => HHO1.out W v7 hW (HS7.out.later h3)); have HVC : Hid (∀ (x : It) (j : Nat) W, x ∈ out → out[j]? = some x → Below W0.heap.size W0 W → Below w3.heap.size w3 W → ∀ W', Below W.heap.size W W' → Calls Tryz.prog 31 #[xv x.e.op x.e.n x.e.nm (VO j 4), v7] W' fun e w' => e = .returned (.int .i64 (evalS EVS x.e).1) ∧ Below W'.heap.size W' w') := (Lib.hid fun x j W hm hj _ h3 W' hW' => VV0.out x W' _ v7 (HOS.out x hm) ((((HOR.out.hv j x hj).ex).under (h3.then_ hW')).wide (h3.then_ hW').size) (HS7.out.later (h3.then_ hW'))); clear hb hs7 HOR0 HHO1 VV0 EX EN HOS a0 a1 a2 a3; go_wp2; go_loopw [10, 11] (fun t i wr => ∃ (j : Nat) (t' : Bool), j ≤ KO ∧ i = .int .i64 j ∧ t = .bool t' ∧ Hid ((out.take j).all (hSB EVS) = t') ∧ Hid (Below W0.heap.size W0 wr) ∧ Hid (Below w3.heap.size w3 wr)) (fun _ i _ => KO - (intOf i).toNat)
        case atStart => exact ⟨0, true, Nat.zero_le _, rfl, rfl, Lib.hid rfl, HX, HZ⟩
        case round =>
          rename World => w9
          obtain ⟨j, t, hj, rfl, rfl, HTT, HX, HZ⟩ := hrel; by_cases hlt : j < KO
          · obtain ⟨x, hxj⟩ : ∃ x, out[j]? = some x := ⟨_, List.getElem?_eq_getElem (by rw [HOL.out]; exact hlt)⟩; have hr2 := HOR.out.under HZ.out; obtain ⟨bo, oo, rfl, hb', hcell⟩ := hr2.hp (by rw [HOL.out]; omega); obtain ⟨o0, o1, o2, o3, o4, _⟩ := hcell j x hxj; have hva := hr2.hv j x hxj; have hmem := List.mem_of_getElem? hxj; have HST : Hid ((out.take (j + 1)).all (hSB EVS) = ((out.take j).all (hSB EVS) && hSB EVS x)) := Lib.hid (by
              obtain ⟨hjl, he⟩ := List.getElem?_eq_some_iff.1 hxj; rw [List.take_succ_eq_append_getElem hjl, List.all_append, he]; simp)
            have hkd := HKD.out x hmem; have VC0 := HVC.out x j w9 hmem hxj HX.out HZ.out; obtain ⟨pe, ke, _, _, ee, _⟩ := hva.ex.form; have ee2 : VO j 4 = .slice pe x.e.args.length ke := (by simpa using ee); rw [ee2] at o4 VC0; have HV : Hid (hSB EVS x = (!decide (x.kd = 1) || !decide ((evalS EVS x.e).1 = 0))) := Lib.hid rfl; clear ee ee2 hva hcell hr2 hmem hxj; generalize (evalS EVS x.e).1 = V at *
            generalize x.kd = kd at *
            generalize x.e.op = eo at *
            generalize x.e.n = en at *
            generalize x.e.nm = enm at *
            generalize x.e.args.length = ek at *
            have VC := Lib.hid VC0; clear VC0; rcases hkd with hk | hk | hk | hk
            · subst hk; cases t
              · have HN : Hid ((out.take (j + 1)).all (hSB EVS) = false) := Lib.hid (by rw [HST.out, HTT.out]; rfl); clear HST HTT VC HV; go_wp2; go_roundw
                case rel => exact ⟨j + 1, false, by omega, by go_num, rfl, HN, HX, HZ⟩
                case measure => simp [intOf]; omega
              · by_cases v0 : V = 0
                · have HN : Hid ((out.take (j + 1)).all (hSB EVS) = false) := Lib.hid (by rw [HST.out, HTT.out, HV.out, decide_eq_true v0]; rfl); subst v0; clear HST HTT HV; go_wp2_with (go_at_call 31; ((with_reducible refine (VC.out _ (Below.refl _ _)).mono ?_); rintro e w5 ⟨rfl, hb⟩; have HX := Lib.hid (HX.out.then_ hb); have HZ := Lib.hid (HZ.out.then_ hb); clear hb))
                  go_roundw
                  case rel => exact ⟨j + 1, false, by omega, by go_num, rfl, HN, HX, HZ⟩
                  case measure => simp [intOf]; omega
                · have HN : Hid ((out.take (j + 1)).all (hSB EVS) = true) := Lib.hid (by rw [HST.out, HTT.out, HV.out, decide_eq_false v0]; rfl); have e0 : (V != 0) = true := (by rw [bne_iff_ne]; exact v0); clear HST HTT HV v0; go_wp2_with (go_at_call 31; ((with_reducible refine (VC.out _ (Below.refl _ _)).mono ?_); rintro e w5 ⟨rfl, hb⟩; have HX := Lib.hid (HX.out.then_ hb); have HZ := Lib.hid (HZ.out.then_ hb); clear hb))
                  go_roundw
                  case rel => exact ⟨j + 1, true, by omega, by go_num, rfl, HN, HX, HZ⟩
                  case measure => simp [intOf]; omega
            · subst hk; cases t
              · have HN : Hid ((out.take (j + 1)).all (hSB EVS) = false) := Lib.hid (by rw [HST.out, HTT.out]; rfl); clear HST HTT VC HV; go_wp2; go_roundw
                case rel => exact ⟨j + 1, false, by omega, by go_num, rfl, HN, HX, HZ⟩
                case measure => simp [intOf]; omega
              · have HN : Hid ((out.take (j + 1)).all (hSB EVS) = true) := Lib.hid (by rw [HST.out, HTT.out, HV.out]; rfl); clear HST HTT VC HV; go_wp2; go_roundw
                case rel => exact ⟨j + 1, true, by omega, by go_num, rfl, HN, HX, HZ⟩
                case measure => simp [intOf]; omega
            · subst hk; cases t
              · have HN : Hid ((out.take (j + 1)).all (hSB EVS) = false) := Lib.hid (by rw [HST.out, HTT.out]; rfl); clear HST HTT VC HV; go_wp2; go_roundw
                case rel => exact ⟨j + 1, false, by omega, by go_num, rfl, HN, HX, HZ⟩
                case measure => simp [intOf]; omega
              · have HN : Hid ((out.take (j + 1)).all (hSB EVS) = true) := Lib.hid (by rw [HST.out, HTT.out, HV.out]; rfl); clear HST HTT VC HV; go_wp2; go_roundw
                case rel => exact ⟨j + 1, true, by omega, by go_num, rfl, HN, HX, HZ⟩
                case measure => simp [intOf]; omega
            · subst hk; cases t
              · have HN : Hid ((out.take (j + 1)).all (hSB EVS) = false) := Lib.hid (by rw [HST.out, HTT.out]; rfl); clear HST HTT VC HV; go_wp2; go_roundw
                case rel => exact ⟨j + 1, false, by omega, by go_num, rfl, HN, HX, HZ⟩
                case measure => simp [intOf]; omega
              · have HN : Hid ((out.take (j + 1)).all (hSB EVS) = true) := Lib.hid (by rw [HST.out, HTT.out, HV.out]; rfl); clear HST HTT VC HV; go_wp2; go_roundw
                case rel => exact ⟨j + 1, true, by omega, by go_num, rfl, HN, HX, HZ⟩
                case measure => simp [intOf]; omega
          · have HTA : Hid (out.all (hSB EVS) = t) := Lib.hid (by have := HTT.out; rw [List.take_of_length_le (by rw [HOL.out]; omega)] at this; exact this); have HHB : Hid (hoL fs EVS l = t) := Lib.hid (by rw [← HTA.out]; exact HEQ.out.symm); have HC : Hid (∀ W, Below w3.heap.size w3 W → Below W0.heap.size W0 W → Calls Tryz.prog 32 #[v, .agg #[.string cnm, .string par, .slice pf KF cf, .slice pb kb cb], v7] W fun e w' => e = .returned (.bool t) ∧ Below W.heap.size W w') := Lib.hid fun W h3 hW => by
              have := HHO.out W h3 hW; rw [HHB.out] at this; exact this
            have htt : (t == t) = true := (by simp); have F3 := H3.out.stay HX.out; have a0 := F3.c0; have a1 := F3.c1; have a2 := F3.c2; have a3 := F3.c3; clear F3; go_wp2_with (first
              | (go_at_call 32; ((with_reducible refine (HC.out _ HZ.out HX.out).mono ?_); rintro e w6 ⟨rfl, hb⟩; have HX := Lib.hid (HX.out.then_ hb); clear hb))
              | (go_at_call 11; ((with_reducible refine (AW.out _ HX.out).mono ?_); rintro e w8 ⟨rfl, hb⟩; have HX := Lib.hid (HX.out.then_ hb); clear hb)))
            go_ret; exact fin_yes (HB.out.then_ HX.out)
      · have f0 : (E != 0) = true := (by simpa using h0); clear EX0 EN0 HHO0 LAW OSZ VV0 hsm hsm' hsm2 SM FC hf EN HHO1 h0; go_wp2_with (go_at_call 10; skip)
        go_at_call 22
        refine (EX.out _ HX.out).mono ?_; rintro e wo ⟨vo, rfl, ho, hb⟩; have HX := Lib.hid (HX.out.then_ hb)
        (try clear a0 a1 a2 a3); have F3 := H3.out.stay HX.out; have a0 := F3.c0; have a1 := F3.c1; have a2 := F3.c2; have a3 := F3.c3; clear F3
        clear hb ho; go_wp2_with (first
          | (go_at_call 11; ((with_reducible refine (AW.out _ HX.out).mono ?_); rintro e w9 ⟨rfl, hb⟩; have HX := Lib.hid (HX.out.then_ hb); (try clear a0 a1 a2 a3); have F3 := H3.out.stay HX.out; have a0 := F3.c0; have a1 := F3.c1; have a2 := F3.c2; have a3 := F3.c3; clear F3; clear hb)))
        go_ret; exact fin_yes (HB.out.then_ HX.out)
end Go.Proofs.YtpejflgdehioaaaGreatDoor.ItW
