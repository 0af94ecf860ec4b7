/-
  Laws that the card uses; no conditions beside those that each states (ItHo).
-/
import Derived.Test.YtpejflgdehioaaaGreatDoorQ33
import Derived.Test.YtpejflgdehioaaaGreatDoorQ46
namespace Go.Proofs.YtpejflgdehioaaaGreatDoor.ItW
open Go Go.RowKit Go.Shelf Go.Proofs.YtpejflgdehioaaaGreatDoor.NumM Go.Proofs.YtpejflgdehioaaaGreatDoor.LexW Go.Proofs.YtpejflgdehioaaaGreatDoor.LexM Go.Proofs.YtpejflgdehioaaaGreatDoor.ExM Go.Proofs.YtpejflgdehioaaaGreatDoor.ExW Go.Proofs.YtpejflgdehioaaaGreatDoor.ItM
open Go.Proofs.YtpejflgdehioaaaGreatDoor.ClM (Fld)
theorem ho_no {fs : List Fld} {env : Env} {l : List It} {j : Nat} {a : It} (h : l[j]? = some a) (g : hoI fs env a = false) : hoL fs env l = false := by
  rw [hoL_all, Bool.eq_false_iff]; intro e; have := List.all_eq_true.1 e a (List.mem_of_getElem? h); rw [g] at this; cases this
theorem ho_step {fs : List Fld} {env : Env} {l : List It} {j : Nat} {a : It} (h : l[j]? = some a) (h0 : hoL fs env (l.take j) = true) (g : hoI fs env a = true) : hoL fs env (l.take (j + 1)) = true := by
  obtain ⟨hj, he⟩ := List.getElem?_eq_some_iff.1 h; rw [List.take_succ_eq_append_getElem hj, hoL_all, List.all_append, ← hoL_all, h0, he]; simp [g]
set_option maxRecDepth 100000 in
set_option maxHeartbeats 32000000 in
theorem holds_any (fs : List Fld) (hS : ∀ f ∈ fs, 0 ≤ f.sz ∧ f.sz ≤ 8) (cv : Value) (l : List It) : ∀ (env : Env) (sv v : Value) (N : Nat) (w : World), ItsA N w v l → N ≤ w.heap.size → ClA N w cv fs → SigsAt w sv env → (∀ x ∈ env, -9223372036854775808 ≤ x.2 ∧ x.2 ≤ 9223372036854775807) → RsL l → env.length + iszs l ≤ 1000000 →
    Calls Tryz.prog 32 #[v, cv, sv] w (tBool (hoL fs env l) w) := by
  induction l using its_ind with
  | h l ih =>
    intro env sv v N w hx hN hc hE hr hrs hlen; obtain ⟨p, cap, V0, rfl, hrow⟩ := hx.form; have hl := hrow.hl; have HR := Lib.hid hrow; have HIH := Lib.hid ih; have HCL := Lib.hid hc; have HSE := Lib.hid hE; have HRG := Lib.hid hr; have HRS := Lib.hid hrs; obtain ⟨K, hK⟩ : ∃ K, l.length = K := ⟨_, rfl⟩; have HLK := Lib.hid hK; obtain ⟨KE, hKE⟩ : ∃ K, env.length = K := ⟨_, rfl⟩; have HKE := Lib.hid hKE; rw [hKE] at hlen; rw [hK] at hl ⊢; obtain ⟨cnm, par, vf, pb, kb, cb, rfl, pf, cf, rfl, _⟩ := hc; obtain ⟨i0, hi, hz0, hz1, hz2⟩ := info_parts infoSig; generalize fs.length = KF at *
    have l2 := ba w (.cells #[.string cnm, .string par, .slice pf KF cf, .slice pb kb cb] 34); have B3 := Four.new w (.string cnm) (.string par) (.slice pf KF cf) (.slice pb kb cb) 34; obtain ⟨W0, hW0⟩ : ∃ W0, w.alloc (.cells #[.string cnm, .string par, .slice pf KF cf, .slice pb kb cb] 34) = W0 := ⟨_, rfl⟩; have HT0 : Hid (hoL fs env (l.take 0) = true) := Lib.hid (by rw [List.take_zero, hoL_nil]); clear hK hKE hrow ih hx hE hr hrs
    go_enter Tryz.func32, Tryz.ntmps32
    go_wp2; rw [hW0] at B3 l2; have HB := Lib.hid l2; have H3 := Lib.hid B3; have HX := Lib.hid (Below.refl W0.heap.size W0); clear hW0 B3 l2; go_loopw [7] (fun i wr => ∃ j : Nat, j ≤ K ∧ i = .int .i64 j ∧ Hid (hoL fs env (l.take j) = true) ∧ Hid (Below W0.heap.size W0 wr)) (fun i _ => K - (intOf i).toNat)
    case atStart => exact ⟨0, Nat.zero_le _, rfl, HT0, HX⟩
    case round =>
      rename World => w1
      obtain ⟨j, hj, rfl, HT, BW⟩ := hrel; by_cases hlt : j < K
      · obtain ⟨a, ha⟩ : ∃ a, l[j]? = some a := ⟨_, List.getElem?_eq_getElem (by rw [HLK.out]; exact hlt)⟩; have hbw1 : Below w.heap.size w w1 := HB.out.then_ BW.out; have hbw : Below N w w1 := hbw1.mono hN; have hr2 := HR.out.under hbw; obtain ⟨b, off, rfl, hb, hcell⟩ := hr2.hp (by rw [HLK.out]; omega); have hva := hr2.hv j a ha; obtain ⟨g0, g1, g2, g3, g4, g5, g6, g7, g8, g9, g10, g11⟩ := hcell j a ha; have hmem := List.mem_of_getElem? ha; have hnN : N ≤ w1.heap.size := (by have := hbw1.size; omega); have hrsa := (rsI_eq a).1 (rsL_mem.1 HRS.out a hmem); have hsz := isz_mem hmem; have hse := isz_eq a; have hn8 := szI_le fs hS a.nm; have HNO : Hid (hoI fs env a = false → hoL fs env l = false) := (Lib.hid fun g => ho_no ha g); have HYES : Hid (hoI fs env a = true → hoL fs env (l.take (j + 1)) = true) := (Lib.hid fun g => ho_step ha HT.out g); have HOI := Lib.hid (hoI_eq fs env a); have VC0 : Hid (∀ W, Below w1.heap.size w1 W → Calls Tryz.prog 31 #[xv a.e.op a.e.n a.e.nm (V0 j 4), sv] W (tInt (evalS env a.e).1 W)) := (Lib.hid fun W hW => valF_any env sv _ a.e W ((hva.ex.under (hW.mono hnN)).wide (by have := hW.size; omega)) (HSE.out.later (hbw1.then_ hW)) HRG.out hrsa.1.1); have HC10 : Hid (∀ W, Below w1.heap.size w1 W → Calls Tryz.prog 32 #[V0 j 8, .agg #[.string cnm, .string par, .slice pf KF cf, .slice pb kb cb], sv] W (tBool (hoL fs env a.it) W)) := (Lib.hid fun W hW => (HIH.out a hmem).1 env sv _ N W (hva.its.under (hW.mono hnN)) (by have := hW.size; omega) (HCL.out.under ((hbw1.then_ hW).mono hN)) (HSE.out.later (hbw1.then_ hW)) HRG.out hrsa.2.1 (by rw [HKE.out]; omega)); have HC20 : Hid (∀ W, Below w1.heap.size w1 W → Calls Tryz.prog 32 #[V0 j 9, .agg #[.string cnm, .string par, .slice pf KF cf, .slice pb kb cb], sv] W (tBool (hoL fs env a.el) W)) := (Lib.hid fun W hW => (HIH.out a hmem).2 env sv _ N W (hva.els.under (hW.mono hnN)) (by have := hW.size; omega) (HCL.out.under ((hbw1.then_ hW).mono hN)) (HSE.out.later (hbw1.then_ hW)) HRG.out hrsa.2.2 (by rw [HKE.out]; omega)); have HIE0 : Hid (∀ (k : Nat) (W : World) (sv' : Value), k ≤ 7 → Below w1.heap.size w1 W → SigsAt W sv' ((a.ix, (k : Int)) :: env) → Calls Tryz.prog 32 #[V0 j 8, .agg #[.string cnm, .string par, .slice pf KF cf, .slice pb kb cb], sv'] W (tBool (hoL fs ((a.ix, (k : Int)) :: env) a.it) W)) := Lib.hid fun k W sv' hk hW hs => (HIH.out a hmem).1 ((a.ix, (k : Int)) :: env) sv' _ N W (hva.its.under (hW.mono hnN)) (by have := hW.size; omega) (HCL.out.under ((hbw1.then_ hW).mono hN)) hs (fun x hx => by
          rcases List.mem_cons.1 hx with rfl | h
          · exact ⟨by show (-9223372036854775808 : Int) ≤ (k : Int); omega, by show (k : Int) ≤ 9223372036854775807; omega⟩
          · exact HRG.out x h) hrsa.2.1 (by rw [List.length_cons, HKE.out]; omega)
        have SZ0 : Hid (∀ W, Below w1.heap.size w1 W → Calls Tryz.prog 63 #[.agg #[.string cnm, .string par, .slice pf KF cf, .slice pb kb cb], .string a.nm] W (tInt (szI fs a.nm) W)) := (Lib.hid fun W hW => sizeF_any fs _ a.nm N W (HCL.out.under ((hbw1.then_ hW).mono hN)) (by have := hW.size; omega)); obtain ⟨p4, c4, p7, c7, p8, c8, p9, c9, p10, c10, p11, c11, e4, e7, e8, e9, e10, e11⟩ := hva.slices; rw [e4] at g4 VC0; rw [e7] at g7; rw [e8] at g8 HC10 HIE0; rw [e9] at g9 HC20; rw [e10] at g10; rw [e11] at g11; clear e4 e7 e8 e9 e10 e11 hcell hva hr2 hbw hmem hsz hse hrsa ha hnN; obtain ⟨k4, hk4⟩ : ∃ k, a.e.args.length = k := ⟨_, rfl⟩; obtain ⟨k7, hk7⟩ : ∃ k, a.ws.length = k := ⟨_, rfl⟩; obtain ⟨k8, hk8⟩ : ∃ k, a.it.length = k := ⟨_, rfl⟩; obtain ⟨k9, hk9⟩ : ∃ k, a.el.length = k := ⟨_, rfl⟩; obtain ⟨k10, hk10⟩ : ∃ k, a.bf.length = k := ⟨_, rfl⟩; obtain ⟨k11, hk11⟩ : ∃ k, a.af.length = k := ⟨_, rfl⟩; rw [hk4] at g4 VC0; rw [hk7] at g7; rw [hk8] at g8 HC10 HIE0; rw [hk9] at g9 HC20; rw [hk10] at g10; rw [hk11] at g11; clear hk4 hk7 hk8 hk9 hk10 hk11; obtain ⟨V, hV⟩ : ∃ V, (evalS env a.e).1 = V := ⟨_, rfl⟩; obtain ⟨b1, hb1⟩ : ∃ b, hoL fs env a.it = b := ⟨_, rfl⟩; obtain ⟨b2, hb2⟩ : ∃ b, hoL fs env a.el = b := ⟨_, rfl⟩; obtain ⟨n, hn⟩ : ∃ n, szI fs a.nm = n := ⟨_, rfl⟩; have HOI2 := HOI.out; rw [hV, hb1, hb2, hn] at HOI2; have HOJ := Lib.hid HOI2; rw [hV] at VC0; rw [hb1] at HC10; rw [hb2] at HC20; rw [hn] at SZ0 hn8; clear HOI2 HOI hV hb1 hb2 hn; generalize a.kd = kd at *
        generalize a.e.op = eo at *
        generalize a.e.n = en at *
        generalize a.e.nm = enm at *
        generalize a.nm = anm at *
        generalize a.ix = aix at *
        have HBX := ba w1 (.cells (ics kd eo en enm (.slice p4 k4 c4) anm aix (.slice p7 k7 c7) (.slice p8 k8 c8) (.slice p9 k9 c9) (.slice p10 k10 c10) (.slice p11 k11 c11)).toArray 55); have bk := Blk.new w1 (ics kd eo en enm (.slice p4 k4 c4) anm aix (.slice p7 k7 c7) (.slice p8 k8 c8) (.slice p9 k9 c9) (.slice p10 k10 c10) (.slice p11 k11 c11)) 55; have HK := Lib.hid bk; have HX := Lib.hid (BW.out.then_ HBX); have HY := Lib.hid HBX; have VC : Hid (∀ W, Below w1.heap.size w1 W → Calls Tryz.prog 31 #[xv eo en enm (.slice p4 k4 c4), sv] W fun e w' => e = .returned (.int .i64 V) ∧ Below W.heap.size W w') := VC0; have HC1 : Hid (∀ W, Below w1.heap.size w1 W → Calls Tryz.prog 32 #[.slice p8 k8 c8, .agg #[.string cnm, .string par, .slice pf KF cf, .slice pb kb cb], sv] W fun e w' => e = .returned (.bool b1) ∧ Below W.heap.size W w') := HC10; have HC2 : Hid (∀ W, Below w1.heap.size w1 W → Calls Tryz.prog 32 #[.slice p9 k9 c9, .agg #[.string cnm, .string par, .slice pf KF cf, .slice pb kb cb], sv] W fun e w' => e = .returned (.bool b2) ∧ Below W.heap.size W w') := HC20; have SZ : Hid (∀ W, Below w1.heap.size w1 W → Calls Tryz.prog 63 #[.agg #[.string cnm, .string par, .slice pf KF cf, .slice pb kb cb], .string anm] W fun e w' => e = .returned (.int .i64 n) ∧ Below W.heap.size W w') := SZ0; have HIE := HIE0; clear SZ0 HIE0; have d0 := bk.c 0 _ rfl; have d1 := bk.c 1 _ rfl; have d2 := bk.c 2 _ rfl; have d3 := bk.c 3 _ rfl; have d4 := bk.c 4 _ rfl; have d5 := bk.c 5 _ rfl; have d6 := bk.c 6 _ rfl; have d8 := bk.c 8 _ rfl; have d9 := bk.c 9 _ rfl; clear HBX bk VC0 HC10 HC20 hbw1; by_cases k1 : kd = 1
        · subst k1; by_cases v0 : V = 0
          · subst v0; have HFL : Hid (hoL fs env l = false) := Lib.hid (HNO.out (by rw [HOJ.out]; rfl)); clear HC1 HC2 HOJ HNO HYES HIE; go_wp2_with (first
              | (go_at_call 31; ((with_reducible refine (VC.out _ HY.out).mono ?_); rintro e wv ⟨rfl, hb⟩; have HX := Lib.hid (HX.out.then_ hb); have HY := Lib.hid (HY.out.then_ hb); have HK := Lib.hid (HK.out.stay hb); (try clear a0 a1 a2 a3); have F3 := H3.out.stay HX.out; have a0 := F3.c0; have a1 := F3.c1; have a2 := F3.c2; have a3 := F3.c3; clear F3; (try clear d0); (try clear d1 d2 d3 d4); (try clear d5); (try clear d6); (try clear d8); (try clear d9); have d0 := HK.out.c 0 _ rfl; have d5 := HK.out.c 5 _ rfl; have d6 := HK.out.c 6 _ rfl; have d8 := HK.out.c 8 _ rfl; have d9 := HK.out.c 9 _ rfl; clear hb)))
            go_ret; exact ⟨congrArg (fun b => Ending.returned (Value.bool b)) HFL.out.symm, HB.out.then_ HX.out⟩
          · have HN : Hid (hoL fs env (l.take (j + 1)) = true) := Lib.hid (HYES.out (by rw [HOJ.out]; show (!decide (V = 0)) = true; rw [decide_eq_false v0]; rfl)); have e0 : (V == 0) = false := (by rw [beq_eq_false_iff_ne]; exact v0); clear HC1 HC2 HOJ HNO HYES HIE v0; go_wp2_with (first
              | (go_at_call 31; ((with_reducible refine (VC.out _ HY.out).mono ?_); rintro e wv ⟨rfl, hb⟩; have HX := Lib.hid (HX.out.then_ hb); have HY := Lib.hid (HY.out.then_ hb); have HK := Lib.hid (HK.out.stay hb); (try clear a0 a1 a2 a3); have F3 := H3.out.stay HX.out; have a0 := F3.c0; have a1 := F3.c1; have a2 := F3.c2; have a3 := F3.c3; clear F3; (try clear d0); (try clear d1 d2 d3 d4); (try clear d5); (try clear d6); (try clear d8); (try clear d9); have d0 := HK.out.c 0 _ rfl; have d5 := HK.out.c 5 _ rfl; have d6 := HK.out.c 6 _ rfl; have d8 := HK.out.c 8 _ rfl; have d9 := HK.out.c 9 _ rfl; clear hb)))
            go_loopw [10] (fun i wr => i = .int .i64 0 ∧ Hid (Below W0.heap.size W0 wr) ∧ Hid (Blk wr w1.heap.size (ics 1 eo en enm (.slice p4 k4 c4) anm aix (.slice p7 k7 c7) (.slice p8 k8 c8) (.slice p9 k9 c9) (.slice p10 k10 c10) (.slice p11 k11 c11)))) (fun _ _ => 0)
            case atStart => exact ⟨rfl, HX, HK⟩
            case round =>
              rename World => w2
              obtain ⟨rfl, BW2, BK2⟩ := hrel; have d0 := BK2.out.c 0 _ rfl; go_wp2; go_roundw
              case rel => exact ⟨j + 1, by omega, by go_num, HN, BW2⟩
              case measure => simp [intOf]; omega
        · have e1 : (kd == 1) = false := (by rw [beq_eq_false_iff_ne]; exact k1); by_cases k4' : kd = 4
          · subst k4'; by_cases v0 : V = 0
            · subst v0; have HO2 : Hid (hoI fs env a = b2) := Lib.hid (by rw [HOJ.out]; rfl); clear HC1 HOJ HIE; cases b2
              · have HFL : Hid (hoL fs env l = false) := Lib.hid (HNO.out HO2.out); clear HO2 HNO HYES; go_wp2_with (first
                  | (go_at_call 31; ((with_reducible refine (VC.out _ HY.out).mono ?_); rintro e wv ⟨rfl, hb⟩; have HX := Lib.hid (HX.out.then_ hb); have HY := Lib.hid (HY.out.then_ hb); have HK := Lib.hid (HK.out.stay hb); (try clear a0 a1 a2 a3); have F3 := H3.out.stay HX.out; have a0 := F3.c0; have a1 := F3.c1; have a2 := F3.c2; have a3 := F3.c3; clear F3; (try clear d0); (try clear d1 d2 d3 d4); (try clear d5); (try clear d6); (try clear d8); (try clear d9); have d0 := HK.out.c 0 _ rfl; have d5 := HK.out.c 5 _ rfl; have d6 := HK.out.c 6 _ rfl; have d8 := HK.out.c 8 _ rfl; have d9 := HK.out.c 9 _ rfl; clear hb))
                  | (go_at_call 32; ((with_reducible refine (HC2.out _ HY.out).mono ?_); rintro e wh ⟨rfl, hb⟩; have HX := Lib.hid (HX.out.then_ hb); have HY := Lib.hid (HY.out.then_ hb); have HK := Lib.hid (HK.out.stay hb); (try clear a0 a1 a2 a3); have F3 := H3.out.stay HX.out; have a0 := F3.c0; have a1 := F3.c1; have a2 := F3.c2; have a3 := F3.c3; clear F3; (try clear d0); (try clear d1 d2 d3 d4); (try clear d5); (try clear d6); (try clear d8); (try clear d9); have d0 := HK.out.c 0 _ rfl; have d5 := HK.out.c 5 _ rfl; have d6 := HK.out.c 6 _ rfl; have d8 := HK.out.c 8 _ rfl; have d9 := HK.out.c 9 _ rfl; clear hb)))
                go_ret; exact ⟨congrArg (fun b => Ending.returned (Value.bool b)) HFL.out.symm, HB.out.then_ HX.out⟩
              · have HN : Hid (hoL fs env (l.take (j + 1)) = true) := Lib.hid (HYES.out HO2.out); clear HO2 HNO HYES; go_wp2_with (first
                  | (go_at_call 31; ((with_reducible refine (VC.out _ HY.out).mono ?_); rintro e wv ⟨rfl, hb⟩; have HX := Lib.hid (HX.out.then_ hb); have HY := Lib.hid (HY.out.then_ hb); have HK := Lib.hid (HK.out.stay hb); (try clear a0 a1 a2 a3); have F3 := H3.out.stay HX.out; have a0 := F3.c0; have a1 := F3.c1; have a2 := F3.c2; have a3 := F3.c3; clear F3; (try clear d0); (try clear d1 d2 d3 d4); (try clear d5); (try clear d6); (try clear d8); (try clear d9); have d0 := HK.out.c 0 _ rfl; have d5 := HK.out.c 5 _ rfl; have d6 := HK.out.c 6 _ rfl; have d8 := HK.out.c 8 _ rfl; have d9 := HK.out.c 9 _ rfl; clear hb))
                  | (go_at_call 32; ((with_reducible refine (HC2.out _ HY.out).mono ?_); rintro e wh ⟨rfl, hb⟩; have HX := Lib.hid (HX.out.then_ hb); have HY := Lib.hid (HY.out.then_ hb); have HK := Lib.hid (HK.out.stay hb); (try clear a0 a1 a2 a3); have F3 := H3.out.stay HX.out; have a0 := F3.c0; have a1 := F3.c1; have a2 := F3.c2; have a3 := F3.c3; clear F3; (try clear d0); (try clear d1 d2 d3 d4); (try clear d5); (try clear d6); (try clear d8); (try clear d9); have d0 := HK.out.c 0 _ rfl; have d5 := HK.out.c 5 _ rfl; have d6 := HK.out.c 6 _ rfl; have d8 := HK.out.c 8 _ rfl; have d9 := HK.out.c 9 _ rfl; clear hb)))
                go_loopw [10] (fun i wr => i = .int .i64 0 ∧ Hid (Below W0.heap.size W0 wr) ∧ Hid (Blk wr w1.heap.size (ics 4 eo en enm (.slice p4 k4 c4) anm aix (.slice p7 k7 c7) (.slice p8 k8 c8) (.slice p9 k9 c9) (.slice p10 k10 c10) (.slice p11 k11 c11)))) (fun _ _ => 0)
                case atStart => exact ⟨rfl, HX, HK⟩
                case round =>
                  rename World => w2
                  obtain ⟨rfl, BW2, BK2⟩ := hrel; have d0 := BK2.out.c 0 _ rfl; go_wp2; go_roundw
                  case rel => exact ⟨j + 1, by omega, by go_num, HN, BW2⟩
                  case measure => simp [intOf]; omega
            · have HO2 : Hid (hoI fs env a = b1) := Lib.hid (by rw [HOJ.out]; show (if V = 0 then b2 else b1) = b1; rw [if_neg v0]); have e0 : (V == 0) = false := (by rw [beq_eq_false_iff_ne]; exact v0); have e0' : (V != 0) = true := (by rw [bne_iff_ne]; exact v0); clear HC2 HOJ HIE v0; cases b1
              · have HFL : Hid (hoL fs env l = false) := Lib.hid (HNO.out HO2.out); clear HO2 HNO HYES; go_wp2_with (first
                  | (go_at_call 31; ((with_reducible refine (VC.out _ HY.out).mono ?_); rintro e wv ⟨rfl, hb⟩; have HX := Lib.hid (HX.out.then_ hb); have HY := Lib.hid (HY.out.then_ hb); have HK := Lib.hid (HK.out.stay hb); (try clear a0 a1 a2 a3); have F3 := H3.out.stay HX.out; have a0 := F3.c0; have a1 := F3.c1; have a2 := F3.c2; have a3 := F3.c3; clear F3; (try clear d0); (try clear d1 d2 d3 d4); (try clear d5); (try clear d6); (try clear d8); (try clear d9); have d0 := HK.out.c 0 _ rfl; have d5 := HK.out.c 5 _ rfl; have d6 := HK.out.c 6 _ rfl; have d8 := HK.out.c 8 _ rfl; have d9 := HK.out.c 9 _ rfl; clear hb))
                  | (go_at_call 32; ((with_reducible refine (HC1.out _ HY.out).mono ?_); rintro e wh ⟨rfl, hb⟩; have HX := Lib.hid (HX.out.then_ hb); have HY := Lib.hid (HY.out.then_ hb); have HK := Lib.hid (HK.out.stay hb); (try clear a0 a1 a2 a3); have F3 := H3.out.stay HX.out; have a0 := F3.c0; have a1 := F3.c1; have a2 := F3.c2; have a3 := F3.c3; clear F3; (try clear d0); (try clear d1 d2 d3 d4); (try clear d5); (try clear d6); (try clear d8); (try clear d9); have d0 := HK.out.c 0 _ rfl; have d5 := HK.out.c 5 _ rfl; have d6 := HK.out.c 6 _ rfl; have d8 := HK.out.c 8 _ rfl; have d9 := HK.out.c 9 _ rfl; clear hb)))
                go_ret; exact ⟨congrArg (fun b => Ending.returned (Value.bool b)) HFL.out.symm, HB.out.then_ HX.out⟩
              · have HN : Hid (hoL fs env (l.take (j + 1)) = true) := Lib.hid (HYES.out HO2.out); clear HO2 HNO HYES; go_wp2_with (first
                  | (go_at_call 31; ((with_reducible refine (VC.out _ HY.out).mono ?_); rintro e wv ⟨rfl, hb⟩; have HX := Lib.hid (HX.out.then_ hb); have HY := Lib.hid (HY.out.then_ hb); have HK := Lib.hid (HK.out.stay hb); (try clear a0 a1 a2 a3); have F3 := H3.out.stay HX.out; have a0 := F3.c0; have a1 := F3.c1; have a2 := F3.c2; have a3 := F3.c3; clear F3; (try clear d0); (try clear d1 d2 d3 d4); (try clear d5); (try clear d6); (try clear d8); (try clear d9); have d0 := HK.out.c 0 _ rfl; have d5 := HK.out.c 5 _ rfl; have d6 := HK.out.c 6 _ rfl; have d8 := HK.out.c 8 _ rfl; have d9 := HK.out.c 9 _ rfl; clear hb))
                  | (go_at_call 32; ((with_reducible refine (HC1.out _ HY.out).mono ?_); rintro e wh ⟨rfl, hb⟩; have HX := Lib.hid (HX.out.then_ hb); have HY := Lib.hid (HY.out.then_ hb); have HK := Lib.hid (HK.out.stay hb); (try clear a0 a1 a2 a3); have F3 := H3.out.stay HX.out; have a0 := F3.c0; have a1 := F3.c1; have a2 := F3.c2; have a3 := F3.c3; clear F3; (try clear d0); (try clear d1 d2 d3 d4); (try clear d5); (try clear d6); (try clear d8); (try clear d9); have d0 := HK.out.c 0 _ rfl; have d5 := HK.out.c 5 _ rfl; have d6 := HK.out.c 6 _ rfl; have d8 := HK.out.c 8 _ rfl; have d9 := HK.out.c 9 _ rfl; clear hb)))
                go_loopw [10] (fun i wr => i = .int .i64 0 ∧ Hid (Below W0.heap.size W0 wr) ∧ Hid (Blk wr w1.heap.size (ics 4 eo en enm (.slice p4 k4 c4) anm aix (.slice p7 k7 c7) (.slice p8 k8 c8) (.slice p9 k9 c9) (.slice p10 k10 c10) (.slice p11 k11 c11)))) (fun _ _ => 0)
                case atStart => exact ⟨rfl, HX, HK⟩
                case round =>
                  rename World => w2
                  obtain ⟨rfl, BW2, BK2⟩ := hrel; have d0 := BK2.out.c 0 _ rfl; go_wp2; go_roundw
                  case rel => exact ⟨j + 1, by omega, by go_num, HN, BW2⟩
                  case measure => simp [intOf]; omega
          · have e4 : (kd == 4) = false := (by rw [beq_eq_false_iff_ne]; exact k4'); clear HC1 HC2; by_cases k5 : kd = 5
            · subst k5; have HOE : Hid (hoI fs env a = (List.range n.toNat).all (fun (k : Nat) => hoL fs ((aix, (k : Int)) :: env) a.it)) := Lib.hid (by rw [HOJ.out]; rfl); clear HOJ; go_wp2_with (first
                | (go_at_call 31; ((with_reducible refine (VC.out _ HY.out).mono ?_); rintro e wv ⟨rfl, hb⟩; have HX := Lib.hid (HX.out.then_ hb); have HY := Lib.hid (HY.out.then_ hb); have HK := Lib.hid (HK.out.stay hb); (try clear a0 a1 a2 a3); have F3 := H3.out.stay HX.out; have a0 := F3.c0; have a1 := F3.c1; have a2 := F3.c2; have a3 := F3.c3; clear F3; (try clear d0); (try clear d1 d2 d3 d4); (try clear d5); (try clear d6); (try clear d8); (try clear d9); have d0 := HK.out.c 0 _ rfl; have d5 := HK.out.c 5 _ rfl; have d6 := HK.out.c 6 _ rfl; have d8 := HK.out.c 8 _ rfl; have d9 := HK.out.c 9 _ rfl; clear hb)))
              clear VC d8 d9 d6 d5 d0 a0 a1 a2 a3; go_loopw [10] (fun i wr => ∃ k : Nat, (k : Int) ≤ n ∧ i = .int .i64 k ∧ Hid (∀ k' : Nat, k' < k → hoL fs ((aix, (k' : Int)) :: env) a.it = true) ∧ Hid (Below W0.heap.size W0 wr) ∧ Hid (Below w1.heap.size w1 wr) ∧ Hid (Blk wr w1.heap.size (ics 5 eo en enm (.slice p4 k4 c4) anm aix (.slice p7 k7 c7) (.slice p8 k8 c8) (.slice p9 k9 c9) (.slice p10 k10 c10) (.slice p11 k11 c11)))) (fun i _ => 9 - (intOf i).toNat)
              case atStart => exact ⟨0, by omega, rfl, Lib.hid fun k' h => absurd h (Nat.not_lt_zero _), HX, HY, HK⟩
              case round =>
                rename World => w2
                obtain ⟨k, hkn, rfl, HAL, HX, HY, HK⟩ := hrel
                (try clear a0 a1 a2 a3); have F3 := H3.out.stay HX.out; have a0 := F3.c0; have a1 := F3.c1; have a2 := F3.c2; have a3 := F3.c3; clear F3
                (try clear d0); (try clear d1 d2 d3 d4); (try clear d5); (try clear d6); (try clear d8); (try clear d9); have d0 := HK.out.c 0 _ rfl; have d5 := HK.out.c 5 _ rfl; have d6 := HK.out.c 6 _ rfl; have d8 := HK.out.c 8 _ rfl; have d9 := HK.out.c 9 _ rfl
                by_cases hk : (k : Int) < n
                · have hk8 : k ≤ 7 := (by omega); have ek : decide ((k : Int) < n) = true := decide_eq_true hk; obtain ⟨b3, hb3⟩ : ∃ b, hoL fs ((aix, (k : Int)) :: env) a.it = b := ⟨_, rfl⟩; have HB3' := Lib.hid hb3; have IE2 : Hid (∀ W sv', Below w1.heap.size w1 W → SigsAt W sv' ((aix, (k : Int)) :: env) → Calls Tryz.prog 32 #[.slice p8 k8 c8, .agg #[.string cnm, .string par, .slice pf KF cf, .slice pb kb cb], sv'] W fun e w' => e = .returned (.bool b3) ∧ Below W.heap.size W w') := Lib.hid fun W sv' hW hs => by
                    have := HIE.out k W sv' hk8 hW hs; rw [hb3] at this; exact this
                  have SGA : Hid (∀ (v3 : Value) (w2 w3 : World), w3.ownsRow w2.heap.size 103 2 v3 (1 + KE) ([.string aix, .int .i64 k] ++ sigCells env) → SigsAt w3 v3 ((aix, (k : Int)) :: env)) := (Lib.hid fun v3 w2 w3 h => sigs_own (l := (aix, (k : Int)) :: env) (by rw [List.length_cons, HKE.out, Nat.add_comm]; exact h) (by rw [List.length_cons, HKE.out]; omega)); clear hb3 HIE; go_wp2_with (go_at_call 11; skip)
                  go_at_call 63
                  refine (SZ.out _ HY.out).mono ?_; rintro e ws ⟨rfl, hb⟩; have HX := Lib.hid (HX.out.then_ hb); have HY := Lib.hid (HY.out.then_ hb); have HK := Lib.hid (HK.out.stay hb)
                  (try clear a0 a1 a2 a3); have F3 := H3.out.stay HX.out; have a0 := F3.c0; have a1 := F3.c1; have a2 := F3.c2; have a3 := F3.c3; clear F3
                  (try clear d0); (try clear d1 d2 d3 d4); (try clear d5); (try clear d6); (try clear d8); (try clear d9); have d0 := HK.out.c 0 _ rfl; have d5 := HK.out.c 5 _ rfl; have d6 := HK.out.c 6 _ rfl; have d8 := HK.out.c 8 _ rfl; have d9 := HK.out.c 9 _ rfl
                  clear hb; have hSE2 := HSE.out.later (HB.out.then_ HX.out); obtain ⟨ps, ce, hsv, _, hce, hps⟩ := hSE2; rw [HKE.out] at hsv hce; have HLIT := Lib.hid (sig_lit ws aix k); have HSV : Hid (SigsAt (ws.alloc (.cells #[.string aix, .int .i64 k] 103)) (.slice ps KE ce) env) := Lib.hid (by rw [← hsv]; exact (HSE.out.later (HB.out.then_ HX.out)).later (ba ws _)); have HXS := Lib.hid HX.out; have HYS := Lib.hid HY.out; have HKS := Lib.hid HK.out; subst hsv; cases ps with
                  | none =>
                    have hen : env = [] := by
                      rcases Nat.eq_zero_or_pos env.length with h | h
                      · exact List.length_eq_zero_iff.1 h
                      · obtain ⟨_, _, e, _⟩ := hps h; cases e
                    have hKE0 : KE = 0 := (by rw [← HKE.out, hen]; rfl); have HSG0 : Hid (SigsAt (ws.alloc (.cells #[.string aix, .int .i64 k] 103)) (.slice (some ⟨ws.heap.size, 0, none⟩) 1 1) ((aix, (k : Int)) :: env)) := Lib.hid (by rw [hen]; exact sigs_own (l := [(aix, (k : Int))]) (sig_lit ws aix k) (by simp)); have HX := Lib.hid (HX.out.then_ (ba ws (.cells #[.string aix, .int .i64 k] 103))); have HY := Lib.hid (HY.out.then_ (ba ws (.cells #[.string aix, .int .i64 k] 103))); have HK := Lib.hid (HK.out.stay (ba ws (.cells #[.string aix, .int .i64 k] 103))); have HSG := HSG0; have d6k := HKS.out.c 6 _ rfl; clear hps hen HXS HYS HKS HSV HLIT HSG0; subst hKE0; cases b3
                    · have HFL : Hid (hoL fs env l = false) := Lib.hid (HNO.out (by
                        rw [HOE.out, Bool.eq_false_iff]; intro e; have := List.all_eq_true.1 e k (List.mem_range.2 (by omega)); rw [HB3'.out] at this; cases this))
                      clear HOE HNO HYES hk hkn
                      (try clear a0 a1 a2 a3)
                      have F3 := H3.out.stay HX.out; have a0 := F3.c0; have a1 := F3.c1; have a2 := F3.c2; have a3 := F3.c3; clear F3
                      (try clear d0)
                      (try clear d1 d2 d3 d4)
                      (try clear d5)
                      (try clear d6)
                      (try clear d8)
                      (try clear d9)
                      have d0 := HK.out.c 0 _ rfl; have d5 := HK.out.c 5 _ rfl; have d6 := HK.out.c 6 _ rfl; have d8 := HK.out.c 8 _ rfl; have d9 := HK.out.c 9 _ rfl; go_wp2_with (first
                        | (go_at_call 32; ((with_reducible refine (IE2.out _ _ HY.out HSG.out).mono ?_); rintro e wh ⟨rfl, hb⟩; have HX := Lib.hid (HX.out.then_ hb); have HY := Lib.hid (HY.out.then_ hb); have HK := Lib.hid (HK.out.stay hb); clear hb)))
                      go_ret; exact ⟨congrArg (fun b => Ending.returned (Value.bool b)) HFL.out.symm, HB.out.then_ HX.out⟩
                    · have HAL2 : Hid (∀ k' : Nat, k' < k + 1 → hoL fs ((aix, (k' : Int)) :: env) a.it = true) := Lib.hid fun k' hk' => by
                        by_cases e : k' = k
                        · rw [e]; exact HB3'.out
                        · exact HAL.out k' (by omega)
                      have hk1 : ((k + 1 : Nat) : Int) ≤ n := (by omega); clear hkn hk
                      (try clear a0 a1 a2 a3)
                      have F3 := H3.out.stay HX.out; have a0 := F3.c0; have a1 := F3.c1; have a2 := F3.c2; have a3 := F3.c3; clear F3
                      (try clear d0)
                      (try clear d1 d2 d3 d4)
                      (try clear d5)
                      (try clear d6)
                      (try clear d8)
                      (try clear d9)
                      have d0 := HK.out.c 0 _ rfl; have d5 := HK.out.c 5 _ rfl; have d6 := HK.out.c 6 _ rfl; have d8 := HK.out.c 8 _ rfl; have d9 := HK.out.c 9 _ rfl; go_wp2_with (first
                        | (go_at_call 32; ((with_reducible refine (IE2.out _ _ HY.out HSG.out).mono ?_); rintro e wh ⟨rfl, hb⟩; have HX := Lib.hid (HX.out.then_ hb); have HY := Lib.hid (HY.out.then_ hb); have HK := Lib.hid (HK.out.stay hb); clear hb)))
                      go_roundw
                      case rel => exact ⟨k + 1, hk1, by go_num, HAL2, HX, HY, HK⟩
                      case measure => simp [intOf]; omega
                  | some ad =>
                    have HNW : Hid (∀ j u, (sigCells env)[j]? = some u → (ws.alloc (.cells #[.string aix, .int .i64 k] 103)).cell? (ad.add j) = some u) := Lib.hid (sigs_news (cap := ce) (by rw [HKE.out]; exact HSV.out)); clear hps HSV HXS HYS HKS; cases b3
                    · have HFL : Hid (hoL fs env l = false) := Lib.hid (HNO.out (by
                        rw [HOE.out, Bool.eq_false_iff]; intro e; have := List.all_eq_true.1 e k (List.mem_range.2 (by omega)); rw [HB3'.out] at this; cases this))
                      clear HOE HNO HYES hk hkn; go_wp2_with (first
                        | (at_builtin; go_loud (refine wpList_append_own _ rfl _ _ 51 rfl ws.heap.size 103 i0 (.agg #[.string ⟨#[]⟩, .int .i64 0]) 2 24 Tryz.underlying51 hi hz0 hz1 hz2 rfl (by decide) _ 1 [.string aix, .int .i64 k] rfl HLIT.out ad KE ce (sigCells env) rfl (by rw [sigCells_len, HKE.out]) HNW.out (sigCells_one env) (by unfold maxLen; omega) (by omega) (by simp) ?_); intro v3 w3 hown hgrow _; have HB3 := Lib.hid ((ba ws (.cells #[.string aix, .int .i64 k] 103)).grown hgrow (by simp) (fun k' e => Nat.le_of_eq (by have e' : (Value.slice (some ⟨ws.heap.size, 0, none⟩) 1 1).ownBlock = some k' := e; simpa [Value.ownBlock] using e'))); have HX := Lib.hid (HX.out.then_ HB3.out); have HY := Lib.hid (HY.out.then_ HB3.out); have HK := Lib.hid (HK.out.stay HB3.out); have HSG := Lib.hid (SGA.out v3 ws w3 hown); (try clear a0 a1 a2 a3); have F3 := H3.out.stay HX.out; have a0 := F3.c0; have a1 := F3.c1; have a2 := F3.c2; have a3 := F3.c3; clear F3; (try clear d0); (try clear d1 d2 d3 d4); (try clear d5); (try clear d6); (try clear d8); (try clear d9); have d0 := HK.out.c 0 _ rfl; have d5 := HK.out.c 5 _ rfl; have d6 := HK.out.c 6 _ rfl; have d8 := HK.out.c 8 _ rfl; have d9 := HK.out.c 9 _ rfl; clear hown hgrow)
                        | (go_at_call 32; ((with_reducible refine (IE2.out _ _ HY.out HSG.out).mono ?_); rintro e wh ⟨rfl, hb⟩; have HX := Lib.hid (HX.out.then_ hb); have HY := Lib.hid (HY.out.then_ hb); have HK := Lib.hid (HK.out.stay hb); clear hb)))
                      go_ret; exact ⟨congrArg (fun b => Ending.returned (Value.bool b)) HFL.out.symm, HB.out.then_ HX.out⟩
                    · have HAL2 : Hid (∀ k' : Nat, k' < k + 1 → hoL fs ((aix, (k' : Int)) :: env) a.it = true) := Lib.hid fun k' hk' => by
                        by_cases e : k' = k
                        · rw [e]; exact HB3'.out
                        · exact HAL.out k' (by omega)
                      have hk1 : ((k + 1 : Nat) : Int) ≤ n := (by omega); clear hkn hk; go_wp2_with (first
                        | (at_builtin; go_loud (refine wpList_append_own _ rfl _ _ 51 rfl ws.heap.size 103 i0 (.agg #[.string ⟨#[]⟩, .int .i64 0]) 2 24 Tryz.underlying51 hi hz0 hz1 hz2 rfl (by decide) _ 1 [.string aix, .int .i64 k] rfl HLIT.out ad KE ce (sigCells env) rfl (by rw [sigCells_len, HKE.out]) HNW.out (sigCells_one env) (by unfold maxLen; omega) (by omega) (by simp) ?_); intro v3 w3 hown hgrow _; have HB3 := Lib.hid ((ba ws (.cells #[.string aix, .int .i64 k] 103)).grown hgrow (by simp) (fun k' e => Nat.le_of_eq (by have e' : (Value.slice (some ⟨ws.heap.size, 0, none⟩) 1 1).ownBlock = some k' := e; simpa [Value.ownBlock] using e'))); have HX := Lib.hid (HX.out.then_ HB3.out); have HY := Lib.hid (HY.out.then_ HB3.out); have HK := Lib.hid (HK.out.stay HB3.out); have HSG := Lib.hid (SGA.out v3 ws w3 hown); (try clear a0 a1 a2 a3); have F3 := H3.out.stay HX.out; have a0 := F3.c0; have a1 := F3.c1; have a2 := F3.c2; have a3 := F3.c3; clear F3; (try clear d0); (try clear d1 d2 d3 d4); (try clear d5); (try clear d6); (try clear d8); (try clear d9); have d0 := HK.out.c 0 _ rfl; have d5 := HK.out.c 5 _ rfl; have d6 := HK.out.c 6 _ rfl; have d8 := HK.out.c 8 _ rfl; have d9 := HK.out.c 9 _ rfl; clear hown hgrow)
                        | (go_at_call 32; ((with_reducible refine (IE2.out _ _ HY.out HSG.out).mono ?_); rintro e wh ⟨rfl, hb⟩; have HX := Lib.hid (HX.out.then_ hb); have HY := Lib.hid (HY.out.then_ hb); have HK := Lib.hid (HK.out.stay hb); clear hb)))
                      go_roundw
                      case rel => exact ⟨k + 1, hk1, by go_num, HAL2, HX, HY, HK⟩
                      case measure => simp [intOf]; omega
                · have ek : decide ((k : Int) < n) = false := decide_eq_false hk; have HN : Hid (hoL fs env (l.take (j + 1)) = true) := Lib.hid (HYES.out (by
                    rw [HOE.out, List.all_eq_true]; intro k' hk'; have := List.mem_range.1 hk'; exact HAL.out k' (by omega)))
                  clear HOE HNO HYES HIE hk hkn; go_wp2_with (first
                    | (go_at_call 63; ((with_reducible refine (SZ.out _ HY.out).mono ?_); rintro e ws ⟨rfl, hb⟩; have HX := Lib.hid (HX.out.then_ hb); have HY := Lib.hid (HY.out.then_ hb); have HK := Lib.hid (HK.out.stay hb); (try clear a0 a1 a2 a3); have F3 := H3.out.stay HX.out; have a0 := F3.c0; have a1 := F3.c1; have a2 := F3.c2; have a3 := F3.c3; clear F3; (try clear d0); (try clear d1 d2 d3 d4); (try clear d5); (try clear d6); (try clear d8); (try clear d9); have d0 := HK.out.c 0 _ rfl; have d5 := HK.out.c 5 _ rfl; have d6 := HK.out.c 6 _ rfl; have d8 := HK.out.c 8 _ rfl; have d9 := HK.out.c 9 _ rfl; clear hb)))
                  go_roundw
                  case rel => exact ⟨j + 1, by omega, by go_num, HN, HX⟩
                  case measure => simp [intOf]; omega
            · have e5 : (kd == 5) = false := (by rw [beq_eq_false_iff_ne]; exact k5); have HN : Hid (hoL fs env (l.take (j + 1)) = true) := Lib.hid (HYES.out (by rw [HOJ.out, if_neg k1, if_neg k4', if_neg k5])); clear HOJ HNO HYES HIE k1 k4' k5; go_wp2_with (first
                | (go_at_call 31; ((with_reducible refine (VC.out _ HY.out).mono ?_); rintro e wv ⟨rfl, hb⟩; have HX := Lib.hid (HX.out.then_ hb); have HY := Lib.hid (HY.out.then_ hb); have HK := Lib.hid (HK.out.stay hb); (try clear a0 a1 a2 a3); have F3 := H3.out.stay HX.out; have a0 := F3.c0; have a1 := F3.c1; have a2 := F3.c2; have a3 := F3.c3; clear F3; (try clear d0); (try clear d1 d2 d3 d4); (try clear d5); (try clear d6); (try clear d8); (try clear d9); have d0 := HK.out.c 0 _ rfl; have d5 := HK.out.c 5 _ rfl; have d6 := HK.out.c 6 _ rfl; have d8 := HK.out.c 8 _ rfl; have d9 := HK.out.c 9 _ rfl; clear hb)))
              go_loopw [10] (fun i wr => i = .int .i64 0 ∧ Hid (Below W0.heap.size W0 wr) ∧ Hid (Blk wr w1.heap.size (ics kd eo en enm (.slice p4 k4 c4) anm aix (.slice p7 k7 c7) (.slice p8 k8 c8) (.slice p9 k9 c9) (.slice p10 k10 c10) (.slice p11 k11 c11)))) (fun _ _ => 0)
              case atStart => exact ⟨rfl, HX, HK⟩
              case round =>
                rename World => w2
                obtain ⟨rfl, BW2, BK2⟩ := hrel; have d0 := BK2.out.c 0 _ rfl; go_wp2; go_roundw
                case rel => exact ⟨j + 1, by omega, by go_num, HN, BW2⟩
                case measure => simp [intOf]; omega
      · have HFL : Hid (hoL fs env l = true) := Lib.hid (by have := HT.out; rw [List.take_of_length_le (by rw [HLK.out]; omega)] at this; exact this); go_wp2; go_ret; exact ⟨congrArg (fun b => Ending.returned (Value.bool b)) HFL.out.symm, HB.out.then_ BW.out⟩
end Go.Proofs.YtpejflgdehioaaaGreatDoor.ItW
