/-
  Laws that the card uses; no conditions beside those that each states (ItFlt1 ItIdx ItIdx2).
-/
import Derived.Test.YtpejflgdehioaaaGreatDoorR08
namespace Go.Proofs.YtpejflgdehioaaaGreatDoor.ItW
open Go Go.RowKit Go.Proofs.YtpejflgdehioaaaGreatDoor.NumM Go.Proofs.YtpejflgdehioaaaGreatDoor.LexW Go.Proofs.YtpejflgdehioaaaGreatDoor.LexM Go.Proofs.YtpejflgdehioaaaGreatDoor.ExM Go.Proofs.YtpejflgdehioaaaGreatDoor.ExW Go.Proofs.YtpejflgdehioaaaGreatDoor.ItM
theorem out_any (k : Int) (w : World) : Calls Tryz.prog 73 #[.int .i64 k] w fun e w' => e = .returned (.bool (outK k)) ∧ w = w' := by
  by_cases h3 : k = 3
  · subst h3
    go_enter Tryz.func73, Tryz.ntmps73
    go_wp2; go_ret; exact ⟨rfl, rfl⟩
  · have q3 : (k == 3) = false := (by rw [beq_eq_false_iff_ne]; exact h3); have EE : Hid (outK k = (k == 6)) := Lib.hid (by unfold outK; rw [decide_eq_false h3, Bool.eq_iff_iff]; simp); clear h3
    go_enter Tryz.func73, Tryz.ntmps73
    go_wp2; go_ret; exact ⟨retb (by rw [EE.out]), rfl⟩
theorem wrongW_eq (lo hi wt : Int) (ea : Bool) : wrongW ⟨lo, hi, wt, ea⟩ = (decide (lo < 0) || (decide (hi < lo) || (decide (65535 < hi) || (decide (wt < 0) || decide (1000 < wt))))) := rfl
set_option maxHeartbeats 1000000 in
theorem isWrong_any (t : Wt) (w : World) : Calls Tryz.prog 116 #[.agg #[.int .i64 t.lo, .int .i64 t.hi, .int .i64 t.wt, .bool t.ea]] w (tBool (wrongW t) w) := by
  obtain ⟨lo, hi, wt, ea⟩ := t; simp only; have F0 := Blk.new w [.int .i64 lo, .int .i64 hi, .int .i64 wt, .bool ea] 130; have c0 := F0.c 0 _ rfl; have c1 := F0.c 1 _ rfl; have c2 := F0.c 2 _ rfl; have HB := Lib.hid (ba w (.cells #[.int .i64 lo, .int .i64 hi, .int .i64 wt, .bool ea] 130)); have EE := Lib.hid (wrongW_eq lo hi wt ea); clear F0; by_cases h1 : lo < 0
  · have E : Hid (wrongW ⟨lo, hi, wt, ea⟩ = true) := Lib.hid (by rw [EE.out, decide_eq_true h1]; rfl)
    go_enter Tryz.func116, Tryz.ntmps116
    go_wp2; go_ret; exact tBool_mk E.out.symm HB.out
  · by_cases h2 : hi < lo
    · have E : Hid (wrongW ⟨lo, hi, wt, ea⟩ = true) := Lib.hid (by rw [EE.out, decide_eq_false h1, decide_eq_true h2]; rfl)
      go_enter Tryz.func116, Tryz.ntmps116
      go_wp2; go_ret; exact tBool_mk E.out.symm HB.out
    · by_cases h3 : 65535 < hi
      · have E : Hid (wrongW ⟨lo, hi, wt, ea⟩ = true) := Lib.hid (by rw [EE.out, decide_eq_false h1, decide_eq_false h2, decide_eq_true h3]; rfl)
        go_enter Tryz.func116, Tryz.ntmps116
        go_wp2; go_ret; exact tBool_mk E.out.symm HB.out
      · by_cases h4 : wt < 0
        · have E : Hid (wrongW ⟨lo, hi, wt, ea⟩ = true) := Lib.hid (by rw [EE.out, decide_eq_false h1, decide_eq_false h2, decide_eq_false h3, decide_eq_true h4]; rfl)
          go_enter Tryz.func116, Tryz.ntmps116
          go_wp2; go_ret; exact tBool_mk E.out.symm HB.out
        · by_cases h5 : 1000 < wt
          · have E : Hid (wrongW ⟨lo, hi, wt, ea⟩ = true) := Lib.hid (by rw [EE.out, decide_eq_false h1, decide_eq_false h2, decide_eq_false h3, decide_eq_false h4, decide_eq_true h5]; rfl)
            go_enter Tryz.func116, Tryz.ntmps116
            go_wp2; go_ret; exact tBool_mk E.out.symm HB.out
          · have E : Hid (wrongW ⟨lo, hi, wt, ea⟩ = false) := Lib.hid (by rw [EE.out, decide_eq_false h1, decide_eq_false h2, decide_eq_false h3, decide_eq_false h4, decide_eq_false h5]; rfl)
            go_enter Tryz.func116, Tryz.ntmps116
            go_wp2; go_ret; exact tBool_mk E.out.symm HB.out
theorem vld_var (s : ByteArray) : decide (vld (.mk 2 0 s []) = 0) = varB s.data.toList := by
  rw [Bool.eq_iff_iff, decide_eq_true_eq, vld_zero, ok_mk, sz_mk, dep_mk, szs_nil, deps_nil]; constructor
  · rintro ⟨⟨h, _⟩, _⟩; unfold fltS at h; split at h
    · cases h
    · split at h
      · cases h
      · rename_i hb
        simpa [badN, isVr, isAr] using hb
  · intro h; refine ⟨⟨?_, fun a ha => by cases ha⟩, by omega, by omega⟩; unfold fltS; rw [if_neg (by simp [badA, isVr, isAr, takesS, arS, greatS]), if_neg (by simp [badN, isVr, isAr, h])]
set_option maxHeartbeats 1000000 in
theorem noVar_any (s : ByteArray) (w : World) (hs : s.size ≤ 140737488351232) (ht : Tab w) : Calls Tryz.prog 117 #[.string s] w (tBool (noVar s) w) := by
  have hx : ExAt w.heap.size w (xv 2 0 s (.slice none 0 0)) (.mk 2 0 s []) := .of hs (ArgsAt.nil w.heap.size w none 0); have VC := Lib.hid (valid_any (.mk 2 0 s []) _ w hx (by rw [sz_mk, szs_nil]; omega) ht); have hv := vld_var s; have hr := vld_range (.mk 2 0 s []); clear hx; obtain ⟨z, hz⟩ : ∃ z, vld (.mk 2 0 s []) = z := ⟨_, rfl⟩; rw [hz] at VC hv hr; have HZ := Lib.hid hz; clear hz; by_cases h0 : z = 0
  · subst h0; have E : Hid (false = noVar s) := Lib.hid (by unfold noVar; rw [← hv]; rfl)
    go_enter Tryz.func117, Tryz.ntmps117
    go_wp2_with (go_at_call 55; ((with_reducible refine VC.out.mono ?_); rintro e w1 ⟨rfl, hb⟩; have HB := Lib.hid hb; clear hb))
    go_ret; exact tBool_mk E.out HB.out
  · have q : (z != 0) = true := (by simpa using h0); have E : Hid (true = noVar s) := Lib.hid (by unfold noVar; rw [← hv, decide_eq_false h0]; rfl)
    go_enter Tryz.func117, Tryz.ntmps117
    go_wp2_with (go_at_call 55; ((with_reducible refine VC.out.mono ?_); rintro e w1 ⟨rfl, hb⟩; have HB := Lib.hid hb; clear hb))
    go_ret; exact tBool_mk E.out HB.out
def hfB (z a b : Bool) (k : Nat) : Bool := !z || (!a || (!b || decide (0 < k)))
set_option maxRecDepth 100000 in
set_option maxHeartbeats 8000000 in
theorem hasFields_any (kd o n : Int) (en : ByteArray) (p4 : Option Addr) (k4 c4 : Nat) (nm ix : ByteArray) (p7 : Option Addr) (k7 c7 : Nat) (p8 : Option Addr) (k8 c8 : Nat) (p9 : Option Addr) (k9 c9 : Nat) (p10 : Option Addr) (k10 c10 : Nat) (p11 : Option Addr) (k11 c11 : Nat) (e : Ex) (w : World)
    (hx : ExAt w.heap.size w (xv o n en (.slice p4 k4 c4)) e) (hsz : sz e ≤ 10000) (h7 : k7 ≤ 140737488351232) (h8 : k8 ≤ 140737488351232) (h9 : k9 ≤ 140737488351232) (h10 : k10 ≤ 140737488351232) (h11 : k11 ≤ 140737488351232) :
    Calls Tryz.prog 72 #[iv kd o n en (.slice p4 k4 c4) nm ix (.slice p7 k7 c7) (.slice p8 k8 c8) (.slice p9 k9 c9) (.slice p10 k10 c10) (.slice p11 k11 c11)] w (tBool (hfB (zB e) (isEmp nm) (isEmp ix) (k7 + k8 + k9 + k10 + k11)) w) := by
  obtain ⟨cs, hcs⟩ : ∃ cs, cs = ics kd o n en (.slice p4 k4 c4) nm ix (.slice p7 k7 c7) (.slice p8 k8 c8) (.slice p9 k9 c9) (.slice p10 k10 c10) (.slice p11 k11 c11) := ⟨_, rfl⟩; have F0 := Blk.new w cs 55; have HB := Lib.hid (ba w (.cells cs.toArray 55)); have SC : Hid (Calls Tryz.prog 114 #[xv o n en (.slice p4 k4 c4), xv 0 0 ⟨#[]⟩ (.slice none 0 0)] (w.alloc (.cells cs.toArray 55)) (tBool (eqB e zE) (w.alloc (.cells cs.toArray 55)))) := Lib.hid
    (same_any e zE w.heap.size _ _ _ (hx.under HB.out) (.of (by decide) (ArgsAt.nil _ _ none 0)) (by simp) hsz)
  rw [eqB_zE] at SC; subst hcs; have d1 := F0.c 1 _ rfl; have d2 := F0.c 2 _ rfl; have d3 := F0.c 3 _ rfl; have d4 := F0.c 4 _ rfl; have d5 := F0.c 5 _ rfl; have d6 := F0.c 6 _ rfl; have d7 := F0.c 7 _ rfl; have d8 := F0.c 8 _ rfl; have d9 := F0.c 9 _ rfl; have d10 := F0.c 10 _ rfl; have d11 := F0.c 11 _ rfl; have hn := isEmp_toList nm; have hi := isEmp_toList ix; have HF := Lib.hid F0; have EE : ∀ z a b k, Hid (hfB z a b k = (!z || (!a || (!b || decide (0 < k))))) := (fun z a b k => Lib.hid rfl); clear F0 hx hsz; generalize isEmp nm = a at *
  generalize isEmp ix = b at *
  generalize zB e = z at *
  cases z
  · go_enter Tryz.func72, Tryz.ntmps72
    go_wp2_with (go_at_call 114; ((with_reducible refine SC.out.mono ?_); rintro e w1 ⟨rfl, hb⟩; have HB1 := Lib.hid (HB.out.then_ hb); clear hb))
    go_ret; exact ⟨rfl, HB1.out⟩
  · cases a
    · go_enter Tryz.func72, Tryz.ntmps72
      go_wp2_with (go_at_call 114; ((with_reducible refine SC.out.mono ?_); rintro e w1 ⟨rfl, hb⟩; have HB1 := Lib.hid (HB.out.then_ hb); have F1 := HF.out.stay hb; have d5 := F1.c 5 _ rfl; have d6 := F1.c 6 _ rfl; clear hb F1))
      go_ret; exact ⟨rfl, HB1.out⟩
    · cases b
      · go_enter Tryz.func72, Tryz.ntmps72
        go_wp2_with (go_at_call 114; ((with_reducible refine SC.out.mono ?_); rintro e w1 ⟨rfl, hb⟩; have HB1 := Lib.hid (HB.out.then_ hb); have F1 := HF.out.stay hb; have d5 := F1.c 5 _ rfl; have d6 := F1.c 6 _ rfl; clear hb F1))
        go_ret; exact ⟨rfl, HB1.out⟩
      · by_cases hk : 0 < k7 + k8 + k9 + k10 + k11
        · have E : Hid (true = hfB true true true (k7 + k8 + k9 + k10 + k11)) := Lib.hid (by rw [(EE _ _ _ _).out, decide_eq_true hk]; rfl); have q : decide ((0 : Int) < (k7 : Int) + (k8 : Int) + (k9 : Int) + (k10 : Int) + (k11 : Int)) = true := decide_eq_true (by omega)
          go_enter Tryz.func72, Tryz.ntmps72
          go_wp2_with (go_at_call 114; ((with_reducible refine SC.out.mono ?_); rintro e w1 ⟨rfl, hb⟩; have HB1 := Lib.hid (HB.out.then_ hb); have F1 := HF.out.stay hb; have d5 := F1.c 5 _ rfl; have d6 := F1.c 6 _ rfl; clear hb F1))
          go_ret; exact tBool_mk E.out HB1.out
        · have E : Hid (false = hfB true true true (k7 + k8 + k9 + k10 + k11)) := Lib.hid (by rw [(EE _ _ _ _).out, decide_eq_false hk]; rfl); have q : decide ((0 : Int) < (k7 : Int) + (k8 : Int) + (k9 : Int) + (k10 : Int) + (k11 : Int)) = false := decide_eq_false (by omega)
          go_enter Tryz.func72, Tryz.ntmps72
          go_wp2_with (go_at_call 114; ((with_reducible refine SC.out.mono ?_); rintro e w1 ⟨rfl, hb⟩; have HB1 := Lib.hid (HB.out.then_ hb); have F1 := HF.out.stay hb; have d5 := F1.c 5 _ rfl; have d6 := F1.c 6 _ rfl; clear hb F1))
          go_ret; exact tBool_mk E.out HB1.out
theorem any_next {α : Type} {l : List α} {q : α → Bool} {j : Nat} {c : α} (h : l[j]? = some c) (hq : q c = false) (hp : (l.take j).any q = false) : (l.take (j + 1)).any q = false := by
  obtain ⟨hj, he⟩ := List.getElem?_eq_some_iff.1 h; rw [List.take_succ_eq_append_getElem hj, List.any_append, hp, he]; simp [hq]
theorem any_at {α : Type} {l : List α} {q : α → Bool} {j : Nat} {c : α} (h : l[j]? = some c) (hq : q c = true) : l.any q = true := List.any_eq_true.2 ⟨c, List.mem_of_getElem? h, hq⟩
set_option maxRecDepth 100000 in
set_option maxHeartbeats 4000000 in
theorem noVar_ix (l : List ByteArray) (q : ByteArray → Bool) (v : Value) (N : Nat) (w : World) (ha : StA N w v l) (hN : N ≤ w.heap.size) (hq : ∀ s ∈ l, ∀ W, Below w.heap.size w W → s.size ≤ 140737488351232 → Calls Tryz.prog 117 #[.string s] W (tBool (q s) W)) :
    Calls Tryz.prog 126 #[v, .func (.func 117) #[] #[]] w fun e w' => ∃ r : Int, e = .returned (.int .i64 r) ∧ (-1 ≤ r ∧ r ≤ 140737488351232) ∧ decide (0 ≤ r) = l.any q ∧ Below w.heap.size w w' := by
  obtain ⟨p, cap, rfl, hl, hc0, hz, hp⟩ := ha; have HP := Lib.hid hp; have HZ := Lib.hid hz; clear hp hz; have HQ := Lib.hid hq; obtain ⟨K, hK⟩ : ∃ K, l.length = K := ⟨_, rfl⟩; have HK := Lib.hid hK; rw [hK] at hl ⊢; have hk : K ≤ 140737488351232 := (by omega); clear hK hl hq; have HB0 := Lib.hid (Below.refl w.heap.size w)
  go_enter Tryz.func126, Tryz.ntmps126
  go_wp2; go_loopw [8] (fun i wr => ∃ j : Nat, j ≤ K ∧ i = .int .i64 j ∧ Hid ((l.take j).any q = false) ∧ Hid (Below w.heap.size w wr)) (fun i _ => K - (intOf i).toNat)
  case atStart => exact ⟨0, Nat.zero_le _, rfl, Lib.hid rfl, HB0⟩
  case round =>
    obtain ⟨j, hj, rfl, FN, BW⟩ := hrel; by_cases hlt : j < K
    · obtain ⟨c, hc⟩ : ∃ c, l[j]? = some c := ⟨_, List.getElem?_eq_getElem (by rw [HK.out]; exact hlt)⟩; have hbw : Below N w wr := BW.out.mono hN; obtain ⟨b, off, rfl, hb, hcell⟩ := HP.out (by rw [HK.out]; omega); have c0 := low_cells hbw _ _ hb _ (hcell j c hc); have CC := Lib.hid (HQ.out c (List.mem_of_getElem? hc) wr BW.out (HZ.out c (List.mem_of_getElem? hc))); clear hcell; have HC := Lib.hid hc; clear hc hbw; cases hs : q c
      · have FN2 := Lib.hid (any_next HC.out hs FN.out); rw [hs] at CC; clear hs; go_wp2_with (go_at_call 117; ((with_reducible refine CC.out.mono ?_); rintro e w1 ⟨rfl, hb1⟩; have HB1 := Lib.hid (BW.out.then_ hb1); clear hb1))
        go_roundw
        case rel => exact ⟨j + 1, by omega, by go_num, FN2, HB1⟩
        case measure => simp [intOf]; omega
      · have FS := Lib.hid (any_at HC.out hs); rw [hs] at CC; clear hs; go_wp2_with (go_at_call 117; ((with_reducible refine CC.out.mono ?_); rintro e w1 ⟨rfl, hb1⟩; have HB1 := Lib.hid (BW.out.then_ hb1); clear hb1))
        go_ret; exact ⟨_, rfl, by omega, by rw [FS.out]; exact decide_eq_true (by omega), HB1.out⟩
    · have FN2 : Hid (l.any q = false) := Lib.hid (by have := FN.out; rw [List.take_of_length_le (by rw [HK.out]; omega)] at this; exact this); go_wp2; go_ret; exact ⟨_, rfl, by omega, by rw [FN2.out]; rfl, BW.out⟩
set_option maxRecDepth 100000 in
set_option maxHeartbeats 4000000 in
theorem noVar_has (l : List ByteArray) (q : ByteArray → Bool) (v : Value) (N : Nat) (w : World) (ha : StA N w v l) (hN : N ≤ w.heap.size) (hq : ∀ s ∈ l, ∀ W, Below w.heap.size w W → s.size ≤ 140737488351232 → Calls Tryz.prog 117 #[.string s] W (tBool (q s) W)) :
    Calls Tryz.prog 82 #[v, .func (.func 117) #[] #[]] w (tBool (l.any q) w) := by
  have IC := Lib.hid (noVar_ix l q v N w ha hN hq); have hcc : ∃ p cap, v = .slice p l.length cap := (by obtain ⟨p, cap, e, _⟩ := ha; exact ⟨p, cap, e⟩); obtain ⟨p, cap, rfl⟩ := hcc; clear ha hq; generalize l.any q = c at *
  generalize l.length = K at *
  cases c
  · go_enter Tryz.func82, Tryz.ntmps82
    go_wp2_with (go_at_call 126; ((with_reducible refine IC.out.mono ?_); rintro e w1 ⟨r, rfl, ⟨hr0, hr1⟩, hr, hb⟩; have HB := Lib.hid hb; clear hb))
    go_ret; exact ⟨rfl, HB.out⟩
  · go_enter Tryz.func82, Tryz.ntmps82
    go_wp2_with (go_at_call 126; ((with_reducible refine IC.out.mono ?_); rintro e w1 ⟨r, rfl, ⟨hr0, hr1⟩, hr, hb⟩; have HB := Lib.hid hb; clear hb))
    go_ret; exact ⟨rfl, HB.out⟩
set_option maxRecDepth 100000 in
set_option maxHeartbeats 4000000 in
theorem wrong_ix (l : List Wt) (q : Wt → Bool) (v : Value) (N : Nat) (w : World) (ha : WtA N w v l) (hN : N ≤ w.heap.size) (hq : ∀ t ∈ l, ∀ W, Below w.heap.size w W → Calls Tryz.prog 116 #[.agg #[.int .i64 t.lo, .int .i64 t.hi, .int .i64 t.wt, .bool t.ea]] W (tBool (q t) W)) :
    Calls Tryz.prog 164 #[v, .func (.func 116) #[] #[]] w fun e w' => ∃ r : Int, e = .returned (.int .i64 r) ∧ (-1 ≤ r ∧ r ≤ 140737488351232) ∧ decide (0 ≤ r) = l.any q ∧ Below w.heap.size w w' := by
  obtain ⟨p, cap, rfl, hl, hc0, hp⟩ := ha; have HP := Lib.hid hp; clear hp; have HQ := Lib.hid hq; obtain ⟨K, hK⟩ : ∃ K, l.length = K := ⟨_, rfl⟩; have HK := Lib.hid hK; rw [hK] at hl ⊢; have hk : K ≤ 140737488351232 := (by omega); clear hK hl hq; have HB0 := Lib.hid (Below.refl w.heap.size w)
  go_enter Tryz.func164, Tryz.ntmps164
  go_wp2; go_loopw [8] (fun i wr => ∃ j : Nat, j ≤ K ∧ i = .int .i64 j ∧ Hid ((l.take j).any q = false) ∧ Hid (Below w.heap.size w wr)) (fun i _ => K - (intOf i).toNat)
  case atStart => exact ⟨0, Nat.zero_le _, rfl, Lib.hid rfl, HB0⟩
  case round =>
    obtain ⟨j, hj, rfl, FN, BW⟩ := hrel; by_cases hlt : j < K
    · obtain ⟨c, hc⟩ : ∃ c, l[j]? = some c := ⟨_, List.getElem?_eq_getElem (by rw [HK.out]; exact hlt)⟩; have hbw : Below N w wr := BW.out.mono hN; obtain ⟨b, off, rfl, hb, hcell⟩ := HP.out (by rw [HK.out]; omega); obtain ⟨q0, q1, q2, q3⟩ := hcell j c hc; have c0 := low_cells hbw _ _ hb _ q0; have c1 := low_cells hbw _ _ hb _ q1; have c2 := low_cells hbw _ _ hb _ q2; have c3 := low_cells hbw _ _ hb _ q3; have CC := Lib.hid (HQ.out c (List.mem_of_getElem? hc) wr BW.out); clear hcell q0 q1 q2 q3; have HC := Lib.hid hc; clear hc hbw; cases hs : q c
      · have FN2 := Lib.hid (any_next HC.out hs FN.out); rw [hs] at CC; clear hs; go_wp2_with (go_at_call 116; ((with_reducible refine CC.out.mono ?_); rintro e w1 ⟨rfl, hb1⟩; have HB1 := Lib.hid (BW.out.then_ hb1); clear hb1))
        go_roundw
        case rel => exact ⟨j + 1, by omega, by go_num, FN2, HB1⟩
        case measure => simp [intOf]; omega
      · have FS := Lib.hid (any_at HC.out hs); rw [hs] at CC; clear hs; go_wp2_with (go_at_call 116; ((with_reducible refine CC.out.mono ?_); rintro e w1 ⟨rfl, hb1⟩; have HB1 := Lib.hid (BW.out.then_ hb1); clear hb1))
        go_ret; exact ⟨_, rfl, by omega, by rw [FS.out]; exact decide_eq_true (by omega), HB1.out⟩
    · have FN2 : Hid (l.any q = false) := Lib.hid (by have := FN.out; rw [List.take_of_length_le (by rw [HK.out]; omega)] at this; exact this); go_wp2; go_ret; exact ⟨_, rfl, by omega, by rw [FN2.out]; rfl, BW.out⟩
set_option maxRecDepth 100000 in
set_option maxHeartbeats 4000000 in
theorem wrong_has (l : List Wt) (q : Wt → Bool) (v : Value) (N : Nat) (w : World) (ha : WtA N w v l) (hN : N ≤ w.heap.size) (hq : ∀ t ∈ l, ∀ W, Below w.heap.size w W → Calls Tryz.prog 116 #[.agg #[.int .i64 t.lo, .int .i64 t.hi, .int .i64 t.wt, .bool t.ea]] W (tBool (q t) W)) :
    Calls Tryz.prog 115 #[v, .func (.func 116) #[] #[]] w (tBool (l.any q) w) := by
  have IC := Lib.hid (wrong_ix l q v N w ha hN hq); have hcc : ∃ p cap, v = .slice p l.length cap := (by obtain ⟨p, cap, e, _⟩ := ha; exact ⟨p, cap, e⟩); obtain ⟨p, cap, rfl⟩ := hcc; clear ha hq; generalize l.any q = c at *
  generalize l.length = K at *
  cases c
  · go_enter Tryz.func115, Tryz.ntmps115
    go_wp2_with (go_at_call 164; ((with_reducible refine IC.out.mono ?_); rintro e w1 ⟨r, rfl, ⟨hr0, hr1⟩, hr, hb⟩; have HB := Lib.hid hb; clear hb))
    go_ret; exact ⟨rfl, HB.out⟩
  · go_enter Tryz.func115, Tryz.ntmps115
    go_wp2_with (go_at_call 164; ((with_reducible refine IC.out.mono ?_); rintro e w1 ⟨r, rfl, ⟨hr0, hr1⟩, hr, hb⟩; have HB := Lib.hid hb; clear hb))
    go_ret; exact ⟨rfl, HB.out⟩
set_option maxRecDepth 100000 in
set_option maxHeartbeats 4000000 in
theorem unk_ix (l : List ByteArray) (q : ByteArray → Bool) (v : Value) (N : Nat) (w : World) (ha : StA N w v l) (hN : N ≤ w.heap.size) (mb : Nat) (hq : ∀ s ∈ l, ∀ W, Below w.heap.size w W → s.size ≤ 140737488351232 → Calls Tryz.prog 83 #[.map (some mb), .string s] W (tBool (q s) W)) :
    Calls Tryz.prog 126 #[v, .func (.func 83) #[.map (some mb)] #[]] w fun e w' => ∃ r : Int, e = .returned (.int .i64 r) ∧ (-1 ≤ r ∧ r ≤ 140737488351232) ∧ decide (0 ≤ r) = l.any q ∧ Below w.heap.size w w' := by
  obtain ⟨p, cap, rfl, hl, hc0, hz, hp⟩ := ha; have HP := Lib.hid hp; have HZ := Lib.hid hz; clear hp hz; have HQ := Lib.hid hq; obtain ⟨K, hK⟩ : ∃ K, l.length = K := ⟨_, rfl⟩; have HK := Lib.hid hK; rw [hK] at hl ⊢; have hk : K ≤ 140737488351232 := (by omega); clear hK hl hq; have HB0 := Lib.hid (Below.refl w.heap.size w)
  go_enter Tryz.func126, Tryz.ntmps126
  go_wp2; go_loopw [8] (fun i wr => ∃ j : Nat, j ≤ K ∧ i = .int .i64 j ∧ Hid ((l.take j).any q = false) ∧ Hid (Below w.heap.size w wr)) (fun i _ => K - (intOf i).toNat)
  case atStart => exact ⟨0, Nat.zero_le _, rfl, Lib.hid rfl, HB0⟩
  case round =>
    obtain ⟨j, hj, rfl, FN, BW⟩ := hrel; by_cases hlt : j < K
    · obtain ⟨c, hc⟩ : ∃ c, l[j]? = some c := ⟨_, List.getElem?_eq_getElem (by rw [HK.out]; exact hlt)⟩; have hbw : Below N w wr := BW.out.mono hN; obtain ⟨b, off, rfl, hb, hcell⟩ := HP.out (by rw [HK.out]; omega); have c0 := low_cells hbw _ _ hb _ (hcell j c hc); have CC := Lib.hid (HQ.out c (List.mem_of_getElem? hc) wr BW.out (HZ.out c (List.mem_of_getElem? hc))); clear hcell; have HC := Lib.hid hc; clear hc hbw; cases hs : q c
      · have FN2 := Lib.hid (any_next HC.out hs FN.out); rw [hs] at CC; clear hs; go_wp2_with (go_at_call 83; ((with_reducible refine CC.out.mono ?_); rintro e w1 ⟨rfl, hb1⟩; have HB1 := Lib.hid (BW.out.then_ hb1); clear hb1))
        go_roundw
        case rel => exact ⟨j + 1, by omega, by go_num, FN2, HB1⟩
        case measure => simp [intOf]; omega
      · have FS := Lib.hid (any_at HC.out hs); rw [hs] at CC; clear hs; go_wp2_with (go_at_call 83; ((with_reducible refine CC.out.mono ?_); rintro e w1 ⟨rfl, hb1⟩; have HB1 := Lib.hid (BW.out.then_ hb1); clear hb1))
        go_ret; exact ⟨_, rfl, by omega, by rw [FS.out]; exact decide_eq_true (by omega), HB1.out⟩
    · have FN2 : Hid (l.any q = false) := Lib.hid (by have := FN.out; rw [List.take_of_length_le (by rw [HK.out]; omega)] at this; exact this); go_wp2; go_ret; exact ⟨_, rfl, by omega, by rw [FN2.out]; rfl, BW.out⟩
set_option maxRecDepth 100000 in
set_option maxHeartbeats 4000000 in
theorem unk_has (l : List ByteArray) (q : ByteArray → Bool) (v : Value) (N : Nat) (w : World) (ha : StA N w v l) (hN : N ≤ w.heap.size) (mb : Nat) (hq : ∀ s ∈ l, ∀ W, Below w.heap.size w W → s.size ≤ 140737488351232 → Calls Tryz.prog 83 #[.map (some mb), .string s] W (tBool (q s) W)) :
    Calls Tryz.prog 82 #[v, .func (.func 83) #[.map (some mb)] #[]] w (tBool (l.any q) w) := by
  have IC := Lib.hid (unk_ix l q v N w ha hN mb hq); have hcc : ∃ p cap, v = .slice p l.length cap := (by obtain ⟨p, cap, e, _⟩ := ha; exact ⟨p, cap, e⟩); obtain ⟨p, cap, rfl⟩ := hcc; clear ha hq; generalize l.any q = c at *
  generalize l.length = K at *
  cases c
  · go_enter Tryz.func82, Tryz.ntmps82
    go_wp2_with (go_at_call 126; ((with_reducible refine IC.out.mono ?_); rintro e w1 ⟨r, rfl, ⟨hr0, hr1⟩, hr, hb⟩; have HB := Lib.hid hb; clear hb))
    go_ret; exact ⟨rfl, HB.out⟩
  · go_enter Tryz.func82, Tryz.ntmps82
    go_wp2_with (go_at_call 126; ((with_reducible refine IC.out.mono ?_); rintro e w1 ⟨r, rfl, ⟨hr0, hr1⟩, hr, hb⟩; have HB := Lib.hid hb; clear hb))
    go_ret; exact ⟨rfl, HB.out⟩
set_option maxRecDepth 100000 in
set_option maxHeartbeats 4000000 in
theorem large_ix (l : List It) (q : It → Bool) (v : Value) (N : Nat) (w : World) (ha : ItsA N w v l) (hN : N ≤ w.heap.size) (hq : ∀ x ∈ l, ∀ W a4 a7 a8 a9 a10 a11, Below w.heap.size w W → IV N W a4 a7 a8 a9 a10 a11 x → Calls Tryz.prog 48 #[iv x.kd x.e.op x.e.n x.e.nm a4 x.nm x.ix a7 a8 a9 a10 a11] W (tBool (q x) W)) :
    Calls Tryz.prog 89 #[v, .func (.func 48) #[] #[]] w fun e w' => ∃ r : Int, e = .returned (.int .i64 r) ∧ (-1 ≤ r ∧ r ≤ 140737488351232) ∧ decide (0 ≤ r) = l.any q ∧ Below w.heap.size w w' := by
  obtain ⟨p, cap, V, rfl, hr⟩ := ha.form; have hl := hr.hl; clear ha; have HR := Lib.hid hr; clear hr; have HQ := Lib.hid hq; obtain ⟨K, hK⟩ : ∃ K, l.length = K := ⟨_, rfl⟩; have HK := Lib.hid hK; rw [hK] at hl ⊢; have hk : K ≤ 140737488351232 := (by omega); clear hK hl hq; have HB0 := Lib.hid (Below.refl w.heap.size w)
  go_enter Tryz.func89, Tryz.ntmps89
  go_wp2; go_loopw [8] (fun i wr => ∃ j : Nat, j ≤ K ∧ i = .int .i64 j ∧ Hid ((l.take j).any q = false) ∧ Hid (Below w.heap.size w wr)) (fun i _ => K - (intOf i).toNat)
  case atStart => exact ⟨0, Nat.zero_le _, rfl, Lib.hid rfl, HB0⟩
  case round =>
    obtain ⟨j, hj, rfl, FN, BW⟩ := hrel; by_cases hlt : j < K
    · obtain ⟨c, hc⟩ : ∃ c, l[j]? = some c := ⟨_, List.getElem?_eq_getElem (by rw [HK.out]; exact hlt)⟩; have hbw : Below N w wr := BW.out.mono hN; have hr2 := HR.out.under hbw; obtain ⟨b, off, rfl, hb, hcell⟩ := hr2.hp (by rw [HK.out]; omega); have hva := hr2.hv j c hc; obtain ⟨g0, g1, g2, g3, g4, g5, g6, g7, g8, g9, g10, g11⟩ := hcell j c hc; have CC := Lib.hid (HQ.out c (List.mem_of_getElem? hc) wr _ _ _ _ _ _ BW.out hva); obtain ⟨p4, k4, p7, k7, p8, k8, p9, k9, p10, k10, p11, k11, e4, e7, e8, e9, e10, e11⟩ := hva.slices; rw [e4] at g4; rw [e7] at g7; rw [e8] at g8; rw [e9] at g9; rw [e10] at g10; rw [e11] at g11; rw [e4, e7, e8, e9, e10, e11] at CC; clear hcell hva e4 e7 e8 e9 e10 e11 hr2; have HC := Lib.hid hc; clear hc hbw; cases hs : q c
      · have FN2 := Lib.hid (any_next HC.out hs FN.out); rw [hs] at CC; clear hs; go_wp2_with (go_at_call 48; ((with_reducible refine CC.out.mono ?_); rintro e w1 ⟨rfl, hb1⟩; have HB1 := Lib.hid (BW.out.then_ hb1); clear hb1))
        go_roundw
        case rel => exact ⟨j + 1, by omega, by go_num, FN2, HB1⟩
        case measure => simp [intOf]; omega
      · have FS := Lib.hid (any_at HC.out hs); rw [hs] at CC; clear hs; go_wp2_with (go_at_call 48; ((with_reducible refine CC.out.mono ?_); rintro e w1 ⟨rfl, hb1⟩; have HB1 := Lib.hid (BW.out.then_ hb1); clear hb1))
        go_ret; exact ⟨_, rfl, by omega, by rw [FS.out]; exact decide_eq_true (by omega), HB1.out⟩
    · have FN2 : Hid (l.any q = false) := Lib.hid (by have := FN.out; rw [List.take_of_length_le (by rw [HK.out]; omega)] at this; exact this); go_wp2; go_ret; exact ⟨_, rfl, by omega, by rw [FN2.out]; rfl, BW.out⟩
set_option maxRecDepth 100000 in
set_option maxHeartbeats 4000000 in
theorem large_has (l : List It) (q : It → Bool) (v : Value) (N : Nat) (w : World) (ha : ItsA N w v l) (hN : N ≤ w.heap.size) (hq : ∀ x ∈ l, ∀ W a4 a7 a8 a9 a10 a11, Below w.heap.size w W → IV N W a4 a7 a8 a9 a10 a11 x → Calls Tryz.prog 48 #[iv x.kd x.e.op x.e.n x.e.nm a4 x.nm x.ix a7 a8 a9 a10 a11] W (tBool (q x) W)) :
    Calls Tryz.prog 47 #[v, .func (.func 48) #[] #[]] w (tBool (l.any q) w) := by
  have IC := Lib.hid (large_ix l q v N w ha hN hq); have hcc : ∃ p cap, v = .slice p l.length cap := (by obtain ⟨p, cap, _, e, _⟩ := ha.form; exact ⟨p, cap, e⟩); obtain ⟨p, cap, rfl⟩ := hcc; clear ha hq; generalize l.any q = c at *
  generalize l.length = K at *
  cases c
  · go_enter Tryz.func47, Tryz.ntmps47
    go_wp2_with (go_at_call 89; ((with_reducible refine IC.out.mono ?_); rintro e w1 ⟨r, rfl, ⟨hr0, hr1⟩, hr, hb⟩; have HB := Lib.hid hb; clear hb))
    go_ret; exact ⟨rfl, HB.out⟩
  · go_enter Tryz.func47, Tryz.ntmps47
    go_wp2_with (go_at_call 89; ((with_reducible refine IC.out.mono ?_); rintro e w1 ⟨r, rfl, ⟨hr0, hr1⟩, hr, hb⟩; have HB := Lib.hid hb; clear hb))
    go_ret; exact ⟨rfl, HB.out⟩
end Go.Proofs.YtpejflgdehioaaaGreatDoor.ItW
