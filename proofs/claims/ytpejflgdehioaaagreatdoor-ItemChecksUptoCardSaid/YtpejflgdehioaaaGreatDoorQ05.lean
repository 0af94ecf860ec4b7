/-
  Laws that the card uses; no conditions beside those that each states (ItIdx ItIdx2).
-/
import Derived.Lib.QuietBelow
import Derived.RangeFuncBound
import Derived.Laws.EntriesVeiled
import Derived.RangeFuncLeaves
import Derived.Shelf.Abstract
import Derived.OwnWalkIn
import Derived.TacticsInMore
import Derived.LoopNIn
import Derived.LoopIn
import Derived.Test.YtpejflgdehioaaaGreatDoorQ03
namespace Go.Proofs.YtpejflgdehioaaaGreatDoor.ItW
open Go Go.RowKit Go.Proofs.YtpejflgdehioaaaGreatDoor.NumM Go.Proofs.YtpejflgdehioaaaGreatDoor.LexW Go.Proofs.YtpejflgdehioaaaGreatDoor.LexM Go.Proofs.YtpejflgdehioaaaGreatDoor.ExM Go.Proofs.YtpejflgdehioaaaGreatDoor.ExW Go.Proofs.YtpejflgdehioaaaGreatDoor.ItM
theorem any_next {α : Type} {l : List α} {q : α → Bool} {j : Nat} {c : α} (h : l[j]? = some c) (hq : q c = false) (hp : (l.take j).any q = false) : (l.take (j + 1)).any q = false := by
  obtain ⟨hj, he⟩ := List.getElem?_eq_some_iff.1 h; rw [List.take_succ_eq_append_getElem hj, List.any_append, hp, he]; simp [hq]
theorem any_at {α : Type} {l : List α} {q : α → Bool} {j : Nat} {c : α} (h : l[j]? = some c) (hq : q c = true) : l.any q = true := List.any_eq_true.2 ⟨c, List.mem_of_getElem? h, hq⟩
set_option maxRecDepth 100000 in
set_option maxHeartbeats 4000000 in
theorem noVar_ix (l : List ByteArray) (q : ByteArray → Bool) (v : Value) (N : Nat) (w : World) (ha : StA N w v l) (hN : N ≤ w.heap.size) (hq : ∀ s ∈ l, ∀ W, Below w.heap.size w W → s.size ≤ 140737488351232 → Calls Tryz.prog 117 #[.string s] W (tBool (q s) W)) :
    Calls Tryz.prog 126 #[v, .func (.func 117) #[] #[]] w fun e w' => ∃ r : Int, e = .returned (.int .i64 r) ∧ (-1 ≤ r ∧ r ≤ 140737488351232) ∧ decide (0 ≤ r) = l.any q ∧ Below w.heap.size w w' := by
  obtain ⟨p, cap, rfl, hl, hc0, hz, hp⟩ := ha; have HP := Lib.hid hp; have HZ := Lib.hid hz; clear hp hz; have HQ := Lib.hid hq; obtain ⟨K, hK⟩ : ∃ K, l.length = K := ⟨_, rfl⟩; have HK := Lib.hid hK; rw [hK] at hl ⊢; have hk : K ≤ 140737488351232 := (by omega); clear hK hl hq; have HB0 := Lib.hid (Below.refl w.heap.size w)
  go_enter Tryz.func126, Tryz.ntmps126
  go_wp2; go_loopw [8] (fun i wr => ∃ j : Nat, j ≤ K ∧ i = .int .i64 j ∧ Hid ((l.take j).any q = false) ∧ Hid (Below w.heap.size w wr)) (fun i _ => K - (intOf i).toNat)
  case atStart => exact ⟨0, Nat.zero_le _, rfl, Lib.hid rfl, HB0⟩
  case round =>
    obtain ⟨j, hj, rfl, FN, BW⟩ := hrel; by_cases hlt : j < K
    · obtain ⟨c, hc⟩ : ∃ c, l[j]? = some c := ⟨_, List.getElem?_eq_getElem (by rw [HK.out]; exact hlt)⟩; have hbw : Below N w wr := BW.out.mono hN; obtain ⟨b, off, rfl, hb, hcell⟩ := HP.out (by rw [HK.out]; omega); have c0 := low_cells hbw _ _ hb _ (hcell j c hc); have CC := Lib.hid (HQ.out c (List.mem_of_getElem? hc) wr BW.out (HZ.out c (List.mem_of_getElem? hc))); clear hcell; have HC := Lib.hid hc; clear hc hbw; cases hs : q c
      · have FN2 := Lib.hid (any_next HC.out hs FN.out); rw [hs] at CC; clear hs; go_wp2_with (go_at_call 117; ((with_reducible refine CC.out.mono ?_); rintro e w1 ⟨rfl, hb1⟩; have HB1 := Lib.hid (BW.out.then_ hb1); clear hb1))
        go_roundw
        case rel => exact ⟨j + 1, by omega, by go_num, FN2, HB1⟩
        case measure => simp [intOf]; omega
      · have FS := Lib.hid (any_at HC.out hs); rw [hs] at CC; clear hs; go_wp2_with (go_at_call 117; ((with_reducible refine CC.out.mono ?_); rintro e w1 ⟨rfl, hb1⟩; have HB1 := Lib.hid (BW.out.then_ hb1); clear hb1))
        go_ret; exact ⟨_, rfl, by omega, by rw [FS.out]; exact decide_eq_true (by omega), HB1.out⟩
    · have FN2 : Hid (l.any q = false) := Lib.hid (by have := FN.out; rw [List.take_of_length_le (by rw [HK.out]; omega)] at this; exact this); go_wp2; go_ret; exact ⟨_, rfl, by omega, by rw [FN2.out]; rfl, BW.out⟩
set_option maxRecDepth 100000 in
set_option maxHeartbeats 4000000 in
theorem noVar_has (l : List ByteArray) (q : ByteArray → Bool) (v : Value) (N : Nat) (w : World) (ha : StA N w v l) (hN : N ≤ w.heap.size) (hq : ∀ s ∈ l, ∀ W, Below w.heap.size w W → s.size ≤ 140737488351232 → Calls Tryz.prog 117 #[.string s] W (tBool (q s) W)) :
    Calls Tryz.prog 82 #[v, .func (.func 117) #[] #[]] w (tBool (l.any q) w) := by
  have IC := Lib.hid (noVar_ix l q v N w ha hN hq); have hcc : ∃ p cap, v = .slice p l.length cap := (by obtain ⟨p, cap, e, _⟩ := ha; exact ⟨p, cap, e⟩); obtain ⟨p, cap, rfl⟩ := hcc; clear ha hq; generalize l.any q = c at *
  generalize l.length = K at *
  cases c
  · go_enter Tryz.func82, Tryz.ntmps82
    go_wp2_with (go_at_call 126; ((with_reducible refine IC.out.mono ?_); rintro e w1 ⟨r, rfl, ⟨hr0, hr1⟩, hr, hb⟩; have HB := Lib.hid hb; clear hb))
    go_ret; exact ⟨rfl, HB.out⟩
  · go_enter Tryz.func82, Tryz.ntmps82
    go_wp2_with (go_at_call 126; ((with_reducible refine IC.out.mono ?_); rintro e w1 ⟨r, rfl, ⟨hr0, hr1⟩, hr, hb⟩; have HB := Lib.hid hb; clear hb))
    go_ret; exact ⟨rfl, HB.out⟩
set_option maxRecDepth 100000 in
set_option maxHeartbeats 4000000 in
theorem wrong_ix (l : List Wt) (q : Wt → Bool) (v : Value) (N : Nat) (w : World) (ha : WtA N w v l) (hN : N ≤ w.heap.size) (hq : ∀ t ∈ l, ∀ W, Below w.heap.size w W → Calls Tryz.prog 116 #[.agg #[.int .i64 t.lo, .int .i64 t.hi, .int .i64 t.wt, .bool t.ea]] W (tBool (q t) W)) :
    Calls Tryz.prog 164 #[v, .func (.func 116) #[] #[]] w fun e w' => ∃ r : Int, e = .returned (.int .i64 r) ∧ (-1 ≤ r ∧ r ≤ 140737488351232) ∧ decide (0 ≤ r) = l.any q ∧ Below w.heap.size w w' := by
  obtain ⟨p, cap, rfl, hl, hc0, hp⟩ := ha; have HP := Lib.hid hp; clear hp; have HQ := Lib.hid hq; obtain ⟨K, hK⟩ : ∃ K, l.length = K := ⟨_, rfl⟩; have HK := Lib.hid hK; rw [hK] at hl ⊢; have hk : K ≤ 140737488351232 := (by omega); clear hK hl hq; have HB0 := Lib.hid (Below.refl w.heap.size w)
  go_enter Tryz.func164, Tryz.ntmps164
  go_wp2; go_loopw [8] (fun i wr => ∃ j : Nat, j ≤ K ∧ i = .int .i64 j ∧ Hid ((l.take j).any q = false) ∧ Hid (Below w.heap.size w wr)) (fun i _ => K - (intOf i).toNat)
  case atStart => exact ⟨0, Nat.zero_le _, rfl, Lib.hid rfl, HB0⟩
  case round =>
    obtain ⟨j, hj, rfl, FN, BW⟩ := hrel; by_cases hlt : j < K
    · obtain ⟨c, hc⟩ : ∃ c, l[j]? = some c := ⟨_, List.getElem?_eq_getElem (by rw [HK.out]; exact hlt)⟩; have hbw : Below N w wr := BW.out.mono hN; obtain ⟨b, off, rfl, hb, hcell⟩ := HP.out (by rw [HK.out]; omega); obtain ⟨q0, q1, q2, q3⟩ := hcell j c hc; have c0 := low_cells hbw _ _ hb _ q0; have c1 := low_cells hbw _ _ hb _ q1; have c2 := low_cells hbw _ _ hb _ q2; have c3 := low_cells hbw _ _ hb _ q3; have CC := Lib.hid (HQ.out c (List.mem_of_getElem? hc) wr BW.out); clear hcell q0 q1 q2 q3; have HC := Lib.hid hc; clear hc hbw; cases hs : q c
      · have FN2 := Lib.hid (any_next HC.out hs FN.out); rw [hs] at CC; clear hs; go_wp2_with (go_at_call 116; ((with_reducible refine CC.out.mono ?_); rintro e w1 ⟨rfl, hb1⟩; have HB1 := Lib.hid (BW.out.then_ hb1); clear hb1))
        go_roundw
        case rel => exact ⟨j + 1, by omega, by go_num, FN2, HB1⟩
        case measure => simp [intOf]; omega
      · have FS := Lib.hid (any_at HC.out hs); rw [hs] at CC; clear hs; go_wp2_with (go_at_call 116; ((with_reducible refine CC.out.mono ?_); rintro e w1 ⟨rfl, hb1⟩; have HB1 := Lib.hid (BW.out.then_ hb1); clear hb1))
        go_ret; exact ⟨_, rfl, by omega, by rw [FS.out]; exact decide_eq_true (by omega), HB1.out⟩
    · have FN2 : Hid (l.any q = false) := Lib.hid (by have := FN.out; rw [List.take_of_length_le (by rw [HK.out]; omega)] at this; exact this); go_wp2; go_ret; exact ⟨_, rfl, by omega, by rw [FN2.out]; rfl, BW.out⟩
set_option maxRecDepth 100000 in
set_option maxHeartbeats 4000000 in
theorem wrong_has (l : List Wt) (q : Wt → Bool) (v : Value) (N : Nat) (w : World) (ha : WtA N w v l) (hN : N ≤ w.heap.size) (hq : ∀ t ∈ l, ∀ W, Below w.heap.size w W → Calls Tryz.prog 116 #[.agg #[.int .i64 t.lo, .int .i64 t.hi, .int .i64 t.wt, .bool t.ea]] W (tBool (q t) W)) :
    Calls Tryz.prog 115 #[v, .func (.func 116) #[] #[]] w (tBool (l.any q) w) := by
  have IC := Lib.hid (wrong_ix l q v N w ha hN hq); have hcc : ∃ p cap, v = .slice p l.length cap := (by obtain ⟨p, cap, e, _⟩ := ha; exact ⟨p, cap, e⟩); obtain ⟨p, cap, rfl⟩ := hcc; clear ha hq; generalize l.any q = c at *
  generalize l.length = K at *
  cases c
  · go_enter Tryz.func115, Tryz.ntmps115
    go_wp2_with (go_at_call 164; ((with_reducible refine IC.out.mono ?_); rintro e w1 ⟨r, rfl, ⟨hr0, hr1⟩, hr, hb⟩; have HB := Lib.hid hb; clear hb))
    go_ret; exact ⟨rfl, HB.out⟩
  · go_enter Tryz.func115, Tryz.ntmps115
    go_wp2_with (go_at_call 164; ((with_reducible refine IC.out.mono ?_); rintro e w1 ⟨r, rfl, ⟨hr0, hr1⟩, hr, hb⟩; have HB := Lib.hid hb; clear hb))
    go_ret; exact ⟨rfl, HB.out⟩
set_option maxRecDepth 100000 in
set_option maxHeartbeats 4000000 in
theorem unk_ix (l : List ByteArray) (q : ByteArray → Bool) (v : Value) (N : Nat) (w : World) (ha : StA N w v l) (hN : N ≤ w.heap.size) (mb : Nat) (hq : ∀ s ∈ l, ∀ W, Below w.heap.size w W → s.size ≤ 140737488351232 → Calls Tryz.prog 83 #[.map (some mb), .string s] W (tBool (q s) W)) :
    Calls Tryz.prog 126 #[v, .func (.func 83) #[.map (some mb)] #[]] w fun e w' => ∃ r : Int, e = .returned (.int .i64 r) ∧ (-1 ≤ r ∧ r ≤ 140737488351232) ∧ decide (0 ≤ r) = l.any q ∧ Below w.heap.size w w' := by
  obtain ⟨p, cap, rfl, hl, hc0, hz, hp⟩ := ha; have HP := Lib.hid hp; have HZ := Lib.hid hz; clear hp hz; have HQ := Lib.hid hq; obtain ⟨K, hK⟩ : ∃ K, l.length = K := ⟨_, rfl⟩; have HK := Lib.hid hK; rw [hK] at hl ⊢; have hk : K ≤ 140737488351232 := (by omega); clear hK hl hq; have HB0 := Lib.hid (Below.refl w.heap.size w)
  go_enter Tryz.func126, Tryz.ntmps126
  go_wp2; go_loopw [8] (fun i wr => ∃ j : Nat, j ≤ K ∧ i = .int .i64 j ∧ Hid ((l.take j).any q = false) ∧ Hid (Below w.heap.size w wr)) (fun i _ => K - (intOf i).toNat)
  case atStart => exact ⟨0, Nat.zero_le _, rfl, Lib.hid rfl, HB0⟩
  case round =>
    obtain ⟨j, hj, rfl, FN, BW⟩ := hrel; by_cases hlt : j < K
    · obtain ⟨c, hc⟩ : ∃ c, l[j]? = some c := ⟨_, List.getElem?_eq_getElem (by rw [HK.out]; exact hlt)⟩; have hbw : Below N w wr := BW.out.mono hN; obtain ⟨b, off, rfl, hb, hcell⟩ := HP.out (by rw [HK.out]; omega); have c0 := low_cells hbw _ _ hb _ (hcell j c hc); have CC := Lib.hid (HQ.out c (List.mem_of_getElem? hc) wr BW.out (HZ.out c (List.mem_of_getElem? hc))); clear hcell; have HC := Lib.hid hc; clear hc hbw; cases hs : q c
      · have FN2 := Lib.hid (any_next HC.out hs FN.out); rw [hs] at CC; clear hs; go_wp2_with (go_at_call 83; ((with_reducible refine CC.out.mono ?_); rintro e w1 ⟨rfl, hb1⟩; have HB1 := Lib.hid (BW.out.then_ hb1); clear hb1))
        go_roundw
        case rel => exact ⟨j + 1, by omega, by go_num, FN2, HB1⟩
        case measure => simp [intOf]; omega
      · have FS := Lib.hid (any_at HC.out hs); rw [hs] at CC; clear hs; go_wp2_with (go_at_call 83; ((with_reducible refine CC.out.mono ?_); rintro e w1 ⟨rfl, hb1⟩; have HB1 := Lib.hid (BW.out.then_ hb1); clear hb1))
        go_ret; exact ⟨_, rfl, by omega, by rw [FS.out]; exact decide_eq_true (by omega), HB1.out⟩
    · have FN2 : Hid (l.any q = false) := Lib.hid (by have := FN.out; rw [List.take_of_length_le (by rw [HK.out]; omega)] at this; exact this); go_wp2; go_ret; exact ⟨_, rfl, by omega, by rw [FN2.out]; rfl, BW.out⟩
set_option maxRecDepth 100000 in
set_option maxHeartbeats 4000000 in
theorem unk_has (l : List ByteArray) (q : ByteArray → Bool) (v : Value) (N : Nat) (w : World) (ha : StA N w v l) (hN : N ≤ w.heap.size) (mb : Nat) (hq : ∀ s ∈ l, ∀ W, Below w.heap.size w W → s.size ≤ 140737488351232 → Calls Tryz.prog 83 #[.map (some mb), .string s] W (tBool (q s) W)) :
    Calls Tryz.prog 82 #[v, .func (.func 83) #[.map (some mb)] #[]] w (tBool (l.any q) w) := by
  have IC := Lib.hid (unk_ix l q v N w ha hN mb hq); have hcc : ∃ p cap, v = .slice p l.length cap := (by obtain ⟨p, cap, e, _⟩ := ha; exact ⟨p, cap, e⟩); obtain ⟨p, cap, rfl⟩ := hcc; clear ha hq; generalize l.any q = c at *
  generalize l.length = K at *
  cases c
  · go_enter Tryz.func82, Tryz.ntmps82
    go_wp2_with (go_at_call 126; ((with_reducible refine IC.out.mono ?_); rintro e w1 ⟨r, rfl, ⟨hr0, hr1⟩, hr, hb⟩; have HB := Lib.hid hb; clear hb))
    go_ret; exact ⟨rfl, HB.out⟩
  · go_enter Tryz.func82, Tryz.ntmps82
    go_wp2_with (go_at_call 126; ((with_reducible refine IC.out.mono ?_); rintro e w1 ⟨r, rfl, ⟨hr0, hr1⟩, hr, hb⟩; have HB := Lib.hid hb; clear hb))
    go_ret; exact ⟨rfl, HB.out⟩
set_option maxRecDepth 100000 in
set_option maxHeartbeats 4000000 in
theorem large_ix (l : List It) (q : It → Bool) (v : Value) (N : Nat) (w : World) (ha : ItsA N w v l) (hN : N ≤ w.heap.size) (hq : ∀ x ∈ l, ∀ W a4 a7 a8 a9 a10 a11, Below w.heap.size w W → IV N W a4 a7 a8 a9 a10 a11 x → Calls Tryz.prog 48 #[iv x.kd x.e.op x.e.n x.e.nm a4 x.nm x.ix a7 a8 a9 a10 a11] W (tBool (q x) W)) :
    Calls Tryz.prog 89 #[v, .func (.func 48) #[] #[]] w fun e w' => ∃ r : Int, e = .returned (.int .i64 r) ∧ (-1 ≤ r ∧ r ≤ 140737488351232) ∧ decide (0 ≤ r) = l.any q ∧ Below w.heap.size w w' := by
  obtain ⟨p, cap, V, rfl, hr⟩ := ha.form; have hl := hr.hl; clear ha; have HR := Lib.hid hr; clear hr; have HQ := Lib.hid hq; obtain ⟨K, hK⟩ : ∃ K, l.length = K := ⟨_, rfl⟩; have HK := Lib.hid hK; rw [hK] at hl ⊢; have hk : K ≤ 140737488351232 := (by omega); clear hK hl hq; have HB0 := Lib.hid (Below.refl w.heap.size w)
  go_enter Tryz.func89, Tryz.ntmps89
  go_wp2; go_loopw [8] (fun i wr => ∃ j : Nat, j ≤ K ∧ i = .int .i64 j ∧ Hid ((l.take j).any q = false) ∧ Hid (Below w.heap.size w wr)) (fun i _ => K - (intOf i).toNat)
  case atStart => exact ⟨0, Nat.zero_le _, rfl, Lib.hid rfl, HB0⟩
  case round =>
    obtain ⟨j, hj, rfl, FN, BW⟩ := hrel; by_cases hlt : j < K
    · obtain ⟨c, hc⟩ : ∃ c, l[j]? = some c := ⟨_, List.getElem?_eq_getElem (by rw [HK.out]; exact hlt)⟩; have hbw : Below N w wr := BW.out.mono hN; have hr2 := HR.out.under hbw; obtain ⟨b, off, rfl, hb, hcell⟩ := hr2.hp (by rw [HK.out]; omega); have hva := hr2.hv j c hc; obtain ⟨g0, g1, g2, g3, g4, g5, g6, g7, g8, g9, g10, g11⟩ := hcell j c hc; have CC := Lib.hid (HQ.out c (List.mem_of_getElem? hc) wr _ _ _ _ _ _ BW.out hva); obtain ⟨p4, k4, p7, k7, p8, k8, p9, k9, p10, k10, p11, k11, e4, e7, e8, e9, e10, e11⟩ := hva.slices; rw [e4] at g4; rw [e7] at g7; rw [e8] at g8; rw [e9] at g9; rw [e10] at g10; rw [e11] at g11; rw [e4, e7, e8, e9, e10, e11] at CC; clear hcell hva e4 e7 e8 e9 e10 e11 hr2; have HC := Lib.hid hc; clear hc hbw; cases hs : q c
      · have FN2 := Lib.hid (any_next HC.out hs FN.out); rw [hs] at CC; clear hs; go_wp2_with (go_at_call 48; ((with_reducible refine CC.out.mono ?_); rintro e w1 ⟨rfl, hb1⟩; have HB1 := Lib.hid (BW.out.then_ hb1); clear hb1))
        go_roundw
        case rel => exact ⟨j + 1, by omega, by go_num, FN2, HB1⟩
        case measure => simp [intOf]; omega
      · have FS := Lib.hid (any_at HC.out hs); rw [hs] at CC; clear hs; go_wp2_with (go_at_call 48; ((with_reducible refine CC.out.mono ?_); rintro e w1 ⟨rfl, hb1⟩; have HB1 := Lib.hid (BW.out.then_ hb1); clear hb1))
        go_ret; exact ⟨_, rfl, by omega, by rw [FS.out]; exact decide_eq_true (by omega), HB1.out⟩
    · have FN2 : Hid (l.any q = false) := Lib.hid (by have := FN.out; rw [List.take_of_length_le (by rw [HK.out]; omega)] at this; exact this); go_wp2; go_ret; exact ⟨_, rfl, by omega, by rw [FN2.out]; rfl, BW.out⟩
set_option maxRecDepth 100000 in
set_option maxHeartbeats 4000000 in
theorem large_has (l : List It) (q : It → Bool) (v : Value) (N : Nat) (w : World) (ha : ItsA N w v l) (hN : N ≤ w.heap.size) (hq : ∀ x ∈ l, ∀ W a4 a7 a8 a9 a10 a11, Below w.heap.size w W → IV N W a4 a7 a8 a9 a10 a11 x → Calls Tryz.prog 48 #[iv x.kd x.e.op x.e.n x.e.nm a4 x.nm x.ix a7 a8 a9 a10 a11] W (tBool (q x) W)) :
    Calls Tryz.prog 47 #[v, .func (.func 48) #[] #[]] w (tBool (l.any q) w) := by
  have IC := Lib.hid (large_ix l q v N w ha hN hq); have hcc : ∃ p cap, v = .slice p l.length cap := (by obtain ⟨p, cap, _, e, _⟩ := ha.form; exact ⟨p, cap, e⟩); obtain ⟨p, cap, rfl⟩ := hcc; clear ha hq; generalize l.any q = c at *
  generalize l.length = K at *
  cases c
  · go_enter Tryz.func47, Tryz.ntmps47
    go_wp2_with (go_at_call 89; ((with_reducible refine IC.out.mono ?_); rintro e w1 ⟨r, rfl, ⟨hr0, hr1⟩, hr, hb⟩; have HB := Lib.hid hb; clear hb))
    go_ret; exact ⟨rfl, HB.out⟩
  · go_enter Tryz.func47, Tryz.ntmps47
    go_wp2_with (go_at_call 89; ((with_reducible refine IC.out.mono ?_); rintro e w1 ⟨r, rfl, ⟨hr0, hr1⟩, hr, hb⟩; have HB := Lib.hid hb; clear hb))
    go_ret; exact ⟨rfl, HB.out⟩
end Go.Proofs.YtpejflgdehioaaaGreatDoor.ItW
