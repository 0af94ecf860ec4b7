/-
  What the reference's IsName and valid return.
-/
import Derived.Test.YtlnomiiphlbamaaGreatDoorLexRefS
import Derived.Test.YtlnomiiphlbamaaGreatDoorLexRefF
import Derived.Deep.RegionHeld3
namespace Go.Proofs.YtlnomiiphlbamaaGreatDoor.LexW
open Go Go.RowKit Go.Proofs.YtlnomiiphlbamaaGreatDoor.NumM Go.Proofs.YtlnomiiphlbamaaGreatDoor.LexM

theorem nmB_of (s : ByteArray) (h0 : 0 < s.size) : nmB s.data.toList = (decide (s.size ≤ 16) && (sml s[0] && (!isKw s.data.toList && s.data.toList.all wrd))) := by
  have hl := len_data s
  rcases hx : s.data.toList with _ | ⟨c, r⟩
  · rw [hx] at hl; simp at hl; omega
  · obtain ⟨_, hc⟩ := head_of s hx
    rw [hx, List.length_cons] at hl
    rw [hc, ← hl]; rfl
theorem not_allW {s : ByteArray} {k : Nat} (h : k < s.size) (g : wrd s[k] = false) : s.data.toList.all wrd = false := by
  cases e : s.data.toList.all wrd
  · rfl
  · have hm : s[k] ∈ s.data.toList := by
      have : s.data.toList[k]'(by simpa using h) = s[k] := rfl
      rw [← this]; exact List.getElem_mem _
    have := List.all_eq_true.1 e _ hm
    rw [g] at this; cases this
def tBool (b : Bool) (w : World) (e : Ending) (w' : World) : Prop := e = .returned (.bool b) ∧ Below w.heap.size w w'
theorem tBool_mk {a b : Bool} {w w' : World} (h : a = b) (hb : Below w.heap.size w w') : tBool b w (.returned (.bool a)) w' := by subst h; exact ⟨rfl, hb⟩
set_option maxRecDepth 100000 in
set_option maxHeartbeats 1000000 in
theorem nameR_any (s : ByteArray) (w : World) (hs : s.size ≤ 140737488351232) : Calls Tryz.prog 58 #[.string s] w (tBool (nmB s.data.toList) w) := by
  have KC := fun W => kwR_any s W
  by_cases h0 : 0 < s.size
  · have e0 : s.toList.isEmpty = false := by
      rw [Lib.toList_data]
      have := len_data s
      cases hx : s.data.toList with
      | nil => rw [hx] at this; simp at this; omega
      | cons a b => rfl
    have hn := nmB_of s h0
    by_cases h16 : 16 < s.size
    · have EE : Hid (false = nmB s.data.toList) := Lib.hid (by rw [hn, decide_eq_false (by omega)]; rfl)
      clear hn KC
      go_enter Tryz.func58, Tryz.ntmps58
      go_wp2
      go_ret
      exact tBool_mk EE.out (Below.refl _ _)
    rw [decide_eq_true (show s.size ≤ 16 by omega)] at hn
    have hsm := sm_byte s[0]
    cases h1 : sml s[0]
    · rw [h1] at hsm
      have EE : Hid (false = nmB s.data.toList) := Lib.hid (by rw [hn, h1]; rfl)
      clear hn KC h1
      go_enter Tryz.func58, Tryz.ntmps58
      go_wp2_with (go_at_call 52; refine (smallR_any _ _).mono ?_; rintro e w' ⟨rfl, rfl⟩)
      go_ret
      exact tBool_mk EE.out (Below.refl _ _)
    · rw [h1] at hsm hn
      cases h2 : isKw s.data.toList
      · rw [h2] at KC hn
        have KC := Lib.hid KC
        have HN := Lib.hid hn
        clear hn h1 h2
        go_enter Tryz.func58, Tryz.ntmps58
        go_wp2_with (first | (go_at_call 52; refine (smallR_any _ _).mono ?_; rintro e w' ⟨rfl, rfl⟩) | (go_at_call 54; ((with_reducible refine (KC.out _).mono ?_); rintro e w1 ⟨rfl, hb⟩; have HB := Lib.hid hb; clear hb)))
        go_loop [3] (fun i => ∃ k : Nat, k ≤ s.size ∧ i = .int .i64 k ∧ Hid ((s.data.toList.take k).all wrd = true)) (fun i => s.size - (intOf i).toNat)
        case atStart => exact ⟨0, Nat.zero_le _, rfl, Lib.hid rfl⟩
        case round =>
          obtain ⟨k, hk, rfl, AL⟩ := hrel
          by_cases hlt : k < s.size
          · have IC : ∀ W, Calls Tryz.prog 91 #[.int .u8 (s[k].toNat : Int)] W fun e w' => e = .returned (.bool (wrd s[k])) ∧ W = w' := fun W => inner_any s[k] W
            cases hw : wrd s[k]
            · rw [hw] at IC
              have EE : Hid (false = nmB s.data.toList) := Lib.hid (by rw [HN.out, not_allW hlt hw]; rfl)
              have IC := Lib.hid IC
              clear hw
              go_wp2_with (go_at_call 91; ((with_reducible refine (IC.out _).mono ?_); rintro e w' ⟨rfl, rfl⟩))
              go_ret
              exact tBool_mk EE.out HB.out
            · rw [hw] at IC
              have A2 : Hid ((s.data.toList.take (k + 1)).all wrd = true) := Lib.hid (by rw [take_snoc s k hlt, List.all_append, AL.out]; simp [hw])
              have IC := Lib.hid IC
              clear hw
              go_wp2_with (go_at_call 91; ((with_reducible refine (IC.out _).mono ?_); rintro e w' ⟨rfl, rfl⟩))
              go_round
              case rel => exact ⟨k + 1, by omega, by go_num, A2⟩
              case measure => simp [intOf]; omega
          · have EE : Hid (true = nmB s.data.toList) := Lib.hid (by
              have := AL.out
              rw [List.take_of_length_le (by rw [len_data]; omega)] at this
              rw [HN.out, this]; rfl)
            go_wp2
            go_ret
            exact tBool_mk EE.out HB.out
      · rw [h2] at KC hn
        have KC := Lib.hid KC
        have EE : Hid (false = nmB s.data.toList) := Lib.hid (by rw [hn]; rfl)
        clear hn h1 h2
        go_enter Tryz.func58, Tryz.ntmps58
        go_wp2_with (first | (go_at_call 52; refine (smallR_any _ _).mono ?_; rintro e w' ⟨rfl, rfl⟩) | (go_at_call 54; ((with_reducible refine (KC.out _).mono ?_); rintro e w1 ⟨rfl, hb⟩; have HB := Lib.hid hb; clear hb)))
        go_ret
        exact tBool_mk EE.out HB.out
  · have hx : s.data.toList = [] := List.length_eq_zero_iff.1 (by rw [len_data]; omega)
    have e0 : s.toList = [] := by rw [Lib.toList_data, hx]
    have EE : Hid (false = nmB s.data.toList) := Lib.hid (by rw [hx]; rfl)
    clear hx KC
    go_enter Tryz.func58, Tryz.ntmps58
    go_wp2
    go_ret
    exact tBool_mk EE.out (Below.refl _ _)
theorem below_dN {B : Nat} {w w1 : World} (h : Below B w w1) (n : Nat) : Below B w (w1.drewN n) := ⟨h.os, h.tape, h.output, h.size, h.block⟩
theorem below_drew {w wx : World} (h : Below w.drew.heap.size w.drew wx) : Below w.heap.size w wx := Below.then_ (Below.refl _ _).drew h
set_option maxRecDepth 100000 in
set_option maxHeartbeats 4000000 in
theorem validRef_any (k n ln : Int) (x : ByteArray) (w : World) (n0 : -9223372036854775808 ≤ n) (n1 : n ≤ 9223372036854775807) (hs : x.size ≤ 16384) :
    Calls Tryz.prog 30 #[tv k n x ln] w (tBool (validR ⟨k, n, x.data.toList, ln⟩) w) := by
  have hb0 : Hid (Below w.heap.size w (w.alloc (.cells #[.int .i64 k, .int .i64 n, .string x, .int .i64 ln] 41))) := Lib.hid ((Below.refl _ _).alloc (Nat.le_refl _) _)
  by_cases k1 : k = 1
  · have c1 : (k == 1) = true := by simpa using k1
    by_cases hn : n = 0
    · have cn : (n == 0) = true := by simpa using hn
      have NC := fun W => nameR_any x W (by omega)
      have EE : Hid (nmB x.data.toList = validR ⟨k, n, x.data.toList, ln⟩) := Lib.hid (by unfold validR; rw [if_pos k1, decide_eq_true hn]; rfl)
      obtain ⟨b, hb⟩ : ∃ b, nmB x.data.toList = b := ⟨_, rfl⟩
      rw [hb] at NC EE
      unfold tBool at NC
      have NC := Lib.hid NC
      clear k1 hn hb
      go_enter Tryz.func30, Tryz.ntmps30
      go_wp2_with (go_at_call 58; ((with_reducible refine (NC.out _).mono ?_); rintro e w1 ⟨rfl, hb⟩))
      go_ret
      exact tBool_mk EE.out (Below.then_ hb0.out hb)
    · have cn : (n == 0) = false := by simpa using hn
      have EE : Hid (false = validR ⟨k, n, x.data.toList, ln⟩) := Lib.hid (by unfold validR; rw [if_pos k1, decide_eq_false hn]; rfl)
      clear k1 hn
      go_enter Tryz.func30, Tryz.ntmps30
      go_wp2
      go_ret
      exact tBool_mk EE.out hb0.out
  have c1 : (k == 1) = false := by simpa using k1
  by_cases k2 : k = 2
  · have c2 : (k == 2) = true := by simpa using k2
    by_cases hn : n = 0
    · have cn : (n == 0) = true := by simpa using hn
      have NC := fun W => kwR_any x W
      have EE : Hid (isKw x.data.toList = validR ⟨k, n, x.data.toList, ln⟩) := Lib.hid (by unfold validR; rw [if_neg k1, if_pos k2, decide_eq_true hn]; rfl)
      obtain ⟨b, hb⟩ : ∃ b, isKw x.data.toList = b := ⟨_, rfl⟩
      rw [hb] at NC EE
      have NC := Lib.hid NC
      clear k1 k2 hn hb
      go_enter Tryz.func30, Tryz.ntmps30
      go_wp2_with (go_at_call 54; ((with_reducible refine (NC.out _).mono ?_); rintro e w1 ⟨rfl, hb⟩))
      go_ret
      exact tBool_mk EE.out (Below.then_ hb0.out hb)
    · have cn : (n == 0) = false := by simpa using hn
      have EE : Hid (false = validR ⟨k, n, x.data.toList, ln⟩) := Lib.hid (by unfold validR; rw [if_neg k1, if_pos k2, decide_eq_false hn]; rfl)
      clear k1 k2 hn
      go_enter Tryz.func30, Tryz.ntmps30
      go_wp2
      go_ret
      exact tBool_mk EE.out hb0.out
  have c2 : (k == 2) = false := by simpa using k2
  by_cases k3 : k = 3
  · have c3 : (k == 3) = true := by simpa using k3
    have EV : validR ⟨k, n, x.data.toList, ln⟩ = ((decide (0 ≤ n) && decide (n ≤ 2147483647)) && decide (x.data.toList = Lib.itoa n)) := by unfold validR; rw [if_neg k1, if_neg k2, if_pos k3]
    by_cases h0 : 0 ≤ n
    · by_cases h1 : n ≤ 2147483647
      · have g0 : decide (0 ≤ n) = true := decide_eq_true h0
        have g1 : decide (n ≤ 2147483647) = true := decide_eq_true h1
        rw [g0, g1] at EV
        obtain ⟨P, hP, sP, FP⟩ := RefF.numR_letter n n0 n1
        have EE : Hid ((x.toList == P.toList) = validR ⟨k, n, x.data.toList, ln⟩) := Lib.hid (by
          rw [EV, Lib.toList_data, Lib.toList_data, hP, Bool.eq_iff_iff]
          simp)
        have FP := Lib.hid FP
        obtain ⟨b, hb⟩ : ∃ b, (x.toList == P.toList) = b := ⟨_, rfl⟩
        rw [hb] at EE
        obtain ⟨W0, hW0⟩ : ∃ W0, w.alloc (.cells #[.int .i64 k, .int .i64 n, .string x, .int .i64 ln] 41) = W0 := ⟨_, rfl⟩
        have F := Lib.hid (Four.new w (.int .i64 k) (.int .i64 n) (.string x) (.int .i64 ln) 41)
        rw [hW0] at hb0 F
        have HW := Lib.hid hW0
        clear k1 k2 k3 EV hP sP hW0
        have d0 := F.out.c0
        have d1 := F.out.c1
        have d2 := F.out.c2
        go_enter Tryz.func30, Tryz.ntmps30
        go_wp2
        rw [HW.out]
        go_wp2
        go_region_held3 (fun w' => w'.cell? ⟨w.heap.size, 1, none⟩ = some (.int .i64 n) ∧ w'.cell? ⟨w.heap.size, 2, none⟩ = some (.string x)) (first | assumption | exact ⟨F.out.drew.c1, F.out.drew.c2⟩ | fail)
          ((go_at_call 59; ((with_reducible refine (FP.out _).mono ?_); rintro e wx ⟨rfl, hq⟩; have HX : Hid (Below W0.heap.size W0 wx) := Lib.hid (by first | exact below_drew hq | exact Below.then_ HX.out hq); have X1 := F.out.stay HX.out; have K : wx.cell? ⟨w.heap.size, 1, none⟩ = some (.int .i64 n) ∧ wx.cell? ⟨w.heap.size, 2, none⟩ = some (.string x) := ⟨X1.c1, X1.c2⟩; clear hq)))
        all_goals
          go_wp2
          go_ret
          exact tBool_mk EE.out (hb0.out.trans (HX.out.mono hb0.out.size))
      · have g0 : decide (0 ≤ n) = true := decide_eq_true h0
        have g1 : decide (n ≤ 2147483647) = false := decide_eq_false h1
        have EE : Hid (false = validR ⟨k, n, x.data.toList, ln⟩) := Lib.hid (by rw [EV, g0, g1]; rfl)
        clear k1 k2 k3 EV
        go_enter Tryz.func30, Tryz.ntmps30
        go_wp2
        go_quiet (fail)
        go_wp2
        go_ret
        exact tBool_mk EE.out (below_dN hb0.out _)
    · have g0 : decide (0 ≤ n) = false := decide_eq_false h0
      have EE : Hid (false = validR ⟨k, n, x.data.toList, ln⟩) := Lib.hid (by rw [EV, g0]; rfl)
      clear k1 k2 k3 EV
      go_enter Tryz.func30, Tryz.ntmps30
      go_wp2
      go_quiet (fail)
      go_wp2
      go_ret
      exact tBool_mk EE.out (below_dN hb0.out _)
  have c3 : (k == 3) = false := by simpa using k3
  by_cases k4 : k = 4
  · have c4 : (k == 4) = true := by simpa using k4
    by_cases hn : n = 0
    · have cn : (n == 0) = true := by simpa using hn
      have NC := fun W => mkR_any x W
      have EE : Hid (isMk x.data.toList = validR ⟨k, n, x.data.toList, ln⟩) := Lib.hid (by unfold validR; rw [if_neg k1, if_neg k2, if_neg k3, if_pos k4, decide_eq_true hn]; rfl)
      obtain ⟨b, hb⟩ : ∃ b, isMk x.data.toList = b := ⟨_, rfl⟩
      rw [hb] at NC EE
      have NC := Lib.hid NC
      clear k1 k2 k3 k4 hn hb
      go_enter Tryz.func30, Tryz.ntmps30
      go_wp2_with (go_at_call 60; ((with_reducible refine (NC.out _).mono ?_); rintro e w1 ⟨rfl, hb⟩))
      go_ret
      exact tBool_mk EE.out (Below.then_ hb0.out hb)
    · have cn : (n == 0) = false := by simpa using hn
      have EE : Hid (false = validR ⟨k, n, x.data.toList, ln⟩) := Lib.hid (by unfold validR; rw [if_neg k1, if_neg k2, if_neg k3, if_pos k4, decide_eq_false hn]; rfl)
      clear k1 k2 k3 k4 hn
      go_enter Tryz.func30, Tryz.ntmps30
      go_wp2
      go_ret
      exact tBool_mk EE.out hb0.out
  have c4 : (k == 4) = false := by simpa using k4
  have EE : Hid (false = validR ⟨k, n, x.data.toList, ln⟩) := Lib.hid (by unfold validR; rw [if_neg k1, if_neg k2, if_neg k3, if_neg k4])
  clear k1 k2 k3 k4
  go_enter Tryz.func30, Tryz.ntmps30
  go_wp2
  go_ret
  exact tBool_mk EE.out hb0.out
end Go.Proofs.YtlnomiiphlbamaaGreatDoor.LexW
