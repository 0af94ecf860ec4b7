/-
  The law RngWeighted, walked.
-/
import Derived.Test.YtahjgepjhihhjaaRngOpen
namespace Go.Proofs.Ytahjgepjhihhjaa.RngW
open Go Go.RowKit Go.Proofs.Ytahjgepjhihhjaa.HashM Go.Proofs.Ytahjgepjhihhjaa.HashW Go.Proofs.Ytahjgepjhihhjaa.RngM

theorem IntsAt.take {w : World} {p : Option Addr} {n cap : Nat} {ws : List Int} (h : IntsAt w (.slice p n cap) ws) {m : Nat} (hm : m ≤ n) : IntsAt w (.slice p m cap) (ws.take m) := by
  obtain ⟨p', cap', e, hcap, hlen, hi, hx⟩ := h
  obtain ⟨rfl, rfl, rfl⟩ : p = p' ∧ n = ws.length ∧ cap = cap' := by simpa using e
  have hl : (ws.take m).length = m := by rw [List.length_take]; omega
  refine ⟨p, cap, by rw [hl], by omega, by omega, fun i h => ?_, fun h0 => ?_⟩
  · rw [List.getElem_take]
    exact hi i (by omega)
  · obtain ⟨b, off, hp, hb, hc⟩ := hx (by omega)
    refine ⟨b, off, hp, hb, fun i h => ?_⟩
    rw [List.getElem_take]
    exact hc i (by omega)
/-- What Weighted returns: an error, or an index with a positive weight. -/
theorem wgt_cases (k c : UInt64) (ws : List Int) : wgtR k c ws = ⟨0, 0, 0, 1⟩ ∨ ∃ (j : Nat) (pc : UInt64) (h : j < ws.length), wgtR k c ws = ⟨j, k, pc, 0⟩ ∧ 0 < ws[j] := by
  obtain ⟨n, hn⟩ : ∃ n : Nat, totW mx ws = (n : Int) := Int.eq_ofNat_of_zero_le (totW_nonneg ws)
  by_cases h0 : n = 0
  · exact .inl (wgtR_no (by omega))
  · have hs : totW mx ws = sumW ws := totW_sum (by omega)
    have hx : belX k c n < n := Nat.mod_lt _ (by omega)
    exact .inr ⟨_, _, pk_lt ws (belX k c n) (by omega) (by omega), wgtR_yes hn (by omega), pk_pos ws (belX k c n) (by omega) (by omega)⟩
set_option maxRecDepth 100000 in
set_option maxHeartbeats 8000000 in
theorem weighted_few (k c : UInt64) (p : Option Addr) (n cap : Nat) (ws : List Int) (w : World) (hcap : n ≤ cap) (hlen : n ≤ 9223372036854775807) (h40 : n ≤ 40) (h : IntsAt w (.slice p n cap) ws) : Calls Try.prog 5 #[rv k c, .slice p n cap] w (tBool w true) := by
  have h1 := fun w' (hb : Below w.heap.size w w') => weightCode k c ws _ w' (h.later hb)
  have h2 := fun w' (hb : Below w.heap.size w w') => weightRef k c ws _ w' (h.later hb)
  rcases wgt_cases k c ws with hr | ⟨j, pc, hj, hr, hpos⟩
  · rw [hr] at h1 h2
    have H1 := Lib.hid h1
    have H2 := Lib.hid h2
    clear h1 h2 h hr
    go_enter Try.func5, Try.ntmps5
    go_wp2_with (first
      | (go_at_call 21; ((with_reducible refine (H1.out _ ((Below.refl _ _).alloc (Nat.le_refl _) _)).mono ?_); rintro e w1 ⟨rfl, hq⟩; have T1 := Lib.hid (two_new hq); obtain ⟨_, c0, c1, _, _⟩ := T1.out; have B1 := Lib.hid (below_new hq); clear hq))
      | (go_at_call 22; ((with_reducible refine (H2.out _ (B1.out.alloc B1.out.size _)).mono ?_); rintro e w2 ⟨rfl, hq⟩; have N1 := Lib.hid (two_new hq); obtain ⟨_, c0, c1, _, _⟩ := N1.out; have B2 := Lib.hid (Below.then_ B1.out (below_new hq)); clear hq))
      | (go_at_call 18; ((with_reducible refine (awake_any _).mono ?_); rintro e w3 ⟨rfl, hq⟩; have B3 := Lib.hid (Below.then_ B2.out (below_new hq)); clear hq)))
    go_ret
    exact ⟨rfl, B3.out⟩
  · rw [hr] at h1 h2
    have H1 := Lib.hid h1
    have H2 := Lib.hid h2
    obtain ⟨p', cap', e, _, _, hi, hx⟩ := h
    obtain ⟨rfl, hl, rfl⟩ : p = p' ∧ n = ws.length ∧ cap = cap' := by simpa using e
    obtain ⟨b, off, rfl, hb, hc⟩ := hx (by omega)
    have hcj := Lib.hid (hc j hj)
    have hjm : j < n := by omega
    obtain ⟨x, hxx⟩ : ∃ x, ws[j] = x := ⟨_, rfl⟩
    rw [hxx] at hpos hcj
    have hb' := hb
    clear h1 h2 hr hxx hx hc hi e hl
    go_enter Try.func5, Try.ntmps5
    go_wp2_with (first
      | (go_at_call 21; ((with_reducible refine (H1.out _ ((Below.refl _ _).alloc (Nat.le_refl _) _)).mono ?_); rintro e w1 ⟨rfl, hq⟩; have T1 := Lib.hid (two_new hq); obtain ⟨_, c0, c1, _, _⟩ := T1.out; have B1 := Lib.hid (below_new hq); clear hq))
      | (go_at_call 22; ((with_reducible refine (H2.out _ (B1.out.alloc B1.out.size _)).mono ?_); rintro e w2 ⟨rfl, hq⟩; have N1 := Lib.hid (two_new hq); obtain ⟨_, c0, c1, _, _⟩ := N1.out; have B2 := Lib.hid (Below.then_ B1.out (below_new hq)); have g0 : w2.cell? ⟨b, off + j, none⟩ = some (.int .i64 x) := (B2.out.cell (p := ⟨b, off + j, none⟩) hb).trans hcj.out; have g1 : b < w2.heap.size := Nat.lt_of_lt_of_le hb B2.out.size; clear hq))
      | (go_at_call 18; ((with_reducible refine (awake_any _).mono ?_); rintro e w3 ⟨rfl, hq⟩; have B3 := Lib.hid (Below.then_ B2.out (below_new hq)); clear hq)))
    go_ret
    exact ⟨rfl, B3.out⟩
set_option maxRecDepth 100000 in
set_option maxHeartbeats 8000000 in
theorem weighted_many (k c : UInt64) (p : Option Addr) (n cap : Nat) (ws : List Int) (w : World) (hcap : n ≤ cap) (hlen : n ≤ 9223372036854775807) (h40 : 40 < n) (h : IntsAt w (.slice p 40 cap) ws) : Calls Try.prog 5 #[rv k c, .slice p n cap] w (tBool w true) := by
  have h1 := fun w' (hb : Below w.heap.size w w') => weightCode k c ws _ w' (h.later hb)
  have h2 := fun w' (hb : Below w.heap.size w w') => weightRef k c ws _ w' (h.later hb)
  rcases wgt_cases k c ws with hr | ⟨j, pc, hj, hr, hpos⟩
  · rw [hr] at h1 h2
    have H1 := Lib.hid h1
    have H2 := Lib.hid h2
    clear h1 h2 h hr
    go_enter Try.func5, Try.ntmps5
    go_wp2_with (first
      | (go_at_call 21; ((with_reducible refine (H1.out _ ((Below.refl _ _).alloc (Nat.le_refl _) _)).mono ?_); rintro e w1 ⟨rfl, hq⟩; have T1 := Lib.hid (two_new hq); obtain ⟨_, c0, c1, _, _⟩ := T1.out; have B1 := Lib.hid (below_new hq); clear hq))
      | (go_at_call 22; ((with_reducible refine (H2.out _ (B1.out.alloc B1.out.size _)).mono ?_); rintro e w2 ⟨rfl, hq⟩; have N1 := Lib.hid (two_new hq); obtain ⟨_, c0, c1, _, _⟩ := N1.out; have B2 := Lib.hid (Below.then_ B1.out (below_new hq)); clear hq))
      | (go_at_call 18; ((with_reducible refine (awake_any _).mono ?_); rintro e w3 ⟨rfl, hq⟩; have B3 := Lib.hid (Below.then_ B2.out (below_new hq)); clear hq)))
    go_ret
    exact ⟨rfl, B3.out⟩
  · rw [hr] at h1 h2
    have H1 := Lib.hid h1
    have H2 := Lib.hid h2
    obtain ⟨p', cap', e, _, _, hi, hx⟩ := h
    obtain ⟨rfl, hl, rfl⟩ : p = p' ∧ 40 = ws.length ∧ cap = cap' := by simpa using e
    obtain ⟨b, off, rfl, hb, hc⟩ := hx (by omega)
    have hcj := Lib.hid (hc j hj)
    have hjm : j < 40 := by omega
    obtain ⟨x, hxx⟩ : ∃ x, ws[j] = x := ⟨_, rfl⟩
    rw [hxx] at hpos hcj
    have hb' := hb
    clear h1 h2 hr hxx hx hc hi e hl
    go_enter Try.func5, Try.ntmps5
    go_wp2_with (first
      | (go_at_call 21; ((with_reducible refine (H1.out _ ((Below.refl _ _).alloc (Nat.le_refl _) _)).mono ?_); rintro e w1 ⟨rfl, hq⟩; have T1 := Lib.hid (two_new hq); obtain ⟨_, c0, c1, _, _⟩ := T1.out; have B1 := Lib.hid (below_new hq); clear hq))
      | (go_at_call 22; ((with_reducible refine (H2.out _ (B1.out.alloc B1.out.size _)).mono ?_); rintro e w2 ⟨rfl, hq⟩; have N1 := Lib.hid (two_new hq); obtain ⟨_, c0, c1, _, _⟩ := N1.out; have B2 := Lib.hid (Below.then_ B1.out (below_new hq)); have g0 : w2.cell? ⟨b, off + j, none⟩ = some (.int .i64 x) := (B2.out.cell (p := ⟨b, off + j, none⟩) hb).trans hcj.out; have g1 : b < w2.heap.size := Nat.lt_of_lt_of_le hb B2.out.size; clear hq))
      | (go_at_call 18; ((with_reducible refine (awake_any _).mono ?_); rintro e w3 ⟨rfl, hq⟩; have B3 := Lib.hid (Below.then_ B2.out (below_new hq)); clear hq)))
    go_ret
    exact ⟨rfl, B3.out⟩
theorem weighted_any (k c : UInt64) (ws : List Int) (v : Value) (w : World) (h : IntsAt w v ws) : Calls Try.prog 5 #[rv k c, v] w (tBool w true) := by
  obtain ⟨p, cap, rfl, hcap, hlen, _⟩ := id h
  by_cases h40 : ws.length ≤ 40
  · exact weighted_few k c p _ cap ws w hcap hlen h40 h
  · exact weighted_many k c p _ cap _ w hcap hlen (by omega) (h.take (m := 40) (by omega))
end Go.Proofs.Ytahjgepjhihhjaa.RngW
