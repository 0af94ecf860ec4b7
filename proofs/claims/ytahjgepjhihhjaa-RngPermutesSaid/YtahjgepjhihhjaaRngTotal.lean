/-
  A slice of weights; what 'total' of package rng returns.
-/
import Derived.Test.YtahjgepjhihhjaaRngBelowR
namespace Go.Proofs.Ytahjgepjhihhjaa.RngW
open Go Go.RowKit Go.Proofs.Ytahjgepjhihhjaa.HashM Go.Proofs.Ytahjgepjhihhjaa.HashW Go.Proofs.Ytahjgepjhihhjaa.RngM

/-- The value is a slice of these numbers. -/
def IntsAt (w : World) (v : Value) (ws : List Int) : Prop :=
  ∃ p cap, v = .slice p ws.length cap ∧ ws.length ≤ cap ∧ ws.length ≤ 9223372036854775807 ∧ (∀ i (h : i < ws.length), -9223372036854775808 ≤ ws[i] ∧ ws[i] ≤ 9223372036854775807) ∧ (0 < ws.length → ∃ b off, p = some ⟨b, off, none⟩ ∧ b < w.heap.size ∧ ∀ i (h : i < ws.length), w.cell? ⟨b, off + i, none⟩ = some (.int .i64 ws[i]))
theorem IntsAt.later {w w' : World} {v : Value} {ws : List Int} (h : IntsAt w v ws) (hb : Below w.heap.size w w') : IntsAt w' v ws := by
  obtain ⟨p, cap, rfl, hc, hl, hi, hx⟩ := h
  refine ⟨p, cap, rfl, hc, hl, hi, fun h0 => ?_⟩
  obtain ⟨b, off, hp, hbs, hcell⟩ := hx h0
  refine ⟨b, off, hp, Nat.lt_of_lt_of_le hbs hb.size, fun i hi => ?_⟩
  rw [hb.cell hbs]
  exact hcell i hi
/-- The greatest sum. -/
def mx : Int := 1099511627776
set_option maxRecDepth 100000 in
set_option maxHeartbeats 4000000 in
theorem totalCode (ws : List Int) (v : Value) (w : World) (h : IntsAt w v ws) :
    Calls Try.prog 34 #[v] w fun e w' => e = .returned (.int .i64 (totW mx ws)) ∧ w = w' := by
  obtain ⟨p, cap, rfl, hcap, hlen, hi, hx⟩ := h
  have HX := Lib.hid hx
  have HI := Lib.hid hi
  clear hx hi
  obtain ⟨n, hn⟩ : ∃ n, ws.length = n := ⟨_, rfl⟩
  rw [hn] at hcap hlen
  rw [hn]
  have HN := Lib.hid hn
  clear hn
  go_enter Try.func34, Try.ntmps34
  go_wp2
  go_loop [3, 8] (fun s i => ∃ (k : Nat) (S : Int), k ≤ n ∧ i = .int .i64 k ∧ s = .int .i64 S ∧ 0 ≤ S ∧ S ≤ 1099511627776 ∧ S = sumW (ws.take k) ∧ okW mx ws 0 = okW mx (ws.drop k) S) (fun _ i => n - (intOf i).toNat)
  case atStart => exact ⟨0, 0, Nat.zero_le _, rfl, rfl, by omega, by omega, rfl, rfl⟩
  case round =>
    obtain ⟨k, S, hk, rfl, rfl, s0, s1, hs, ho⟩ := hrel
    by_cases hlt : k < n
    · have hl : k < ws.length := by rw [HN.out]; exact hlt
      obtain ⟨b, off, hp, hbs, hc⟩ := HX.out (by omega)
      subst hp
      have hck := hc k hl
      have hb := HI.out k hl
      have hst := sumW_take_succ ws k hl
      rw [drop_at ws k hl] at ho
      generalize ws[k] = x at *
      clear hc hl
      by_cases h1 : x < 0
      · have HT : Hid (totW mx ws = 0) := Lib.hid (by unfold totW; rw [ho, okW_here (m := mx) (.inl h1)]; rfl)
        clear ho hst hs
        go_wp2
        go_ret
        exact ⟨by rw [HT.out]; rfl, rfl⟩
      · by_cases h2 : 1099511627776 - S < x
        · have HT : Hid (totW mx ws = 0) := Lib.hid (by unfold totW; rw [ho, okW_here (m := mx) (.inr (show mx - S < x from h2))]; rfl)
          clear ho hst hs
          go_wp2
          go_ret
          exact ⟨by rw [HT.out]; rfl, rfl⟩
        · have HO := Lib.hid (ho.trans (okW_next (by unfold mx; omega)))
          have HS := Lib.hid (show S + x = sumW (ws.take (k + 1)) by rw [hst, hs])
          clear ho hst hs
          go_wp2
          go_round
          case rel => exact ⟨k + 1, S + x, by omega, by go_num, rfl, by omega, by omega, HS.out, HO.out⟩
          case measure => simp [intOf]; omega
    · obtain rfl : n = k := by omega
      have HT : Hid (totW mx ws = S) := Lib.hid (by
        unfold totW
        rw [ho, hs, ← HN.out, List.drop_length, List.take_length]; rfl)
      clear ho hs
      go_wp2
      go_ret
      exact ⟨by rw [HT.out]; rfl, rfl⟩
end Go.Proofs.Ytahjgepjhihhjaa.RngW
