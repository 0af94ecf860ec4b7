/-
  The walk of LexerJoins.
-/
import Derived.Test.YtphmikjoecnmaaaDoorLexLawT
namespace Go.Proofs.YtphmikjoecnmaaaDoor.LexW
open Go Go.RowKit Go.Proofs.YtphmikjoecnmaaaDoor.NumM Go.Proofs.YtphmikjoecnmaaaDoor.LexM

theorem joinS_ok {l : List Tk} (h : l.all validS = true) : joinS l = (joinT l, 0) := by unfold joinS; rw [h]; rfl
theorem joinS_no {l : List Tk} (h : l.all validS = false) : joinS l = ([], 1) := by unfold joinS; rw [h]; rfl
/-- A slice of tokens by its length. -/
theorem ToksAt.open_ {w : World} {v : Value} {l : List Tk} {n : Nat} (h : ToksAt w v l) (hn : l.length = n) : ∃ p cap, v = .slice p n cap ∧ n ≤ cap := by
  obtain ⟨p, cap, rfl, hc, _⟩ := h
  exact ⟨p, cap, by rw [hn], by omega⟩
theorem ToksAt.cell {w : World} {p : Option Addr} {n cap : Nat} {l : List Tk} {k : Nat} {t : Tk} (h : ToksAt w (.slice p n cap) l) (ht : l[k]? = some t) : ∃ b off, p = some ⟨b, off, none⟩ ∧ b < w.heap.size ∧
    w.cell? ⟨b, off + k * 4, none⟩ = some (.int .i64 t.kind) ∧ w.cell? ⟨b, off + k * 4 + 1, none⟩ = some (.int .i64 t.n) ∧ w.cell? ⟨b, off + k * 4 + 2, none⟩ = some (.string (bs t.text)) ∧ w.cell? ⟨b, off + k * 4 + 3, none⟩ = some (.int .i64 t.line) := by
  obtain ⟨p', cap', hv, hc, hx⟩ := h
  have hk : k < l.length := (List.getElem?_eq_some_iff.1 ht).1
  obtain ⟨b, off, hp, hb, hcell⟩ := hx (by omega)
  cases hv
  exact ⟨b, off, hp, hb, hcell k t ht⟩
set_option maxRecDepth 100000 in
set_option maxHeartbeats 8000000 in
theorem lexerJoins_any (l : List Tk) (v : Value) (w : World) (h : ToksAt w v l) (hX : ∀ t ∈ l, t.text.length ≤ 9223372036854775807) (ht : Tab w) :
    Calls Tryd.prog 5 #[v] w fun e w' => e = .returned (.bool true) ∧ Below w.heap.size w w' := by
  have HV := Lib.hid h
  have HT := Lib.hid ht
  have HXx := Lib.hid hX
  obtain ⟨p, cap, rfl, hcap, hx⟩ := h
  have HX := Lib.hid hx
  clear hx ht hX
  obtain ⟨n, hnn⟩ : ∃ n, l.length = n := ⟨_, rfl⟩
  rw [hnn] at hcap HV ⊢
  have HN := Lib.hid hnn
  clear hnn
  have AW : Hid (∀ W, Below w.heap.size w W → Calls Tryd.prog 9 #[] W fun e w' => e = .returned (.bool true) ∧ Below W.heap.size W w') := Lib.hid fun W hb => awake_any W (HT.out.later hb)
  have B0 := Lib.hid (Below.refl w.heap.size w)
  by_cases hn30 : 30 < n
  · go_enter Tryd.func5, Tryd.ntmps5
    go_wp2_with (go_at_call 9; ((with_reducible refine (AW.out _ B0.out).mono ?_); rintro e w1 ⟨rfl, hb⟩; have B1 := Lib.hid (Below.then_ B0.out hb); clear hb))
    go_ret
    exact ⟨rfl, B1.out⟩
  go_enter Tryd.func5, Tryd.ntmps5
  go_wp2
  go_loop [3] (fun i => ∃ k : Nat, k ≤ n ∧ i = .int .i64 k ∧ Hid (∀ (j : Nat) (t : Tk), j < k → l[j]? = some t → t.text.length ≤ 40)) (fun i => n - (intOf i).toNat)
  case atStart => exact ⟨0, Nat.zero_le _, rfl, Lib.hid fun j t hj => by omega⟩
  case round =>
    obtain ⟨k, hk, rfl, SH⟩ := hrel
    by_cases hlt : k < n
    · obtain ⟨t, htk⟩ : ∃ t, l[k]? = some t := ⟨_, List.getElem?_eq_getElem (by rw [HN.out]; exact hlt)⟩
      obtain ⟨b, off, rfl, hbs, _, _, q2, _⟩ := HV.out.cell htk
      have hxt := HXx.out t (List.mem_of_getElem? htk)
      have HTK := Lib.hid htk
      have hbl := len_data (bs t.text)
      rw [data_bs] at hbl
      clear htk
      by_cases h40 : 40 < t.text.length
      · obtain ⟨y, hy⟩ : ∃ y, bs t.text = y := ⟨_, rfl⟩
        rw [hy] at q2 hbl
        have h40' : 40 < y.size := by omega
        clear hy hbl h40
        go_wp2_with (go_at_call 9; ((with_reducible refine (AW.out _ B0.out).mono ?_); rintro e w1 ⟨rfl, hb⟩; have B1 := Lib.hid (Below.then_ B0.out hb); clear hb))
        go_ret
        exact ⟨rfl, B1.out⟩
      · have SH2 : Hid (∀ (j : Nat) (u : Tk), j < k + 1 → l[j]? = some u → u.text.length ≤ 40) := Lib.hid fun j u hj hu => by
          by_cases hjk : j = k
          · subst hjk
            rw [HTK.out] at hu
            rw [← Option.some.inj hu]; omega
          · exact SH.out j u (by omega) hu
        obtain ⟨y, hy⟩ : ∃ y, bs t.text = y := ⟨_, rfl⟩
        rw [hy] at q2 hbl
        have h40' : y.size ≤ 40 := by omega
        clear hy hbl h40
        go_wp2
        go_round
        case rel => exact ⟨k + 1, by omega, by go_num, SH2⟩
        case measure => simp [intOf]; omega
    · have hs40 : ∀ t ∈ l, t.text.length ≤ 40 := fun t ht => by
        obtain ⟨j, hj, he⟩ := List.mem_iff_getElem.1 ht
        exact SH.out j t (by rw [HN.out] at hj; omega) (by rw [List.getElem?_eq_getElem hj, he])
      have J1 : Hid (∀ W, Below w.heap.size w W → Calls Tryd.prog 19 #[.slice p n cap] W (tStr W (joinS l))) := Lib.hid fun W hb => join_any l _ W (HV.out.later hb) (by rw [HN.out]; omega) (fun t ht => by have := hs40 t ht; omega) (HT.out.later hb)
      cases hv : l.all validS
      · rw [joinS_no hv] at J1
        unfold tStr at J1
        simp only at J1
        clear hv hs40
        go_wp2_with (first
          | (go_at_call 19; ((with_reducible refine (J1.out _ B0.out).mono ?_); rintro e w1 ⟨rfl, hb⟩; have B1 := Lib.hid (Below.then_ B0.out hb); clear hb))
          | (go_at_call 9; ((with_reducible refine (AW.out _ B1.out).mono ?_); rintro e w2 ⟨rfl, hb⟩; have B2 := Lib.hid (Below.then_ B1.out hb); clear hb)))
        go_ret
        exact ⟨rfl, B2.out⟩
      · have hjl := joinT_len 40 l hs40
        rw [HN.out] at hjl
        have TS : tokS (bs (joinT l)).data.toList = (l.map (·.at 1), 0, 0) := by
          have e : (bs (joinT l)).data.toList = joinT l := rfl
          rw [tokS_short (by rw [← len_data, e]; omega), e, lex_joined l 1 [] hv]
          rfl
        have TC := fun W (hb : Below w.heap.size w W) => tokens_toks (bs (joinT l)) W (HT.out.later hb) TS
        have hlen2 : (l.map (·.at 1)).length = n := by rw [List.length_map, HN.out]
        have J2 : Hid (∀ W u, Below w.heap.size w W → ToksAt W u (l.map (·.at 1)) → Calls Tryd.prog 19 #[u] W (tStr W (joinS l))) := Lib.hid fun W u hb hu => by
          have q := join_any (l.map (·.at 1)) u W hu (by omega) (fun t ht => by
            obtain ⟨t', ht', rfl⟩ := List.mem_map.1 ht
            have := hs40 t' ht'
            show t'.text.length ≤ 1000
            omega) (HT.out.later hb)
          rw [same_join (same_at l 1)] at q
          exact q
        rw [joinS_ok hv] at J1 J2
        unfold tStr at J1 J2
        simp only at J1 J2
        obtain ⟨y, hy⟩ : ∃ y, bs (joinT l) = y := ⟨_, rfl⟩
        rw [hy] at J1 J2 TC
        have TC := Lib.hid TC
        have HL2 := Lib.hid hlen2
        clear hv hs40 hjl TS hy hlen2
        go_wp2_with (first
          | (go_at_call 19; ((with_reducible refine (J1.out _ B0.out).mono ?_); rintro e w1 ⟨rfl, hb⟩; have B1 := Lib.hid (Below.then_ B0.out hb); clear hb))
          | (go_at_call 10; ((with_reducible refine (TC.out _ B1.out).mono ?_); rintro e w2 ⟨u, rfl, hu, hb⟩; obtain ⟨p2, cap2, rfl, hcap2⟩ := hu.open_ HL2.out; have U2 := Lib.hid hu; have B2 := Lib.hid (Below.then_ B1.out hb); clear hu hb)))
        go_loopw [9] (fun i wr => ∃ k : Nat, k ≤ n ∧ i = .int .i64 k ∧ Hid (Below w2.heap.size w2 wr)) (fun i _ => n - (intOf i).toNat)
        case atStart => exact ⟨0, Nat.zero_le _, rfl, Lib.hid (Below.refl _ _)⟩
        case round =>
          obtain ⟨j, hj, rfl, BR⟩ := hrel
          by_cases hjl : j < n
          · obtain ⟨t, htk⟩ : ∃ t, l[j]? = some t := ⟨_, List.getElem?_eq_getElem (by rw [HN.out]; exact hjl)⟩
            obtain ⟨b, off, rfl, hbs, q0, q1, q2, q3⟩ := HV.out.cell htk
            have htk2 : (l.map (·.at 1))[j]? = some (t.at 1) := by rw [List.getElem?_map, htk]; rfl
            obtain ⟨b2, off2, rfl, hbs2, r0, r1, r2, r3⟩ := U2.out.cell htk2
            have BWR := Lib.hid (B2.out.trans (BR.out.mono B2.out.size))
            rw [← BWR.out.cell hbs] at q0 q1 q2 q3
            rw [← BR.out.cell hbs2] at r0 r1 r2 r3
            have hbw2 : b2 < wr.heap.size := Nat.lt_of_lt_of_le hbs2 BR.out.size
            clear htk htk2
            have e0' : (t.at 1).kind = t.kind := rfl
            have e1' : (t.at 1).n = t.n := rfl
            have e2' : (t.at 1).text = t.text := rfl
            have e3' : (t.at 1).line = 1 := rfl
            rw [e0'] at r0
            rw [e1'] at r1
            rw [e2'] at r2
            rw [e3'] at r3
            obtain ⟨kd, nn, y2, ln, e0, e1, e2, e3⟩ : ∃ kd nn y2 ln, t.kind = kd ∧ t.n = nn ∧ bs t.text = y2 ∧ t.line = ln := ⟨_, _, _, _, rfl, rfl, rfl, rfl⟩
            rw [e0] at q0 r0
            rw [e1] at q1 r1
            rw [e2] at q2 r2
            rw [e3] at q3
            clear e0 e1 e2 e3 e0' e1' e2' e3'
            go_wp2
            go_quiet (fail)
            go_wp2
            go_roundw
            case rel => exact ⟨j + 1, by omega, by go_num, Lib.hid (below_dN (BR.out.alloc BR.out.size _) _)⟩
            case measure => simp [intOf]; omega
          · have BWR := Lib.hid (B2.out.trans (BR.out.mono B2.out.size))
            have U3 := Lib.hid (U2.out.later BR.out)
            go_wp2_with (first
              | (go_at_call 19; ((with_reducible refine (J2.out _ _ BWR.out U3.out).mono ?_); rintro e w3 ⟨rfl, hb⟩; have B3 := Lib.hid (Below.then_ BWR.out hb); clear hb))
              | (go_at_call 9; ((with_reducible refine (AW.out _ B3.out).mono ?_); rintro e w4 ⟨rfl, hb⟩; have B4 := Lib.hid (Below.then_ B3.out hb); clear hb)))
            go_ret
            exact ⟨rfl, B4.out⟩
end Go.Proofs.YtphmikjoecnmaaaDoor.LexW
