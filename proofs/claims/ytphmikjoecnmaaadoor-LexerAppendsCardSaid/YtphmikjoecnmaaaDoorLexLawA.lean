/-
  The walk of LexerAppends.
-/
import Derived.Test.YtphmikjoecnmaaaDoorLexLawJ
import Derived.Test.YtphmikjoecnmaaaDoorLexRefT
namespace Go.Proofs.YtphmikjoecnmaaaDoor.LexW
open Go Go.RowKit Go.Proofs.YtphmikjoecnmaaaDoor.NumM Go.Proofs.YtphmikjoecnmaaaDoor.LexM

/-- The beginning of a slice of tokens. -/
theorem ToksAt.head {w : World} {p : Option Addr} {n m cap : Nat} {l l' : List Tk} (h : ToksAt w (.slice p m cap) (l ++ l')) (hn : l.length = n) : ToksAt w (.slice p n cap) l := by
  obtain ⟨p', cap', hv, hc, hx⟩ := h
  cases hv
  rw [List.length_append] at hc
  refine ⟨p, cap, by rw [hn], by omega, fun h0 => ?_⟩
  obtain ⟨b, off, hp, hb, hcell⟩ := hx (by rw [List.length_append]; omega)
  exact ⟨b, off, hp, hb, fun i t hi => hcell i t (by rw [List.getElem?_append_left (List.getElem?_eq_some_iff.1 hi).1]; exact hi)⟩
theorem appends_awake (s t : ByteArray) (w : World) (h : 500 < s.size ∨ 500 < t.size) (ht : Tab w) : Calls Tryd.prog 6 #[.string s, .string t] w fun e w' => e = .returned (.bool true) ∧ Below w.heap.size w w' := by
  have HA := Lib.hid (awake_any w ht)
  by_cases h1 : 500 < s.size
  · clear h
    go_enter Tryd.func6, Tryd.ntmps6
    go_wp2_with (go_at_call 9; ((with_reducible refine HA.out.mono ?_); rintro e w1 ⟨rfl, hb⟩))
    go_ret
    exact ⟨rfl, hb⟩
  · have h2 : 500 < t.size := by omega
    clear h
    go_enter Tryd.func6, Tryd.ntmps6
    go_wp2_with (go_at_call 9; ((with_reducible refine HA.out.mono ?_); rintro e w1 ⟨rfl, hb⟩))
    go_ret
    exact ⟨rfl, hb⟩
set_option maxRecDepth 100000 in
set_option maxHeartbeats 16000000 in
theorem lexerAppends_any (s t : ByteArray) (w : World) (ht : Tab w) : Calls Tryd.prog 6 #[.string s, .string t] w fun e w' => e = .returned (.bool true) ∧ Below w.heap.size w w' := by
  by_cases hsz : 500 < s.size ∨ 500 < t.size
  · exact appends_awake s t w hsz ht
  have hs5 : s.size ≤ 500 := by omega
  have ht5 : t.size ≤ 500 := by omega
  clear hsz
  have HT := Lib.hid ht
  clear ht
  have AW : Hid (∀ W, Below w.heap.size w W → Calls Tryd.prog 9 #[] W fun e w' => e = .returned (.bool true) ∧ Below W.heap.size W w') := Lib.hid fun W hb => awake_any W (HT.out.later hb)
  have B0 := Lib.hid (Below.refl w.heap.size w)
  have ho := lex_out s.data.toList 1 []
  have hlb := lex_lineb s.data.toList 1 [] (by decide)
  have hle := lex_len s.data.toList 1 []
  rcases hrs : lex s.data.toList 1 [] with ⟨A, na, ea⟩
  rw [hrs] at ho hlb hle
  rw [len_data] at hle hlb
  simp only [List.length_nil] at ho hlb hle
  have TA := fun W (hb : Below w.heap.size w W) => tokens_toks s W (HT.out.later hb) (show tokS s.data.toList = (A, na, ea) by rw [tokS_short (by omega), hrs])
  have TA := Lib.hid TA
  obtain ⟨na0, na1⟩ := hlb
  by_cases hea : ea = 0
  · subst hea
    obtain rfl : na = 0 := ho.1 rfl
    have hot := lex_out t.data.toList 1 []
    have hlbt := lex_lineb t.data.toList 1 [] (by decide)
    have hlet := lex_len t.data.toList 1 []
    have hlit := lex_lines t.data.toList 1 []
    have htwo := lex_two s.data.toList t.data.toList (by rw [hrs])
    rcases hrt : lex t.data.toList 1 [] with ⟨Bt, mb, eb⟩
    rw [hrt] at hot hlbt hlet hlit
    rw [hrs, hrt] at htwo
    rw [len_data] at hlet hlbt hlit
    simp only [List.length_nil] at hot hlbt hlet htwo
    have TT := fun W (hb : Below w.heap.size w W) => tokens_toks t W (HT.out.later hb) (show tokS t.data.toList = (Bt, mb, eb) by rw [tokS_short (by omega), hrt])
    have hK : 1 + nl s.data.toList = lnN s s.size := by unfold lnN; rw [List.take_of_length_le (by rw [len_data]; exact Nat.le_refl _)]
    have hKl := lnN_le s s.size
    obtain ⟨K, hKK⟩ : ∃ K, lnN s s.size = K := ⟨_, rfl⟩
    rw [hK, hKK] at htwo
    rw [hKK] at hKl
    have HK := Lib.hid hKK
    have hXd : (s ++ (⟨#[10]⟩ : ByteArray) ++ t).data.toList = s.data.toList ++ 10 :: t.data.toList := by simp
    have hXs : (s ++ (⟨#[10]⟩ : ByteArray) ++ t).size ≤ 16384 := by rw [ByteArray.size_append, ByteArray.size_append]; show s.size + 1 + t.size ≤ 16384; omega
    have hTX : tokS (s ++ (⟨#[10]⟩ : ByteArray) ++ t).data.toList = if eb = 0 then (A ++ Bt.map (shift K), 0, 0) else ([], mb + (K : Int), eb) := by rw [tokS_short hXs, hXd, htwo]
    obtain ⟨X, hX⟩ : ∃ X, s ++ (⟨#[10]⟩ : ByteArray) ++ t = X := ⟨_, rfl⟩
    rw [hX] at hTX
    obtain ⟨nA, hnA⟩ : ∃ nA, A.length = nA := ⟨_, rfl⟩
    obtain ⟨nB, hnB⟩ : ∃ nB, Bt.length = nB := ⟨_, rfl⟩
    rw [hnA] at hle
    rw [hnB] at hlet
    have HNA := Lib.hid hnA
    have HNB := Lib.hid hnB
    have TT := Lib.hid TT
    have HLI := Lib.hid hlit
    have t1 : ¬ 9223372036854775807 < s.size + (⟨#[10]⟩ : ByteArray).size := by show ¬ 9223372036854775807 < s.size + 1; omega
    have t2 : ¬ 9223372036854775807 < s.size + 1 := by omega
    have t3 : ¬ 9223372036854775807 < (s ++ (⟨#[10]⟩ : ByteArray)).size + t.size := by rw [ByteArray.size_append]; show ¬ 9223372036854775807 < s.size + 1 + t.size; omega
    have t4 : ¬ 9223372036854775807 < s.size + 1 + t.size := by omega
    have t5 : ¬ 9223372036854775807 < s.size + (⟨#[10]⟩ : ByteArray).size + t.size := by show ¬ 9223372036854775807 < s.size + 1 + t.size; omega
    obtain ⟨mb0, mb1⟩ := hlbt
    have HTX := Lib.hid hTX
    clear ho hrs hrt htwo hK hKK hXd hXs hnA hnB hlit hTX
    have HOT := Lib.hid hot
    clear hot
    go_enter Tryd.func6, Tryd.ntmps6
    go_wp2_with (go_at_call 10; ((with_reducible refine (TA.out _ B0.out).mono ?_); rintro e w1 ⟨u, rfl, hu, hb⟩; obtain ⟨p1, cap1, rfl, hcap1⟩ := hu.open_ HNA.out; have U1 := Lib.hid hu; have B1 := Lib.hid (Below.then_ B0.out hb); clear hu hb))
    go_loop [8, 9] (fun n i => ∃ j m : Nat, j ≤ s.size ∧ i = .int .i64 j ∧ n = .int .i64 m ∧ m ≤ j + 1 ∧ Hid (lnN s j = m)) (fun _ i => s.size - (intOf i).toNat)
    case atStart => exact ⟨0, 1, Nat.zero_le _, rfl, rfl, by omega, Lib.hid rfl⟩
    case round =>
      obtain ⟨j, m, hj, rfl, rfl, hm, LN⟩ := hrel
      by_cases hlt : j < s.size
      · have hnx := lnN_next s j hlt
        by_cases b : s[j].toNat = 10
        · rw [if_pos b, LN.out] at hnx
          have b1 : ((s[j].toNat : Int) == 10) = true := by simp; omega
          have NX := Lib.hid hnx
          clear hnx b
          go_wp2
          go_round
          case rel => exact ⟨j + 1, m + 1, by omega, by go_num, by go_num, by omega, NX⟩
          case measure => simp [intOf]; omega
        · rw [if_neg b, LN.out] at hnx
          have b1 : ((s[j].toNat : Int) == 10) = false := by simp; omega
          have NX := Lib.hid hnx
          clear hnx b
          go_wp2
          go_round
          case rel => exact ⟨j + 1, m, by omega, by go_num, rfl, by omega, NX⟩
          case measure => simp [intOf]; omega
      · obtain rfl : m = K := by rw [← LN.out, show j = s.size by omega]; exact HK.out
        by_cases heb : eb = 0
        · subst heb
          obtain rfl : mb = 0 := HOT.out.1 rfl
          have hTX2 := HTX.out
          rw [if_pos rfl] at hTX2
          have TX := Lib.hid (fun W (hb : Below w.heap.size w W) => tokens_toks X W (HT.out.later hb) hTX2)
          have HL3 : Hid ((A ++ Bt.map (shift m)).length = nA + nB) := Lib.hid (by rw [List.length_append, List.length_map, HNA.out, HNB.out])
          clear hTX2
          go_wp2_with (first
            | (go_at_call 10; ((with_reducible refine (TT.out _ B1.out).mono ?_); rintro e w2 ⟨u, rfl, hu, hb⟩; obtain ⟨p2, cap2, rfl, hcap2⟩ := hu.open_ HNB.out; have U2 := Lib.hid hu; have B2 := Lib.hid (Below.then_ B1.out hb); have U1b := Lib.hid (U1.out.later hb); clear hu hb))
            | (go_at_call 10; ((with_reducible refine (TX.out _ B2.out).mono ?_); rintro e w3 ⟨u, rfl, hu, hb⟩; obtain ⟨p3, cap3, rfl, hcap3⟩ := hu.open_ HL3.out; have U3 := Lib.hid hu; have B3 := Lib.hid (Below.then_ B2.out hb); have U1c := Lib.hid (U1b.out.later hb); have U2c := Lib.hid (U2.out.later hb); clear hu hb))
            | (go_at_call 12; ((with_reducible refine (same_any A _ _ w3 (ToksAt.head U3.out HNA.out) U1c.out (by rw [HNA.out]; omega)).mono ?_); rintro e w4 ⟨rfl, hb⟩; have U3d := Lib.hid (U3.out.later hb); have U2d := Lib.hid (U2c.out.later hb); have B4 := Lib.hid (Below.then_ B3.out hb); clear hb)))
          go_loopw [16] (fun i wr => ∃ k : Nat, k ≤ nB ∧ i = .int .i64 k ∧ Hid (Below w4.heap.size w4 wr)) (fun i _ => nB - (intOf i).toNat)
          case atStart => exact ⟨0, Nat.zero_le _, rfl, Lib.hid (Below.refl _ _)⟩
          case round =>
            obtain ⟨k, hk, rfl, BR⟩ := hrel
            have BWR := Lib.hid (B4.out.trans (BR.out.mono B4.out.size))
            by_cases hkl : k < nB
            · obtain ⟨x, hxk⟩ : ∃ x, Bt[k]? = some x := ⟨_, List.getElem?_eq_getElem (by rw [HNB.out]; exact hkl)⟩
              have hxl : 1 ≤ x.line ∧ x.line ≤ 1 + (t.size : Int) := by
                rcases HLI.out x (List.mem_of_getElem? hxk) with g | g
                · cases g
                · exact g
              obtain ⟨b, off, rfl, hbs, q0, q1, q2, q3⟩ := U2d.out.cell hxk
              have hxk2 : (A ++ Bt.map (shift m))[nA + k]? = some (shift m x) := by
                rw [List.getElem?_append_right (by rw [HNA.out]; omega), HNA.out, show nA + k - nA = k by omega, List.getElem?_map, hxk]; rfl
              obtain ⟨b2, off2, rfl, hbs2, r0, r1, r2, r3⟩ := U3d.out.cell hxk2
              rw [← BR.out.cell hbs] at q0 q1 q2 q3
              rw [← BR.out.cell hbs2] at r0 r1 r2 r3
              have hbw2 : b2 < wr.heap.size := Nat.lt_of_lt_of_le hbs2 BR.out.size
              clear hxk hxk2
              have e0' : (shift m x).kind = x.kind := rfl
              have e1' : (shift m x).n = x.n := rfl
              have e2' : (shift m x).text = x.text := rfl
              have e3' : (shift m x).line = x.line + m := rfl
              rw [e0'] at r0
              rw [e1'] at r1
              rw [e2'] at r2
              rw [e3'] at r3
              obtain ⟨kd, nn, y2, ln, e0, e1, e2, e3⟩ : ∃ kd nn y2 ln, x.kind = kd ∧ x.n = nn ∧ bs x.text = y2 ∧ x.line = ln := ⟨_, _, _, _, rfl, rfl, rfl, rfl⟩
              rw [e0] at q0 r0
              rw [e1] at q1 r1
              rw [e2] at q2 r2
              rw [e3] at q3 r3 hxl
              obtain ⟨hl0, hl1⟩ := hxl
              have hl2 : ln + (m : Int) ≤ 2000 := by omega
              clear e0 e1 e2 e3 e0' e1' e2' e3'
              go_wp2
              have s2 : 0 ≤ (nA : Int) + (k : Int) := by omega
              have s3 : ((nA : Int) + (k : Int)).toNat = nA + k := by omega
              have s4 : (nA : Int) + (k : Int) < (nA : Int) + (nB : Int) := by omega
              have s5 : nA + k < nA + nB := by omega
              have s1 : IntKind.i64.wrap ((nA : Int) + (k : Int)) = (nA : Int) + (k : Int) := IntWalk.i64_in _ (by omega)
              go_quiet (fail)
              clear s1 s2 s3 s4 s5
              go_wp2
              go_roundw
              case rel => exact ⟨k + 1, by omega, by go_num, Lib.hid (below_dN (BR.out.alloc BR.out.size _) _)⟩
              case measure => simp [intOf]; omega
            · go_wp2_with (go_at_call 9; ((with_reducible refine (AW.out _ BWR.out).mono ?_); rintro e w5 ⟨rfl, hb⟩; have B5 := Lib.hid (Below.then_ BWR.out hb); clear hb))
              go_ret
              exact ⟨rfl, B5.out⟩
        · have hTX2 := HTX.out
          rw [if_neg heb] at hTX2
          have TX := Lib.hid (fun W (hb : Below w.heap.size w W) => tokens_toks X W (HT.out.later hb) hTX2)
          have e0 : (eb == 0) = false := by simpa using heb
          clear hTX2 heb
          go_wp2_with (first
            | (go_at_call 10; ((with_reducible refine (TT.out _ B1.out).mono ?_); rintro e w2 ⟨u, rfl, hu, hb⟩; have B2 := Lib.hid (Below.then_ B1.out hb); clear hu hb))
            | (go_at_call 10; ((with_reducible refine (TX.out _ B2.out).mono ?_); rintro e w3 ⟨u, rfl, hu, hb⟩; obtain ⟨p3, cap3, rfl, hcap3⟩ := hu.open_ (n := 0) rfl; have B3 := Lib.hid (Below.then_ B2.out hb); clear hu hb))
            | (go_at_call 9; ((with_reducible refine (AW.out _ B3.out).mono ?_); rintro e w4 ⟨rfl, hb⟩; have B4 := Lib.hid (Below.then_ B3.out hb); clear hb)))
          go_ret
          exact ⟨rfl, B4.out⟩
  · obtain ⟨hA, _⟩ := ho.2 hea
    subst hA
    have e0 : (ea == 0) = false := by simpa using hea
    clear ho hrs hea
    go_enter Tryd.func6, Tryd.ntmps6
    go_wp2_with (first
      | (go_at_call 10; ((with_reducible refine (TA.out _ B0.out).mono ?_); rintro e w1 ⟨u, rfl, hu, hb⟩; obtain ⟨p1, cap1, rfl, hcap1⟩ := hu.open_ (n := 0) rfl; have B1 := Lib.hid (Below.then_ B0.out hb); clear hu hb))
      | (go_at_call 9; ((with_reducible refine (AW.out _ B1.out).mono ?_); rintro e w2 ⟨rfl, hb⟩; have B2 := Lib.hid (Below.then_ B1.out hb); clear hb)))
    go_ret
    exact ⟨rfl, B2.out⟩
end Go.Proofs.YtphmikjoecnmaaaDoor.LexW
