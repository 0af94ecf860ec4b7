/-
  The walk of LexerTexts.
-/
import Derived.Test.YtphmikjoecnmaaaDoorLexLawT
namespace Go.Proofs.YtphmikjoecnmaaaDoor.LexW
open Go Go.RowKit Go.Proofs.YtphmikjoecnmaaaDoor.NumM Go.Proofs.YtphmikjoecnmaaaDoor.LexM

set_option maxRecDepth 100000 in
set_option maxHeartbeats 8000000 in
theorem lexerTexts_any (l : List Tk) (v : Value) (w : World) (h : ToksAt w v l) (hI : ∀ t ∈ l, -9223372036854775808 ≤ t.n ∧ t.n ≤ 9223372036854775807) (hX : ∀ t ∈ l, t.text.length ≤ 9223372036854775807) (ht : Tab w) :
    Calls Tryd.prog 4 #[v] w fun e w' => e = .returned (.bool true) ∧ Below w.heap.size w w' := by
  have HV := Lib.hid h
  have HT := Lib.hid ht
  have HI := Lib.hid hI
  have HXx := Lib.hid hX
  obtain ⟨p, cap, rfl, hcap, hx⟩ := h
  have HX := Lib.hid hx
  clear hx ht hI hX
  obtain ⟨n, hnn⟩ : ∃ n, l.length = n := ⟨_, rfl⟩
  rw [hnn] at hcap HV ⊢
  have HN := Lib.hid hnn
  clear hnn
  have AW : Hid (∀ W, Below w.heap.size w W → Calls Tryd.prog 9 #[] W fun e w' => e = .returned (.bool true) ∧ Below W.heap.size W w') := Lib.hid fun W hb => awake_any W (HT.out.later hb)
  go_enter Tryd.func4, Tryd.ntmps4
  go_wp2
  go_loopw [3] (fun i wr => ∃ k : Nat, k ≤ n ∧ k ≤ 31 ∧ i = .int .i64 k ∧ Hid (∀ (j : Nat) (t : Tk), j < k → l[j]? = some t → t.text.length ≤ 40) ∧ Hid (Below w.heap.size w wr)) (fun i _ => 31 - (intOf i).toNat)
  case atStart => exact ⟨0, Nat.zero_le _, Nat.zero_le _, rfl, Lib.hid fun j t hj => by omega, Lib.hid (Below.refl _ _)⟩
  case round =>
    obtain ⟨k, hk, hk31, rfl, SH, BW⟩ := hrel
    by_cases hlt : k < n
    · by_cases h31 : k < 31
      · obtain ⟨b, off, rfl, hbs, hcell⟩ := HX.out (by rw [HN.out]; omega)
        obtain ⟨t, htk⟩ : ∃ t, l[k]? = some t := ⟨_, List.getElem?_eq_getElem (by rw [HN.out]; exact hlt)⟩
        obtain ⟨_, _, q2, _⟩ := hcell k t htk
        rw [← BW.out.cell hbs] at q2
        have hxt := HXx.out t (List.mem_of_getElem? htk)
        have HTK := Lib.hid htk
        have hbl := len_data (bs t.text)
        rw [data_bs] at hbl
        clear hcell htk
        by_cases h40 : 40 < t.text.length
        · obtain ⟨y, hy⟩ : ∃ y, bs t.text = y := ⟨_, rfl⟩
          rw [hy] at q2 hbl
          have h40' : 40 < y.size := by omega
          clear hy hbl h40
          go_wp2_with (go_at_call 9; ((with_reducible refine (AW.out _ BW.out).mono ?_); rintro e w1 ⟨rfl, hb⟩; have B1 := Lib.hid (Below.then_ BW.out hb); clear hb))
          go_ret
          exact ⟨rfl, B1.out⟩
        · have SH2 : Hid (∀ (j : Nat) (u : Tk), j < k + 1 → l[j]? = some u → u.text.length ≤ 40) := Lib.hid fun j u hj hu => by
            by_cases hjk : j = k
            · subst hjk
              rw [HTK.out] at hu
              rw [← Option.some.inj hu]; omega
            · exact SH.out j u (by omega) hu
          have N1 := fun W (hb : Below w.heap.size w W) => isName_any (bs t.text) W (by rw [← len_data]; show t.text.length ≤ 140737488351232; omega) (HT.out.later hb)
          have N2 := fun W => nameR_any (bs t.text) W (by rw [← len_data]; show t.text.length ≤ 140737488351232; omega)
          have K1 := fun W => isKeyword_any (bs t.text) W
          have K2 := fun W => kwR_any (bs t.text) W
          have M1 := fun W => isMark_any (bs t.text) W
          have M2 := fun W => mkR_any (bs t.text) W
          have e1 : nmB (bs t.text).data.toList = nameS (bs t.text).data.toList := (name_iff _).symm
          rw [e1] at N2
          unfold tBool at N2
          obtain ⟨y, hy⟩ : ∃ y, bs t.text = y := ⟨_, rfl⟩
          rw [hy] at q2 hbl N1 N2 K1 K2 M1 M2
          obtain ⟨b1, hb1⟩ : ∃ b1, nameS y.data.toList = b1 := ⟨_, rfl⟩
          obtain ⟨b2, hb2⟩ : ∃ b2, isKw y.data.toList = b2 := ⟨_, rfl⟩
          obtain ⟨b3, hb3⟩ : ∃ b3, isMk y.data.toList = b3 := ⟨_, rfl⟩
          rw [hb1] at N1 N2
          rw [hb2] at K1 K2
          rw [hb3] at M1 M2
          have N1 := Lib.hid N1; have N2 := Lib.hid N2; have K1 := Lib.hid K1; have K2 := Lib.hid K2; have M1 := Lib.hid M1; have M2 := Lib.hid M2
          have h40' : y.size ≤ 40 := by omega
          clear hy hbl h40 e1 hxt hb1 hb2 hb3
          go_wp2_with (first
            | (go_at_call 13; ((with_reducible refine (N1.out _ BW.out).mono ?_); rintro e w1 ⟨rfl, hb⟩; have B1 := Lib.hid (Below.then_ BW.out hb); clear hb))
            | (go_at_call 14; ((with_reducible refine (N2.out _).mono ?_); rintro e w2 ⟨rfl, hb⟩; have B2 := Lib.hid (Below.then_ B1.out hb); clear hb))
            | (go_at_call 15; ((with_reducible refine (K1.out _).mono ?_); rintro e w' ⟨rfl, rfl⟩))
            | (go_at_call 16; ((with_reducible refine (K2.out _).mono ?_); rintro e w3 ⟨rfl, hb⟩; have B3 := Lib.hid (Below.then_ B2.out hb); clear hb))
            | (go_at_call 17; ((with_reducible refine (M1.out _).mono ?_); rintro e w' ⟨rfl, rfl⟩))
            | (go_at_call 18; ((with_reducible refine (M2.out _).mono ?_); rintro e w4 ⟨rfl, hb⟩; have B4 := Lib.hid (Below.then_ B3.out hb); clear hb)))
          go_roundw
          case rel => exact ⟨k + 1, by omega, by omega, by go_num, SH2, B4⟩
          case measure => simp [intOf]; omega
      · have hn30 : 30 < n := by omega
        go_wp2_with (go_at_call 9; ((with_reducible refine (AW.out _ BW.out).mono ?_); rintro e w1 ⟨rfl, hb⟩; have B1 := Lib.hid (Below.then_ BW.out hb); clear hb))
        go_ret
        exact ⟨rfl, B1.out⟩
    · by_cases hn30 : 30 < n
      · go_wp2_with (go_at_call 9; ((with_reducible refine (AW.out _ BW.out).mono ?_); rintro e w1 ⟨rfl, hb⟩; have B1 := Lib.hid (Below.then_ BW.out hb); clear hb))
        go_ret
        exact ⟨rfl, B1.out⟩
      · have hsh : ∀ t ∈ l, t.text.length ≤ 1000 := fun t ht => by
          obtain ⟨j, hj, he⟩ := List.mem_iff_getElem.1 ht
          have := SH.out j t (by rw [HN.out] at hj; omega) (by rw [List.getElem?_eq_getElem hj, he])
          omega
        have J1 : Hid (∀ W, Below w.heap.size w W → Calls Tryd.prog 19 #[.slice p n cap] W (tStr W (joinS l))) := Lib.hid fun W hb => join_any l _ W (HV.out.later hb) (by rw [HN.out]; omega) hsh (HT.out.later hb)
        have J2 : Hid (∀ W, Below w.heap.size w W → Calls Tryd.prog 20 #[.slice p n cap] W (tStr W (joinS l))) := Lib.hid fun W hb => joinRef_any l _ W (HV.out.later hb) (by rw [HN.out]; omega) hsh HI.out
        clear hsh
        rcases hj : joinS l with ⟨x, er⟩
        rw [hj] at J1 J2
        unfold tStr at J1 J2
        simp only at J1 J2
        obtain ⟨y, hy⟩ : ∃ y, bs x = y := ⟨_, rfl⟩
        rw [hy] at J1 J2
        clear hj hy
        go_wp2_with (first
          | (go_at_call 19; ((with_reducible refine (J1.out _ BW.out).mono ?_); rintro e w1 ⟨rfl, hb⟩; have B1 := Lib.hid (Below.then_ BW.out hb); clear hb))
          | (go_at_call 20; ((with_reducible refine (J2.out _ B1.out).mono ?_); rintro e w2 ⟨rfl, hb⟩; have B2 := Lib.hid (Below.then_ B1.out hb); clear hb))
          | (go_at_call 9; ((with_reducible refine (AW.out _ B2.out).mono ?_); rintro e w3 ⟨rfl, hb⟩; have B3 := Lib.hid (Below.then_ B2.out hb); clear hb)))
        go_ret
        exact ⟨rfl, B3.out⟩
end Go.Proofs.YtphmikjoecnmaaaDoor.LexW
