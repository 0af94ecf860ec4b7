/-
  The reference's small functions: named, asks, digit, Element, has, find, element.
-/
import Derived.Test.YtdiackcefojfkaaGreatDoorExFault
import Derived.Test.YtdiackcefojfkaaGreatDoorExSig
import Derived.Test.YtdiackcefojfkaaGreatDoorExWordR
namespace Go.Proofs.YtdiackcefojfkaaGreatDoor.ExW
open Go Go.RowKit Go.Proofs.YtdiackcefojfkaaGreatDoor.NumM Go.Proofs.YtdiackcefojfkaaGreatDoor.LexW Go.Proofs.YtdiackcefojfkaaGreatDoor.LexM Go.Proofs.YtdiackcefojfkaaGreatDoor.ExM

theorem named_any (o : Int) (w : World) : Calls Tryz.prog 97 #[.int .i64 o] w fun e w' => e = .returned (.bool (isVr o || isAr o)) ∧ w = w' := by
  by_cases h2 : o = 2
  · subst h2
    go_enter Tryz.func97, Tryz.ntmps97
    go_wp2
    go_ret
    exact ⟨rfl, rfl⟩
  · by_cases h3 : o = 3
    · subst h3
      go_enter Tryz.func97, Tryz.ntmps97
      go_wp2
      go_ret
      exact ⟨rfl, rfl⟩
    · have e2 : (o == 2) = false := by rw [beq_eq_false_iff_ne]; exact h2
      have e3 : (o == 3) = false := by rw [beq_eq_false_iff_ne]; exact h3
      have EE : Hid ((isVr o || isAr o) = (o == 24)) := Lib.hid (by unfold isVr isAr; rw [decide_eq_false h2, decide_eq_false h3, Bool.eq_iff_iff]; simp)
      clear h2 h3
      go_enter Tryz.func97, Tryz.ntmps97
      go_wp2
      go_ret
      exact ⟨retb (by rw [EE.out]), rfl⟩
theorem asks_any (o : Int) (w : World) : Calls Tryz.prog 70 #[.int .i64 o] w fun e w' => e = .returned (.bool (asksB o)) ∧ w = w' := by
  by_cases h : o = 1
  · subst h
    go_enter Tryz.func70, Tryz.ntmps70
    go_wp2
    go_ret
    exact ⟨rfl, rfl⟩
  · have h0 : (o == 1) = false := by rw [beq_eq_false_iff_ne]; exact h
    have EE : Hid (asksB o = (isVr o || isAr o)) := Lib.hid (by unfold asksB; rw [decide_eq_false h]; rfl)
    have NC := Lib.hid (named_any o w)
    clear h
    go_enter Tryz.func70, Tryz.ntmps70
    go_wp2_with (go_at_call 97; ((with_reducible refine NC.out.mono ?_); rintro e w1 ⟨rfl, rfl⟩))
    go_ret
    exact ⟨retb (by rw [EE.out]), rfl⟩
theorem digit8_any (k : Nat) (hk : k ≤ 7) (w : World) : Calls Tryz.prog 58 #[.int .i64 k] w fun e w' => e = .returned (.string ⟨#[UInt8.ofNat (48 + k)]⟩) ∧ w = w' := by
  obtain rfl | rfl | rfl | rfl | rfl | rfl | rfl | rfl : k = 0 ∨ k = 1 ∨ k = 2 ∨ k = 3 ∨ k = 4 ∨ k = 5 ∨ k = 6 ∨ k = 7 := by omega
  all_goals
    go_enter Tryz.func58, Tryz.ntmps58
    go_wp2
    go_ret
    exact ⟨rfl, rfl⟩
theorem elementR_any (a : ByteArray) (k : Nat) (hk : k ≤ 7) (ha : a.size ≤ 100) (w : World) : Calls Tryz.prog 37 #[.string a, .int .i64 k] w fun e w' => e = .returned (.string (elmN a k)) ∧ w = w' := by
  have DC := digit8_any k hk w
  have HC := Lib.hid (elm_cat a ⟨#[UInt8.ofNat (48 + k)]⟩ k rfl)
  obtain ⟨d, hd⟩ : ∃ d : ByteArray, (⟨#[UInt8.ofNat (48 + k)]⟩ : ByteArray) = d := ⟨_, rfl⟩
  have hds : d.size = 1 := by rw [← hd]; rfl
  rw [hd] at HC DC
  have DC := Lib.hid DC
  clear hd
  go_enter Tryz.func37, Tryz.ntmps37
  go_wp2_with (go_at_call 58; ((with_reducible refine DC.out.mono ?_); rintro e w1 ⟨rfl, rfl⟩))
  go_ret
  rw [HC.out]
  exact ⟨rfl, rfl⟩
/-- A list of texts in memory. -/
def StrsA (w : World) (v : Value) (l : List ByteArray) : Prop :=
  ∃ p cap, v = .slice p l.length cap ∧ l.length ≤ cap ∧ (0 < l.length → ∃ b off, p = some ⟨b, off, none⟩ ∧ ∀ i s, l[i]? = some s → w.cell? ⟨b, off + i, none⟩ = some (.string s))
open Classical in
/-- Is it in the list? -/
noncomputable def inL (s : ByteArray) (l : List ByteArray) : Bool := decide (s ∈ l)
open Classical in
theorem inL_yes {s : ByteArray} {l : List ByteArray} {i : Nat} {t : ByteArray} (h : l[i]? = some t) (e : t.data.toList = s.data.toList) : inL s l = true := by
  unfold inL
  obtain rfl := bs_inj e
  exact decide_eq_true (List.mem_of_getElem? h)
open Classical in
theorem inL_no {s : ByteArray} {l : List ByteArray} (h : ∀ (i : Nat) t, i < l.length → l[i]? = some t → t.data.toList ≠ s.data.toList) : inL s l = false := by
  unfold inL
  refine decide_eq_false fun hm => ?_
  obtain ⟨i, hi, e⟩ := List.mem_iff_getElem.1 hm
  exact h i s hi (by rw [List.getElem?_eq_getElem hi, e]) rfl
set_option maxRecDepth 100000 in
set_option maxHeartbeats 2000000 in
theorem has_any (l : List ByteArray) (v : Value) (s : ByteArray) (w : World) (h : StrsA w v l) (hl : l.length ≤ 100000) :
    Calls Tryz.prog 81 #[v, .string s] w fun e w' => e = .returned (.bool (inL s l)) ∧ w = w' := by
  obtain ⟨p, cap, rfl, hcap, hx⟩ := h
  have HX := Lib.hid hx
  clear hx hcap
  obtain ⟨n, hnn⟩ : ∃ n, l.length = n := ⟨_, rfl⟩
  have HN := Lib.hid hnn
  rw [hnn] at hl ⊢
  clear hnn
  go_enter Tryz.func81, Tryz.ntmps81
  go_wp2
  go_loop [5] (fun i => ∃ k : Nat, k ≤ n ∧ i = .int .i64 k ∧ Hid (∀ (j : Nat) t, j < k → l[j]? = some t → t.data.toList ≠ s.data.toList)) (fun i => n - (intOf i).toNat)
  case atStart => exact ⟨0, Nat.zero_le _, rfl, Lib.hid fun j _ h => by omega⟩
  case round =>
    obtain ⟨k, hk, rfl, NO⟩ := hrel
    by_cases hlt : k < n
    · obtain ⟨b, off, rfl, hcell⟩ := HX.out (by rw [HN.out]; omega)
      obtain ⟨y, hyk⟩ : ∃ y, l[k]? = some y := ⟨_, List.getElem?_eq_getElem (by rw [HN.out]; exact hlt)⟩
      have ca0 := hcell k y hyk
      have HY := Lib.hid hyk
      clear hcell hyk
      by_cases e : y.data.toList = s.data.toList
      · have e1 : (y.toList == s.toList) = true := by rw [Lib.toList_data, Lib.toList_data, e]; simp
        have EE := Lib.hid (inL_yes HY.out e)
        clear e
        go_wp2
        go_ret
        exact ⟨retb EE.out.symm, rfl⟩
      · have e1 : (y.toList == s.toList) = false := by rw [Lib.toList_data, Lib.toList_data]; simpa using e
        have NO2 : Hid (∀ (j : Nat) t, j < k + 1 → l[j]? = some t → t.data.toList ≠ s.data.toList) := Lib.hid fun j t hj ht => by
          rcases Nat.lt_or_ge j k with h | h
          · exact NO.out j t h ht
          · obtain rfl : j = k := by omega
            rw [HY.out] at ht; cases ht; exact e
        clear e
        go_wp2
        go_round
        case rel => exact ⟨k + 1, by omega, by go_num, NO2⟩
        case measure => simp [intOf]; omega
    · have EE := Lib.hid (inL_no (s := s) (l := l) (fun i t hi ht => NO.out i t (by rw [HN.out] at hi; omega) ht))
      go_wp2
      go_ret
      exact ⟨retb EE.out.symm, rfl⟩
set_option maxRecDepth 100000 in
set_option maxHeartbeats 2000000 in
theorem find_any (env : Env) (v : Value) (s : ByteArray) (w : World) (h : SigsAt w v env) (hr : ∀ x ∈ env, -9223372036854775808 ≤ x.2 ∧ x.2 ≤ 9223372036854775807) :
    Calls Tryz.prog 98 #[v, .string s] w fun e w' => e = .returned (.tuple #[.int .i64 (fnd env s), .bool (hasN env s)]) ∧ w = w' := by
  obtain ⟨p, cap, rfl, hl, hcap, hx⟩ := h
  have HX := Lib.hid hx
  have HR := Lib.hid hr
  clear hx hcap hr
  obtain ⟨n, hnn⟩ : ∃ n, env.length = n := ⟨_, rfl⟩
  have HN := Lib.hid hnn
  rw [hnn] at hl ⊢
  clear hnn
  go_enter Tryz.func98, Tryz.ntmps98
  go_wp2
  go_loop [6] (fun i => ∃ k : Nat, k ≤ n ∧ i = .int .i64 k ∧ Hid (findS env s = findS (env.drop k) s)) (fun i => n - (intOf i).toNat)
  case atStart => exact ⟨0, Nat.zero_le _, rfl, Lib.hid rfl⟩
  case round =>
    obtain ⟨k, hk, rfl, FD⟩ := hrel
    by_cases hlt : k < n
    · obtain ⟨b, off, rfl, hbs, hcell⟩ := HX.out (by rw [HN.out]; omega)
      obtain ⟨x, hxk⟩ : ∃ x, env[k]? = some x := ⟨_, List.getElem?_eq_getElem (by rw [HN.out]; exact hlt)⟩
      obtain ⟨ca0, ca1⟩ := hcell k x hxk
      have FK := Lib.hid (find_drop (s := s) hxk)
      obtain ⟨r1, r2⟩ := HR.out x (List.mem_of_getElem? hxk)
      have WC := Lib.hid (WordW.refWrap x.2 w r1 r2)
      obtain ⟨y, u⟩ := x
      simp only at ca0 ca1 r1 r2
      clear hcell hxk
      by_cases e : y.data.toList = s.data.toList
      · have e1 : (y.toList == s.toList) = true := by rw [Lib.toList_data, Lib.toList_data, e]; simp
        have EE := Lib.hid (fnd_some (env := env) (s := s) (v := u % 65536) (by rw [FD.out, FK.out, if_pos e]))
        clear e
        go_wp2_with (go_at_call 120; ((with_reducible refine WC.out.mono ?_); rintro e w1 ⟨rfl, rfl⟩))
        go_ret2
        exact ⟨by rw [EE.out.1, EE.out.2]; rfl, rfl⟩
      · have e1 : (y.toList == s.toList) = false := by rw [Lib.toList_data, Lib.toList_data]; simpa using e
        have FD2 : Hid (findS env s = findS (env.drop (k + 1)) s) := Lib.hid (by rw [FD.out, FK.out, if_neg e])
        clear e
        go_wp2
        go_round
        case rel => exact ⟨k + 1, by omega, by go_num, FD2⟩
        case measure => simp [intOf]; omega
    · have EE := Lib.hid (fnd_none (env := env) (s := s) (by rw [FD.out, List.drop_of_length_le (by rw [HN.out]; omega)]; rfl))
      go_wp2
      go_ret2
      exact ⟨by rw [EE.out.1, EE.out.2]; rfl, rfl⟩
set_option maxHeartbeats 2000000 in
theorem elR_any (env : Env) (v : Value) (a : ByteArray) (i : Int) (w : World) (h : SigsAt w v env) (hr : ∀ x ∈ env, -9223372036854775808 ≤ x.2 ∧ x.2 ≤ 9223372036854775807) (ha : a.size ≤ 100) (hi : 0 ≤ i) :
    Calls Tryz.prog 99 #[v, .string a, .int .i64 i] w fun e w' => e = .returned (.int .i64 (elS env a i)) ∧ w = w' := by
  by_cases hb : 8 ≤ i
  · have EE : Hid (elS env a i = 0) := Lib.hid (if_neg (by omega))
    obtain ⟨p, cap, rfl, _⟩ := h
    go_enter Tryz.func99, Tryz.ntmps99
    go_wp2
    go_ret
    exact ⟨by rw [EE.out]; rfl, rfl⟩
  · obtain ⟨k, rfl⟩ := Int.eq_ofNat_of_zero_le hi
    have hk : k ≤ 7 := by omega
    have EE : Hid (elS env a (k : Int) = fnd env (elmN a k)) := Lib.hid (by unfold elS; rw [if_pos (by omega)]; rfl)
    have FC := Lib.hid (find_any env v (elmN a k) w h hr)
    have EC := Lib.hid (elementR_any a k hk ha w)
    clear h hr hi
    go_enter Tryz.func99, Tryz.ntmps99
    go_wp2_with (first
      | (go_at_call 37; ((with_reducible refine EC.out.mono ?_); rintro e w1 ⟨rfl, rfl⟩))
      | (go_at_call 98; ((with_reducible refine FC.out.mono ?_); rintro e w1 ⟨rfl, rfl⟩)))
    go_ret
    exact ⟨by rw [EE.out]; rfl, rfl⟩
end Go.Proofs.YtdiackcefojfkaaGreatDoor.ExW
