/-
  Names of variables: what the code's isVariableName and the reference's IsVar return.
-/
import Derived.Test.YtlnomiiphlbamaaGreatDoorExMem
import Derived.Test.YtlnomiiphlbamaaGreatDoorLexRefW
namespace Go.Proofs.YtlnomiiphlbamaaGreatDoor.ExW
open Go Go.RowKit Go.Proofs.YtlnomiiphlbamaaGreatDoor.NumM Go.Proofs.YtlnomiiphlbamaaGreatDoor.LexW Go.Proofs.YtlnomiiphlbamaaGreatDoor.LexM Go.Proofs.YtlnomiiphlbamaaGreatDoor.ExM

theorem nm_wrd {l : List UInt8} (h : nmB l = true) : ∀ c ∈ l, wrd c = true := by
  cases l with
  | nil => simp
  | cons a r =>
    unfold nmB at h
    simp only [Bool.and_eq_true] at h
    exact List.all_eq_true.1 h.2.2.2
theorem nm_no {l : List UInt8} (h : nmB l = true) : (91 : UInt8) ∉ l := fun hm => by
  have := nm_wrd h _ hm
  revert this; decide
/-- What follows the bracket. -/
def idxB (l : List UInt8) : Bool := match l with | [d, c] => decide (48 ≤ d.toNat ∧ d.toNat ≤ 55) && decide (c = 93) | _ => false
theorem idx_iff {l : List UInt8} : idxB l = true ↔ ∃ d : UInt8, l = [d, 93] ∧ (48 ≤ d.toNat ∧ d.toNat ≤ 55) := by
  unfold idxB
  split
  · rename_i d c
    simp only [Bool.and_eq_true, decide_eq_true_eq]
    constructor
    · rintro ⟨a, rfl⟩; exact ⟨d, rfl, a⟩
    · rintro ⟨d', h, a⟩
      have h1 : d = d' := by simpa using congrArg (fun l => l.head?) h
      have h2 : c = 93 := by simpa using congrArg (fun l => l.tail.head?) h
      exact ⟨by rw [h1]; exact a, h2⟩
  · rename_i hn
    simp only [Bool.false_eq_true, false_iff]
    rintro ⟨d, rfl, _⟩
    exact hn d 93 rfl
theorem elm_iff {l : List UInt8} : elmB l = true ↔ ∃ r d, l = r ++ 91 :: [d, 93] ∧ (48 ≤ d.toNat ∧ d.toNat ≤ 55) ∧ nmB r = true := by
  unfold elmB
  split
  · rename_i c d b r hr
    have hl : l = r.reverse ++ [b, d, c] := by rw [← List.reverse_reverse l, hr]; simp
    simp only [Bool.and_eq_true, decide_eq_true_eq]
    constructor
    · rintro ⟨rfl, rfl, a, n⟩
      exact ⟨r.reverse, d, hl, a, n⟩
    · rintro ⟨r', d', h, a, n⟩
      rw [hl] at h
      have hlen : r.reverse.length = r'.length := by have := congrArg List.length h; simp at this; simpa using this
      obtain ⟨h1, h2⟩ := List.append_inj h hlen
      have e1 : b = 91 := by simpa using congrArg (fun l => l.head?) h2
      have e2 : d = d' := by simpa using congrArg (fun l => l.tail.head?) h2
      have e3 : c = 93 := by simpa using congrArg (fun l => l.tail.tail.head?) h2
      exact ⟨e3, e1, by rw [e2]; exact a, by rw [h1]; exact n⟩
  · rename_i hn
    simp only [Bool.false_eq_true, false_iff]
    rintro ⟨r, d, rfl, _⟩
    exact hn 93 d 91 r.reverse (by simp)
theorem var_none {l : List UInt8} (h : (91 : UInt8) ∉ l) : varB l = nmB l := by
  unfold varB
  have : elmB l = false := by
    rw [Bool.eq_false_iff]; intro e
    obtain ⟨r, d, rfl, _⟩ := elm_iff.1 e
    exact h (by simp)
  rw [this]; rfl
theorem split_at {a b c d : List UInt8} (h : a ++ 91 :: b = c ++ 91 :: d) (ha : (91 : UInt8) ∉ a) (hc : (91 : UInt8) ∉ c) : a = c ∧ b = d := by
  induction a generalizing c with
  | nil =>
    cases c with
    | nil => simpa using h
    | cons x r =>
      have : (91 : UInt8) = x := by simpa using congrArg (fun l => l.head?) h
      exact absurd (by rw [this]; simp) hc
  | cons y q ih =>
    cases c with
    | nil =>
      have : y = (91 : UInt8) := by simpa using congrArg (fun l => l.head?) h
      exact absurd (by rw [this]; simp) ha
    | cons x r =>
      simp only [List.cons_append, List.cons.injEq] at h
      obtain ⟨h1, h2⟩ := ih h.2 (fun m => ha (by simp [m])) (fun m => hc (by simp [m]))
      exact ⟨by rw [h.1, h1], h2⟩
theorem var_some {a b : List UInt8} (h : (91 : UInt8) ∉ a) : varB (a ++ 91 :: b) = (nmB a && idxB b) := by
  unfold varB
  have h0 : nmB (a ++ 91 :: b) = false := by
    rw [Bool.eq_false_iff]; intro e
    exact nm_no e (by simp)
  rw [h0, Bool.or_false, Bool.eq_iff_iff, elm_iff, Bool.and_eq_true, idx_iff]
  constructor
  · rintro ⟨r, d, e, hd, n⟩
    obtain ⟨e1, e2⟩ := split_at e h (nm_no n)
    exact ⟨by rw [e1]; exact n, d, e2, hd⟩
  · rintro ⟨n, d, rfl, hd⟩
    exact ⟨a, d, rfl, hd, n⟩
theorem ext_list (s : ByteArray) (a e : Nat) : (s.extract a e).data.toList = (s.data.toList.drop a).take (e - a) := by
  simp [ByteArray.data_extract, Array.toList_extract]
/-- The two parts around the first bracket, and whether there is one. -/
def cutB (s t b : ByteArray) (f : Bool) : Prop := t.size ≤ s.size ∧ b.size ≤ s.size ∧ (91 : UInt8) ∉ t.data.toList ∧ ((f = true ∧ s.data.toList = t.data.toList ++ 91 :: b.data.toList) ∨ (f = false ∧ t.data.toList = s.data.toList))
set_option maxRecDepth 100000 in
set_option maxHeartbeats 8000000 in
theorem cutLite (s : ByteArray) (hs : s.size ≤ 140737488351232) :
    ∃ t b f, cutB s t b f ∧ ∀ w, Calls Tryz.prog 117 #[.string s, .string ⟨#[91]⟩] w fun e w' => e = .returned (.tuple #[.string t, .string b, .bool f]) ∧ Below w.heap.size w w' := by
  have IX := fun w => Tryz.stringslite_Index_one s 91 w
  have hge := Lib.indexByte_ge s.data.toList 91
  have hlen : s.data.toList.length = s.size := by simp
  by_cases h : Lib.indexByte s.data.toList 91 = -1
  · have e := fun j => Lib.indexByte_none h j
    rw [h] at IX
    have IX := Lib.hid IX
    have P : Hid (cutB s s ⟨#[]⟩ false) := Lib.hid ⟨Nat.le_refl _, Nat.zero_le _, fun hm => by
      obtain ⟨j, hj, he⟩ := List.mem_iff_getElem.1 hm
      exact e j (by rw [List.getElem?_eq_getElem hj, he]), .inr ⟨rfl, rfl⟩⟩
    clear h hge e hlen
    refine ⟨_, _, _, P.out, fun w => ?_⟩
    go_enter Tryz.func117, Tryz.ntmps117
    go_wp2_with (go_at_call 129; ((with_reducible refine (IX.out _).mono ?_); rintro e w' ⟨rfl, rfl⟩))
    refine bodyPost_ret (v := .tuple #[.string s, .string ⟨#[]⟩, .bool false]) (by simp [results, Tryz.results117, go_sem]) rfl ?_
    exact ⟨rfl, Below.refl _ _⟩
  · obtain ⟨k, hk⟩ : ∃ k : Nat, Lib.indexByte s.data.toList 91 = (k : Int) := ⟨(Lib.indexByte s.data.toList 91).toNat, by omega⟩
    obtain ⟨h1, h2⟩ := Lib.indexByte_some hk
    have hlt : k < s.data.toList.length := by
      apply Nat.lt_of_not_le
      intro g
      rw [List.getElem?_eq_none g] at h1
      cases h1
    rw [hk] at IX
    have IX := Lib.hid IX
    have P : Hid (cutB s (s.extract 0 k) (s.extract (k + 1) s.size) true) := Lib.hid (by
      have q1 : (s.extract 0 k).data.toList = s.data.toList.take k := by rw [ext_list]; simp
      have q2 : (s.extract (k + 1) s.size).data.toList = s.data.toList.drop (k + 1) := by
        rw [ext_list, List.take_of_length_le (by rw [List.length_drop]; omega)]
      have z1 := congrArg List.length q1
      have z2 := congrArg List.length q2
      rw [len_data, List.length_take, len_data] at z1
      rw [len_data, List.length_drop, len_data] at z2
      refine ⟨by omega, by omega, ?_, .inl ⟨rfl, ?_⟩⟩
      · rw [q1]
        intro hm
        obtain ⟨j, hj, he⟩ := List.mem_iff_getElem.1 hm
        rw [List.length_take] at hj
        rw [List.getElem_take] at he
        exact h2 j (by omega) (by rw [List.getElem?_eq_getElem (by omega), he])
      · rw [q1, q2]
        have := List.take_append_drop k s.data.toList
        have hd : s.data.toList.drop k = 91 :: s.data.toList.drop (k + 1) := by
          rw [List.drop_eq_getElem_cons hlt]
          have : s.data.toList[k] = 91 := by rw [List.getElem?_eq_getElem hlt] at h1; simpa using h1
          rw [this]
        rw [← hd]; exact this.symm)
    rw [hlen] at hlt
    have b1 : (0 : Int) ≤ (k : Int) := by omega
    have b2 : (k : Int) ≤ (s.size : Int) := by omega
    have b3 : (k : Int) + 1 ≤ (s.size : Int) := by omega
    have b4 : IntKind.i64.wrap ((k : Int) + 1) = (k : Int) + 1 := by rw [IntKind.wrap_i64]; omega
    have b5 : ((k : Int) + 1).toNat = k + 1 := by omega
    clear h hge hlen hk h1 h2
    refine ⟨_, _, _, P.out, fun w => ?_⟩
    go_enter Tryz.func117, Tryz.ntmps117
    go_wp2_with (go_at_call 129; ((with_reducible refine (IX.out _).mono ?_); rintro e w' ⟨rfl, rfl⟩))
    go_region
    all_goals
      go_wp2
      refine bodyPost_ret (v := .tuple #[.string (s.extract 0 k), .string (s.extract (k + 1) s.size), .bool true]) (by simp [results, Tryz.results117, go_sem]) rfl ?_
      exact ⟨rfl, by first | exact Below.refl _ _ | exact (Below.refl _ _).drew⟩
set_option maxRecDepth 100000 in
set_option maxHeartbeats 4000000 in
theorem cutCode (s : ByteArray) (hs : s.size ≤ 140737488351232) :
    ∃ t b f, cutB s t b f ∧ ∀ w, Calls Tryz.prog 100 #[.string s, .string ⟨#[91]⟩] w fun e w' => e = .returned (.tuple #[.string t, .string b, .bool f]) ∧ Below w.heap.size w w' := by
  obtain ⟨t, b, f, P, C⟩ := cutLite s hs
  refine ⟨t, b, f, P, fun w => ?_⟩
  have C := Lib.hid C
  clear hs P
  go_enter Tryz.func100, Tryz.ntmps100
  go_wp2_with (go_at_call 117; ((with_reducible refine (C.out _).mono ?_); rintro e w1 ⟨rfl, hb⟩; have HB := Lib.hid hb; clear hb))
  refine bodyPost_ret (v := .tuple #[.string t, .string b, .bool f]) (by simp [results, Tryz.results100, go_sem]) rfl ?_
  exact ⟨rfl, HB.out⟩
theorem two_bytes {s : ByteArray} (h : s.size = 2) : s.data.toList = [s[0], s[1]] := by
  apply List.ext_getElem
  · have := len_data s
    simp only [List.length_cons, List.length_nil]; omega
  · intro i h1 h2
    simp only [List.length_cons, List.length_nil] at h2
    match i, h2 with
    | 0, _ => rfl
    | 1, _ => rfl
set_option maxRecDepth 100000 in
theorem isIndex_any (s : ByteArray) (w : World) : Calls Tryz.prog 101 #[.string s] w fun e w' => e = .returned (.bool (idxB s.data.toList)) ∧ w = w' := by
  by_cases h : s.size = 2
  · have e2 := two_bytes h
    have h0 : 0 < s.size := by omega
    have h1 : 1 < s.size := by omega
    by_cases g1 : 48 ≤ (s[0].toNat : Int)
    · by_cases g2 : (s[0].toNat : Int) < 56
      · by_cases g3 : (s[1].toNat : Int) = 93
        · have EE : Hid (true = idxB s.data.toList) := Lib.hid (by
            rw [e2, eq_comm, idx_iff]
            refine ⟨s[0], ?_, by omega, by omega⟩
            have : s[1] = 93 := UInt8.toNat_inj.1 (by show s[1].toNat = 93; omega)
            rw [this])
          clear e2
          go_enter Tryz.func101, Tryz.ntmps101
          go_wp2
          go_ret
          exact ⟨retb EE.out, rfl⟩
        · have EE : Hid (false = idxB s.data.toList) := Lib.hid (by
            rw [e2]
            have : (s[1] = 93) ↔ False := by constructor
                                             · intro x; rw [x] at g3; exact g3 rfl
                                             · exact False.elim
            simp [idxB, this])
          have g4 : ((s[1].toNat : Int) == 93) = false := by rw [beq_eq_false_iff_ne]; exact g3
          clear e2 g3
          go_enter Tryz.func101, Tryz.ntmps101
          go_wp2
          go_ret
          exact ⟨retb EE.out, rfl⟩
      · have EE : Hid (false = idxB s.data.toList) := Lib.hid (by rw [e2]; simp [idxB]; intros; omega)
        clear e2
        go_enter Tryz.func101, Tryz.ntmps101
        go_wp2
        go_ret
        exact ⟨retb EE.out, rfl⟩
    · have EE : Hid (false = idxB s.data.toList) := Lib.hid (by rw [e2]; simp [idxB]; intros; omega)
      clear e2
      go_enter Tryz.func101, Tryz.ntmps101
      go_wp2
      go_ret
      exact ⟨retb EE.out, rfl⟩
  · have EE : Hid (false = idxB s.data.toList) := Lib.hid (by
      rw [eq_comm, Bool.eq_false_iff]; intro e
      obtain ⟨d, hd, _⟩ := idx_iff.1 e
      have := len_data s
      rw [hd] at this
      exact h this.symm)
    have h2 : ((s.size : Int) == 2) = false := by rw [beq_eq_false_iff_ne]; omega
    clear h
    go_enter Tryz.func101, Tryz.ntmps101
    go_wp2
    go_ret
    exact ⟨retb EE.out, rfl⟩
theorem nameS_eq (l : List UInt8) : nameS l = nmB l := name_iff l
set_option maxRecDepth 100000 in
set_option maxHeartbeats 4000000 in
theorem isVar_any (s : ByteArray) (w : World) (hs : s.size ≤ 140737488351232) (ht : Tab w) :
    Calls Tryz.prog 67 #[.string s] w (tBool (varB s.data.toList) w) := by
  obtain ⟨t, b, f, ⟨p1, p2, p3, p4⟩, C⟩ := cutCode s hs
  have C := Lib.hid C
  have HT := Lib.hid ht
  have NC : Hid (∀ W, Below w.heap.size w W → Calls Tryz.prog 68 #[.string t] W fun e w' => e = .returned (.bool (nmB t.data.toList)) ∧ Below W.heap.size W w') :=
    Lib.hid fun W hb => by rw [← nameS_eq]; exact isName_any t W (by omega) (HT.out.later hb)
  have IC : Hid (∀ W, Calls Tryz.prog 101 #[.string b] W fun e w' => e = .returned (.bool (idxB b.data.toList)) ∧ W = w') := Lib.hid fun W => isIndex_any b W
  have VV : Hid (varB s.data.toList = (nmB t.data.toList && (!f || idxB b.data.toList))) := Lib.hid (by
    rcases p4 with ⟨rfl, e⟩ | ⟨rfl, e⟩
    · rw [e, var_some p3]; rfl
    · rw [← e, var_none p3]; simp)
  clear ht p1 p2 p3 p4
  generalize nmB t.data.toList = n at *
  generalize idxB b.data.toList = i at *
  cases n
  · go_enter Tryz.func67, Tryz.ntmps67
    go_wp2_with (first
      | (go_at_call 100; ((with_reducible refine (C.out _).mono ?_); rintro e w1 ⟨rfl, hb⟩; have HB := Lib.hid hb; clear hb))
      | (go_at_call 68; ((with_reducible refine (NC.out _ HB.out).mono ?_); rintro e w2 ⟨rfl, hb⟩; have HB2 := Lib.hid hb; clear hb)))
    go_ret
    exact tBool_mk (by rw [VV.out]; rfl) (HB.out.then_ HB2.out)
  · cases f
    · go_enter Tryz.func67, Tryz.ntmps67
      go_wp2_with (first
        | (go_at_call 100; ((with_reducible refine (C.out _).mono ?_); rintro e w1 ⟨rfl, hb⟩; have HB := Lib.hid hb; clear hb))
        | (go_at_call 68; ((with_reducible refine (NC.out _ HB.out).mono ?_); rintro e w2 ⟨rfl, hb⟩; have HB2 := Lib.hid hb; clear hb)))
      go_ret
      exact tBool_mk (by rw [VV.out]; rfl) (HB.out.then_ HB2.out)
    · go_enter Tryz.func67, Tryz.ntmps67
      go_wp2_with (first
        | (go_at_call 100; ((with_reducible refine (C.out _).mono ?_); rintro e w1 ⟨rfl, hb⟩; have HB := Lib.hid hb; clear hb))
        | (go_at_call 68; ((with_reducible refine (NC.out _ HB.out).mono ?_); rintro e w2 ⟨rfl, hb⟩; have HB2 := Lib.hid hb; clear hb))
        | (go_at_call 101; ((with_reducible refine (IC.out _).mono ?_); rintro e w3 ⟨rfl, rfl⟩)))
      go_ret
      exact tBool_mk (by rw [VV.out]; rfl) (HB.out.then_ HB2.out)
end Go.Proofs.YtlnomiiphlbamaaGreatDoor.ExW
