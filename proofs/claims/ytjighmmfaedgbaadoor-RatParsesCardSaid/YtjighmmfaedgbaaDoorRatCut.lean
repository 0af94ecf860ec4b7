/-
  What strings.Cut returns at a slash.
-/
import Derived.Test.YtjighmmfaedgbaaDoorRatText
import Derived.Test.YtjighmmfaedgbaaDoorRatParM
namespace Go.Proofs.YtjighmmfaedgbaaDoor.RatW
open Go Go.RowKit Go.Proofs.YtjighmmfaedgbaaDoor.RatM

/-- The two parts and whether there is a slash. -/
def cutP (s t b : ByteArray) (f : Bool) : Prop := t.data.toList = topL s.data.toList ∧ ((f = true ∧ b.data.toList = botL s.data.toList) ∨ (f = false ∧ botL s.data.toList = [49]))
theorem ext_list (s : ByteArray) (a e : Nat) : (s.extract a e).data.toList = (s.data.toList.drop a).take (e - a) := by
  simp [ByteArray.data_extract, Array.toList_extract]
set_option maxRecDepth 100000 in
set_option maxHeartbeats 8000000 in
theorem cutLite (s : ByteArray) (hs : s.size ≤ 140737488351232) :
    ∃ t b f, cutP s t b f ∧ ∀ w, Calls Tryd.prog 71 #[.string s, .string ⟨#[47]⟩] w fun e w' => e = .returned (.tuple #[.string t, .string b, .bool f]) ∧ Below w.heap.size w w' := by
  have IX := fun w => Tryd.stringslite_Index_one s 47 w
  have hge := Lib.indexByte_ge s.data.toList 47
  have hlen : s.data.toList.length = s.size := by simp
  by_cases h : Lib.indexByte s.data.toList 47 = -1
  · have e := slash_none h
    rw [h] at IX
    have IX := Lib.hid IX
    have P : Hid (cutP s s ⟨#[]⟩ false) := Lib.hid ⟨by unfold topL; rw [e, List.take_length], .inr ⟨rfl, by unfold botL; rw [e, if_neg (by omega)]⟩⟩
    clear h hge e hlen
    refine ⟨_, _, _, P.out, fun w => ?_⟩
    go_enter Tryd.func71, Tryd.ntmps71
    go_wp2_with (go_at_call 85; ((with_reducible refine (IX.out _).mono ?_); rintro e w' ⟨rfl, rfl⟩))
    refine bodyPost_ret (v := .tuple #[.string s, .string ⟨#[]⟩, .bool false]) (by simp [results, Tryd.results71, go_sem]) rfl ?_
    exact ⟨rfl, Below.refl _ _⟩
  · obtain ⟨k, hk⟩ : ∃ k : Nat, Lib.indexByte s.data.toList 47 = (k : Int) := ⟨(Lib.indexByte s.data.toList 47).toNat, by omega⟩
    obtain ⟨e, hlt⟩ := slash_some hk
    rw [hk] at IX
    have IX := Lib.hid IX
    rw [hlen] at hlt
    have P : Hid (cutP s (s.extract 0 k) (s.extract (k + 1) s.size) true) := Lib.hid ⟨by rw [ext_list]; unfold topL; rw [e]; simp, .inl ⟨rfl, by
      rw [ext_list]; unfold botL; rw [e, if_pos (by omega), List.take_of_length_le (by rw [List.length_drop]; omega)]⟩⟩
    have b1 : (0 : Int) ≤ (k : Int) := by omega
    have b2 : (k : Int) ≤ (s.size : Int) := by omega
    have b3 : (k : Int) + 1 ≤ (s.size : Int) := by omega
    have b4 : IntKind.i64.wrap ((k : Int) + 1) = (k : Int) + 1 := by rw [IntKind.wrap_i64]; omega
    have b5 : ((k : Int) + 1).toNat = k + 1 := by omega
    clear h hge e hlen hk
    refine ⟨_, _, _, P.out, fun w => ?_⟩
    go_enter Tryd.func71, Tryd.ntmps71
    go_wp2_with (go_at_call 85; ((with_reducible refine (IX.out _).mono ?_); rintro e w' ⟨rfl, rfl⟩))
    go_region
    all_goals
      go_wp2
      refine bodyPost_ret (v := .tuple #[.string (s.extract 0 k), .string (s.extract (k + 1) s.size), .bool true]) (by simp [results, Tryd.results71, go_sem]) rfl ?_
      exact ⟨rfl, by first | exact Below.refl _ _ | exact (Below.refl _ _).drew⟩
set_option maxRecDepth 100000 in
set_option maxHeartbeats 4000000 in
theorem cutCode (s : ByteArray) (hs : s.size ≤ 140737488351232) :
    ∃ t b f, cutP s t b f ∧ ∀ w, Calls Tryd.prog 50 #[.string s, .string ⟨#[47]⟩] w fun e w' => e = .returned (.tuple #[.string t, .string b, .bool f]) ∧ Below w.heap.size w w' := by
  obtain ⟨t, b, f, P, C⟩ := cutLite s hs
  refine ⟨t, b, f, P, fun w => ?_⟩
  have C := Lib.hid C
  clear hs P
  go_enter Tryd.func50, Tryd.ntmps50
  go_wp2_with (go_at_call 71; ((with_reducible refine (C.out _).mono ?_); rintro e w1 ⟨rfl, hb⟩; have HB := Lib.hid hb; clear hb))
  refine bodyPost_ret (v := .tuple #[.string t, .string b, .bool f]) (by simp [results, Tryd.results50, go_sem]) rfl ?_
  exact ⟨rfl, HB.out⟩
end Go.Proofs.YtjighmmfaedgbaaDoor.RatW
