/-
  What the lexer's smallest functions return: classes of letters, keywords, marks.
-/
import Derived.Test.YtoigjeoncdfdmaaGreatDoorLexMath
import Derived.Test.YtoigjeoncdfdmaaGreatDoorRows
import Derived.WalkKit
import Derived.Outline
import Derived.WalkSpells
import Derived.Deep.DeepFit
import Derived.Lib.Hide
import Derived.LoopTactic
import Derived.Deep.QuietTactic
import Derived.BigQuiet
namespace Go.Proofs.YtoigjeoncdfdmaaGreatDoor.LexW
open Go Go.RowKit Go.Proofs.YtoigjeoncdfdmaaGreatDoor.NumM Go.Proofs.YtoigjeoncdfdmaaGreatDoor.LexM

theorem retb {a b : Bool} (h : a = b) : Ending.returned (.bool a) = .returned (.bool b) := by rw [h]
def smI (c : Int) : Bool := decide (97 ≤ c) && decide (c ≤ 122)
def dgI (c : Int) : Bool := decide (48 ≤ c) && decide (c ≤ 57)
theorem isSmall_any (c : Int) (w : World) : Calls Tryz.prog 96 #[.int .i32 c] w fun e w' => e = .returned (.bool (smI c)) ∧ w = w' := by
  by_cases h1 : 97 ≤ c
  · by_cases h2 : c ≤ 122
    all_goals
      go_enter Tryz.func96, Tryz.ntmps96
      go_wp2
      go_ret
      exact ⟨retb (by simp [smI, h1, h2]), rfl⟩
  · have h2 : (smI c) = false := by simp [smI]; omega
    go_enter Tryz.func96, Tryz.ntmps96
    go_wp2
    go_ret
    exact ⟨rfl, rfl⟩
theorem isDigit_any (c : Int) (w : World) : Calls Tryz.prog 98 #[.int .i32 c] w fun e w' => e = .returned (.bool (dgI c)) ∧ w = w' := by
  by_cases h1 : 48 ≤ c
  · by_cases h2 : c ≤ 57
    all_goals
      go_enter Tryz.func98, Tryz.ntmps98
      go_wp2
      go_ret
      exact ⟨retb (by simp [dgI, h1, h2]), rfl⟩
  · have h2 : (dgI c) = false := by simp [dgI]; omega
    go_enter Tryz.func98, Tryz.ntmps98
    go_wp2
    go_ret
    exact ⟨rfl, rfl⟩
theorem smallR_any (c : Int) (w : World) : Calls Tryz.prog 62 #[.int .u8 c] w fun e w' => e = .returned (.bool (smI c)) ∧ w = w' := by
  by_cases h1 : 97 ≤ c
  · by_cases h2 : c ≤ 122
    all_goals
      go_enter Tryz.func62, Tryz.ntmps62
      go_wp2
      go_ret
      exact ⟨retb (by simp [smI, h1, h2]), rfl⟩
  · have h2 : (smI c) = false := by simp [smI]; omega
    go_enter Tryz.func62, Tryz.ntmps62
    go_wp2
    go_ret
    exact ⟨rfl, rfl⟩
theorem digitR_any (c : Int) (w : World) : Calls Tryz.prog 82 #[.int .u8 c] w fun e w' => e = .returned (.bool (dgI c)) ∧ w = w' := by
  by_cases h1 : 48 ≤ c
  · by_cases h2 : c ≤ 57
    all_goals
      go_enter Tryz.func82, Tryz.ntmps82
      go_wp2
      go_ret
      exact ⟨retb (by simp [dgI, h1, h2]), rfl⟩
  · have h2 : (dgI c) = false := by simp [dgI]; omega
    go_enter Tryz.func82, Tryz.ntmps82
    go_wp2
    go_ret
    exact ⟨rfl, rfl⟩
set_option maxRecDepth 100000 in
set_option maxHeartbeats 4000000 in
theorem isKeyword_no (s : ByteArray) (w : World) (h : isKw s.data.toList = false) : Calls Tryz.prog 112 #[.string s] w fun e w' => e = .returned (.bool (isKw s.data.toList)) ∧ w = w' := by
  have hn : ∀ k ∈ kws, (s.toList == k) = false := fun k hk => by
    have := of_decide_eq_false h
    rw [Lib.toList_data, beq_eq_false_iff_ne]
    rintro rfl
    exact this hk
  have n0 := hn [99, 108, 97, 115, 115] (by decide)
  have n1 := hn [101, 120, 116, 101, 110, 100, 115] (by decide)
  have n2 := hn [114, 97, 110, 100] (by decide)
  have n3 := hn [114, 97, 110, 100, 99] (by decide)
  have n4 := hn [115, 116, 97, 116, 101] (by decide)
  have n5 := hn [99, 111, 110, 115, 116, 114, 97, 105, 110, 116] (by decide)
  have n6 := hn [115, 111, 102, 116] (by decide)
  have n7 := hn [100, 105, 115, 116] (by decide)
  have n8 := hn [105, 102] (by decide)
  have n9 := hn [101, 108, 115, 101] (by decide)
  have n10 := hn [101, 97, 99, 104] (by decide)
  have n11 := hn [105, 110] (by decide)
  have n12 := hn [115, 111, 108, 118, 101] (by decide)
  have n13 := hn [98, 101, 102, 111, 114, 101] (by decide)
  have n14 := hn [105, 110, 115, 105, 100, 101] (by decide)
  have n15 := hn [112, 114, 111, 112, 101, 114, 116, 121] (by decide)
  have n16 := hn [115, 101, 113] (by decide)
  have n17 := hn [97, 110, 100] (by decide)
  have n18 := hn [111, 114] (by decide)
  have n19 := hn [110, 111, 116] (by decide)
  have n20 := hn [115, 101, 116] (by decide)
  have n21 := hn [104, 111, 108, 100] (by decide)
  have n22 := hn [112, 108, 97, 105, 110] (by decide)
  have n23 := hn [114, 101, 112, 101, 97, 116] (by decide)
  have H := Lib.hid h
  clear h hn
  go_enter Tryz.func112, Tryz.ntmps112
  go_wp2
  go_ret
  exact ⟨retb H.out.symm, rfl⟩
set_option maxRecDepth 100000 in
set_option maxHeartbeats 4000000 in
theorem isKeyword_yes (s : ByteArray) (w : World) (h : isKw s.data.toList = true) : Calls Tryz.prog 112 #[.string s] w fun e w' => e = .returned (.bool (isKw s.data.toList)) ∧ w = w' := by
  have H := Lib.hid h
  have h := of_decide_eq_true h
  simp only [kws, List.mem_cons, List.not_mem_nil, or_false] at h
  rcases h with h | h | h | h | h | h | h | h | h | h | h | h | h | h | h | h | h | h | h | h | h | h | h | h
  all_goals
    have e := (Lib.toList_data s).trans h
    clear h
    go_enter Tryz.func112, Tryz.ntmps112
    go_wp2
    go_ret
    exact ⟨retb H.out.symm, rfl⟩
theorem isKeyword_any (s : ByteArray) (w : World) : Calls Tryz.prog 112 #[.string s] w fun e w' => e = .returned (.bool (isKw s.data.toList)) ∧ w = w' := by
  cases h : isKw s.data.toList
  · rw [← h]; exact isKeyword_no s w h
  · rw [← h]; exact isKeyword_yes s w h
set_option maxRecDepth 100000 in
set_option maxHeartbeats 4000000 in
theorem isMark_no (s : ByteArray) (w : World) (h : isMk s.data.toList = false) : Calls Tryz.prog 111 #[.string s] w fun e w' => e = .returned (.bool (isMk s.data.toList)) ∧ w = w' := by
  have hn : ∀ k ∈ mks, (s.toList == k) = false := fun k hk => by
    have := of_decide_eq_false h
    rw [Lib.toList_data, beq_eq_false_iff_ne]
    rintro rfl
    exact this hk
  have n0 := hn [40] (by decide)
  have n1 := hn [41] (by decide)
  have n2 := hn [123] (by decide)
  have n3 := hn [125] (by decide)
  have n4 := hn [91] (by decide)
  have n5 := hn [93] (by decide)
  have n6 := hn [44] (by decide)
  have n7 := hn [59] (by decide)
  have n8 := hn [58] (by decide)
  have n9 := hn [46, 46] (by decide)
  have n10 := hn [63] (by decide)
  have n11 := hn [61] (by decide)
  have n12 := hn [61, 61] (by decide)
  have n13 := hn [33, 61] (by decide)
  have n14 := hn [60] (by decide)
  have n15 := hn [60, 61] (by decide)
  have n16 := hn [62] (by decide)
  have n17 := hn [62, 61] (by decide)
  have n18 := hn [60, 60] (by decide)
  have n19 := hn [62, 62] (by decide)
  have n20 := hn [43] (by decide)
  have n21 := hn [45] (by decide)
  have n22 := hn [42] (by decide)
  have n23 := hn [38] (by decide)
  have n24 := hn [124] (by decide)
  have n25 := hn [94] (by decide)
  have n26 := hn [126] (by decide)
  have n27 := hn [33] (by decide)
  have n28 := hn [38, 38] (by decide)
  have n29 := hn [124, 124] (by decide)
  have n30 := hn [45, 62] (by decide)
  have n31 := hn [61, 62] (by decide)
  have n32 := hn [58, 61] (by decide)
  have n33 := hn [58, 47] (by decide)
  have n34 := hn [35, 35] (by decide)
  have n35 := hn [64] (by decide)
  have H := Lib.hid h
  clear h hn
  go_enter Tryz.func111, Tryz.ntmps111
  go_wp2
  go_ret
  exact ⟨retb H.out.symm, rfl⟩
set_option maxRecDepth 100000 in
set_option maxHeartbeats 4000000 in
theorem isMark_yes (s : ByteArray) (w : World) (h : isMk s.data.toList = true) : Calls Tryz.prog 111 #[.string s] w fun e w' => e = .returned (.bool (isMk s.data.toList)) ∧ w = w' := by
  have H := Lib.hid h
  have h := of_decide_eq_true h
  simp only [mks, List.mem_cons, List.not_mem_nil, or_false] at h
  rcases h with h | h | h | h | h | h | h | h | h | h | h | h | h | h | h | h | h | h | h | h | h | h | h | h | h | h | h | h | h | h | h | h | h | h | h | h
  all_goals
    have e := (Lib.toList_data s).trans h
    clear h
    go_enter Tryz.func111, Tryz.ntmps111
    go_wp2
    go_ret
    exact ⟨retb H.out.symm, rfl⟩
theorem isMark_any (s : ByteArray) (w : World) : Calls Tryz.prog 111 #[.string s] w fun e w' => e = .returned (.bool (isMk s.data.toList)) ∧ w = w' := by
  cases h : isMk s.data.toList
  · rw [← h]; exact isMark_no s w h
  · rw [← h]; exact isMark_yes s w h
end Go.Proofs.YtoigjeoncdfdmaaGreatDoor.LexW
