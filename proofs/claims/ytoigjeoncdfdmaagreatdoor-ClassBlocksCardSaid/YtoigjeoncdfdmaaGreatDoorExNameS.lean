/-
  What the reference's small functions return: its tables, classes of strings, lines, places.
-/
import Derived.Test.YtoigjeoncdfdmaaGreatDoorLexBest
import Derived.Test.YtoigjeoncdfdmaaGreatDoorExLexValid
import Derived.Deep.OwnRows
namespace Go.Proofs.YtoigjeoncdfdmaaGreatDoor.LexW
open Go Go.RowKit Go.Proofs.YtoigjeoncdfdmaaGreatDoor.NumM Go.Proofs.YtoigjeoncdfdmaaGreatDoor.LexM

def atL (ys : List (List UInt8)) (j : Nat) : List UInt8 := (ys[j]?).getD []
theorem atL_of {ys : List (List UInt8)} {j : Nat} {m : List UInt8} (h : ys[j]? = some m) : atL ys j = m := by unfold atL; rw [h]; rfl
/-- A table of texts as cells. -/
def tabF (ys : List (List UInt8)) : Nat → Value := fun j => .string (bs (atL ys j))
theorem row_tab (w : World) (ys : List (List UInt8)) (t : TypeId) : (w.alloc (.cells (ys.map fun y => Value.string (bs y)).toArray t)).rowIs w.heap.size t ys.length (tabF ys) := by
  refine ⟨_, heap_alloc_new _ _, by simp, fun i hi => ?_⟩
  rw [List.getElem?_toArray, List.getElem?_map, List.getElem?_eq_getElem hi]
  show some (Value.string (bs ys[i])) = _
  unfold tabF
  rw [atL_of (List.getElem?_eq_getElem hi)]
def tTab (ys : List (List UInt8)) (w : World) (e : Ending) (w' : World) : Prop := ∃ g, e = .returned (.slice (some ⟨g, 0, none⟩) ys.length ys.length) ∧ w'.rowIs g 9 ys.length (tabF ys) ∧ Below w.heap.size w w'
set_option maxRecDepth 100000 in
theorem keywords_any (w : World) : Calls Tryz.prog 81 #[] w (tTab kws w) := by
  go_enter Tryz.func81, Tryz.ntmps81
  go_wp2
  go_ret
  exact ⟨_, rfl, row_tab w kws _, (Below.refl _ _).alloc (Nat.le_refl _) _⟩
set_option maxRecDepth 100000 in
theorem has_any (ys : List (List UInt8)) (g : Nat) (s : ByteArray) (w : World) (hr : w.rowIs g 9 ys.length (tabF ys)) (hn : ys.length ≤ 100) :
    Calls Tryz.prog 80 #[.slice (some ⟨g, 0, none⟩) ys.length ys.length, .string s] w fun e w' => e = .returned (.bool (decide (s.data.toList ∈ ys))) ∧ w = w' := by
  have HR := Lib.hid hr
  clear hr
  obtain ⟨n, hnn⟩ : ∃ n, ys.length = n := ⟨_, rfl⟩
  have HN := Lib.hid hnn
  rw [hnn] at HR hn ⊢
  clear hnn
  go_enter Tryz.func80, Tryz.ntmps80
  go_wp2
  go_loop [5] (fun i => ∃ k : Nat, k ≤ n ∧ i = .int .i64 k ∧ Hid (∀ j, j < k → ys[j]? ≠ some s.data.toList)) (fun i => n - (intOf i).toNat)
  case atStart => exact ⟨0, Nat.zero_le _, rfl, Lib.hid fun j hj => by omega⟩
  case round =>
    obtain ⟨k, hk, rfl, NO⟩ := hrel
    by_cases hlt : k < n
    · obtain ⟨m, hm⟩ : ∃ m, ys[k]? = some m := ⟨_, List.getElem?_eq_getElem (by rw [HN.out]; exact hlt)⟩
      have hck := HR.out.cell hlt
      unfold tabF at hck
      rw [atL_of hm] at hck
      have HM := Lib.hid hm
      clear hm
      by_cases e : m = s.data.toList
      · have e1 : ((bs m).toList == s.toList) = true := by rw [Lib.toList_data, Lib.toList_data, e]; simp
        have FIN : Hid (true = decide (s.data.toList ∈ ys)) := Lib.hid (by rw [eq_comm, decide_eq_true_eq, ← e]; exact List.mem_of_getElem? HM.out)
        obtain ⟨y, hy⟩ : ∃ y, bs m = y := ⟨_, rfl⟩
        rw [hy] at e1 hck
        clear e hy
        go_wp2
        go_ret
        exact ⟨retb FIN.out, rfl⟩
      · have e1 : ((bs m).toList == s.toList) = false := by rw [Lib.toList_data, Lib.toList_data]; simpa using e
        have NO2 : Hid (∀ j, j < k + 1 → ys[j]? ≠ some s.data.toList) := Lib.hid fun j hj x => by
          by_cases hjk : j = k
          · rw [hjk, HM.out] at x; exact e (Option.some.inj x)
          · exact NO.out j (by omega) x
        obtain ⟨y, hy⟩ : ∃ y, bs m = y := ⟨_, rfl⟩
        rw [hy] at e1 hck
        clear e hy
        go_wp2
        go_round
        case rel => exact ⟨k + 1, by omega, by go_num, NO2⟩
        case measure => simp [intOf]; omega
    · have FIN : Hid (false = decide (s.data.toList ∈ ys)) := Lib.hid (by
        rw [eq_comm, decide_eq_false_iff_not]
        intro x
        obtain ⟨j, hj, he⟩ := List.mem_iff_getElem.1 x
        exact NO.out j (by rw [HN.out] at hj; omega) (by rw [List.getElem?_eq_getElem hj, he]))
      go_wp2
      go_ret
      exact ⟨retb FIN.out, rfl⟩
theorem kwR_any (s : ByteArray) (w : World) : Calls Tryz.prog 63 #[.string s] w fun e w' => e = .returned (.bool (isKw s.data.toList)) ∧ Below w.heap.size w w' := by
  go_enter Tryz.func63, Tryz.ntmps63
  go_wp2_with (first
    | (go_at_call 81; ((with_reducible refine (keywords_any _).mono ?_); rintro e w1 ⟨g, rfl, hr, hb⟩; have HR := Lib.hid hr; have HB := Lib.hid hb; clear hr hb))
    | (go_at_call 80; ((with_reducible refine (has_any kws g s _ HR.out (by decide)).mono ?_); rintro e w' ⟨rfl, rfl⟩)))
  go_ret
  exact ⟨rfl, HB.out⟩
theorem inner_any (c : UInt8) (w : World) : Calls Tryz.prog 64 #[.int .u8 (c.toNat : Int)] w fun e w' => e = .returned (.bool (wrd c)) ∧ w = w' := by
  have HC := Lib.hid (wrI_byte c)
  obtain ⟨n, hn⟩ : ∃ n : Int, (c.toNat : Int) = n := ⟨_, rfl⟩
  rw [hn] at HC ⊢
  rw [← HC.out]
  clear hn HC
  go_enter Tryz.func64, Tryz.ntmps64
  go_wp2_with (first | (go_at_call 62; refine (smallR_any _ _).mono ?_; rintro e w' ⟨rfl, rfl⟩) | (go_at_call 82; refine (digitR_any _ _).mono ?_; rintro e w' ⟨rfl, rfl⟩))
  all_goals
    go_ret
    exact ⟨retb (by simp_all [wrI]; try (intros; omega)), rfl⟩
end Go.Proofs.YtoigjeoncdfdmaaGreatDoor.LexW
