/-
  awake.
  The walk of awake.
-/
import Derived.Test.YtdiackcefojfkaaGreatDoorExCount
import Derived.Test.YtdiackcefojfkaaGreatDoorExSubst
import Derived.Test.YtdiackcefojfkaaGreatDoorExNames
import Derived.Test.YtdiackcefojfkaaGreatDoorExShape
import Derived.Test.YtdiackcefojfkaaGreatDoorExRefA
namespace Go.Proofs.YtdiackcefojfkaaGreatDoor.ExW
open Go Go.RowKit Go.Proofs.YtdiackcefojfkaaGreatDoor.NumM Go.Proofs.YtdiackcefojfkaaGreatDoor.LexW Go.Proofs.YtdiackcefojfkaaGreatDoor.LexM Go.Proofs.YtdiackcefojfkaaGreatDoor.ExM

abbrev xB : ByteArray := ⟨#[120]⟩
def aE : Ex := .mk 9 0 ⟨#[]⟩ [.mk 7 0 ⟨#[]⟩ [.mk 1 1 ⟨#[]⟩ [], .mk 1 2 ⟨#[]⟩ []], .mk 2 0 xB []]
def bE : Ex := .mk 1 70000 ⟨#[]⟩ []
theorem aE_vld : vld aE = 0 := by decide
theorem aE_ev : evalS [(xB, 5)] aE = (15, 0) := by decide
theorem aE_sz : sz aE = 5 := by decide
theorem aE_dep : dep aE = 3 := by decide
theorem aE_fold : sz (foldS aE) = 3 := by
  rw [show foldS aE = fo aE from if_pos aE_vld]; decide
theorem bE_vld : vld bE = 1 := by decide
theorem aE_names : namesL isVr (pre 1 aE) = [xB] := by
  have : pre 1 aE = [⟨1, 9, 0, ⟨#[]⟩, 2⟩, ⟨2, 7, 0, ⟨#[]⟩, 2⟩, ⟨3, 1, 1, ⟨#[]⟩, 0⟩, ⟨3, 1, 2, ⟨#[]⟩, 0⟩, ⟨2, 2, 0, xB, 0⟩] := rfl
  rw [this]
  simp [namesL, stepN, addN, isVr]
theorem ex_leaf (N : Nat) (w : World) (o n : Int) (s : ByteArray) (p : Option Addr) (cap : Nat) (hs : s.size ≤ 140737488351232) : ExAt N w (xv o n s (.slice p 0 cap)) (.mk o n s []) :=
  ExAt.mk (ks := []) (fun _ => none) (fun _ => 0) hs (by simp) (by simp) (fun h => by simp at h) (fun i a hi => by simp at hi)
/-- Eight cells in memory. -/
structure Eight (w : World) (g : Nat) (x : Nat → Value) : Prop where
  lt : g < w.heap.size
  cell : ∀ i, i < 8 → w.cell? ⟨g, i, none⟩ = some (x i)
theorem Eight.new (w : World) (x0 x1 x2 x3 x4 x5 x6 x7 : Value) (t : TypeId) : Eight (w.alloc (.cells #[x0, x1, x2, x3, x4, x5, x6, x7] t)) w.heap.size (fun i => match i with | 0 => x0 | 1 => x1 | 2 => x2 | 3 => x3 | 4 => x4 | 5 => x5 | 6 => x6 | _ => x7) :=
  ⟨by simp, fun i hi => (alloc_cells w #[x0, x1, x2, x3, x4, x5, x6, x7] t i _ (by
    match i, hi with
    | 0, _ => rfl
    | 1, _ => rfl
    | 2, _ => rfl
    | 3, _ => rfl
    | 4, _ => rfl
    | 5, _ => rfl
    | 6, _ => rfl
    | 7, _ => rfl)).1⟩
theorem Eight.stay {w w' : World} {g : Nat} {x : Nat → Value} (h : Eight w g x) (hb : Below w.heap.size w w') : Eight w' g x :=
  ⟨Nat.lt_of_lt_of_le h.lt hb.size, fun i hi => (hb.cell (p := ⟨g, i, none⟩) h.lt).trans (h.cell i hi)⟩
theorem two_case {ks : List Ex} {a b : Ex} (h : ks = [a, b]) {P : Nat → Ex → Prop} (h0 : P 0 a) (h1 : P 1 b) : ∀ i x, ks[i]? = some x → P i x := by
  subst h
  intro i x hi
  match i, hi with
  | 0, hi => cases hi; exact h0
  | 1, hi => cases hi; exact h1
  | i + 2, hi => simp at hi
theorem aE_at {W : World} {g1 g2 : Nat} (h1 : Eight W g1 (fun i => match i with | 0 => .int .i64 1 | 1 => .int .i64 1 | 2 => .string ⟨#[]⟩ | 3 => .slice none 0 0 | 4 => .int .i64 1 | 5 => .int .i64 2 | 6 => .string ⟨#[]⟩ | _ => .slice none 0 0))
    (h2 : Eight W g2 (fun i => match i with | 0 => .int .i64 7 | 1 => .int .i64 0 | 2 => .string ⟨#[]⟩ | 3 => .slice (some ⟨g1, 0, none⟩) 2 2 | 4 => .int .i64 2 | 5 => .int .i64 0 | 6 => .string xB | _ => .slice none 0 0)) :
    ExAt W.heap.size W (xv 9 0 ⟨#[]⟩ (.slice (some ⟨g2, 0, none⟩) 2 2)) aE := by
  have he : (⟨#[]⟩ : ByteArray).size ≤ 140737488351232 := by decide
  have hx : xB.size ≤ 140737488351232 := by decide
  have k1 : ExAt W.heap.size W (xv 7 0 ⟨#[]⟩ (.slice (some ⟨g1, 0, none⟩) 2 2)) (.mk 7 0 ⟨#[]⟩ [.mk 1 1 ⟨#[]⟩ [], .mk 1 2 ⟨#[]⟩ []]) :=
    ExAt.mk (ks := [.mk 1 1 ⟨#[]⟩ [], .mk 1 2 ⟨#[]⟩ []]) (fun _ => none) (fun _ => 0) he (by decide) (by decide)
      (fun _ => ⟨g1, 0, rfl, h1.lt, two_case rfl ⟨h1.cell 0 (by omega), h1.cell 1 (by omega), h1.cell 2 (by omega), h1.cell 3 (by omega)⟩ ⟨h1.cell 4 (by omega), h1.cell 5 (by omega), h1.cell 6 (by omega), h1.cell 7 (by omega)⟩⟩)
      (two_case rfl (ex_leaf _ _ _ _ _ _ _ he) (ex_leaf _ _ _ _ _ _ _ he))
  exact ExAt.mk (ks := [.mk 7 0 ⟨#[]⟩ [.mk 1 1 ⟨#[]⟩ [], .mk 1 2 ⟨#[]⟩ []], .mk 2 0 xB []]) (fun i => if i = 0 then some ⟨g1, 0, none⟩ else none) (fun i => if i = 0 then 2 else 0) he (by decide) (by decide)
      (fun _ => ⟨g2, 0, rfl, h2.lt, two_case rfl ⟨h2.cell 0 (by omega), h2.cell 1 (by omega), h2.cell 2 (by omega), h2.cell 3 (by omega)⟩ ⟨h2.cell 4 (by omega), h2.cell 5 (by omega), h2.cell 6 (by omega), h2.cell 7 (by omega)⟩⟩)
      (two_case rfl k1 (ex_leaf _ _ _ _ _ _ _ hx))
end Go.Proofs.YtdiackcefojfkaaGreatDoor.ExW
namespace Go.Proofs.YtdiackcefojfkaaGreatDoor.ExW
open Go Go.RowKit Go.Proofs.YtdiackcefojfkaaGreatDoor.NumM Go.Proofs.YtdiackcefojfkaaGreatDoor.LexW Go.Proofs.YtdiackcefojfkaaGreatDoor.LexM Go.Proofs.YtdiackcefojfkaaGreatDoor.ExM

theorem strs_of_own {W : World} {B : Nat} {v : Value} {l : List ByteArray} (h : W.ownsRow B 9 1 v l.length (l.map Value.string)) : StrsA W v l := by
  obtain ⟨_, ⟨hv, hn⟩ | ⟨g, cap, cur, hv, hB, hg, hle, _, _, htake⟩⟩ := h
  · exact ⟨none, 0, by rw [hv, hn], by omega, fun x => by omega⟩
  · refine ⟨some ⟨g, 0, none⟩, cap, hv, hle, fun _ => ⟨g, 0, rfl, fun i s hi => ?_⟩⟩
    rw [cell_of_row W g _ cur 9 (0, 0) hg, Nat.zero_add]
    have hl := (List.getElem?_eq_some_iff.1 hi).1
    have : (cur.toList.take (l.length * 1))[i]? = some (.string s) := by rw [htake, List.getElem?_map, hi]; rfl
    rw [List.getElem?_take, if_pos (by omega)] at this
    simpa using this
/-- What stands when the walk has called Eval. -/
theorem awake_at {w2 w4 : World} (h : Below (w2.alloc (.cells #[.int .i64 1, .int .i64 1, .string ⟨#[]⟩, .slice none 0 0, .int .i64 1, .int .i64 2, .string ⟨#[]⟩, .slice none 0 0] 24)).heap.size (w2.alloc (.cells #[.int .i64 1, .int .i64 1, .string ⟨#[]⟩, .slice none 0 0, .int .i64 1, .int .i64 2, .string ⟨#[]⟩, .slice none 0 0] 24)) w4) :
    ExAt (((w4.alloc (.cells #[.int .i64 7, .int .i64 0, .string ⟨#[]⟩, .slice (some ⟨w2.heap.size, 0, none⟩) 2 2, .int .i64 2, .int .i64 0, .string xB, .slice none 0 0] 24)).alloc (.cells #[.int .i64 9, .int .i64 0, .string ⟨#[]⟩, .slice (some ⟨w4.heap.size, 0, none⟩) 2 2] 24)).alloc (.cells #[.string xB, .int .i64 5] 47)).heap.size (((w4.alloc (.cells #[.int .i64 7, .int .i64 0, .string ⟨#[]⟩, .slice (some ⟨w2.heap.size, 0, none⟩) 2 2, .int .i64 2, .int .i64 0, .string xB, .slice none 0 0] 24)).alloc (.cells #[.int .i64 9, .int .i64 0, .string ⟨#[]⟩, .slice (some ⟨w4.heap.size, 0, none⟩) 2 2] 24)).alloc (.cells #[.string xB, .int .i64 5] 47)) (xv 9 0 ⟨#[]⟩ (.slice (some ⟨w4.heap.size, 0, none⟩) 2 2)) aE ∧ Four (((w4.alloc (.cells #[.int .i64 7, .int .i64 0, .string ⟨#[]⟩, .slice (some ⟨w2.heap.size, 0, none⟩) 2 2, .int .i64 2, .int .i64 0, .string xB, .slice none 0 0] 24)).alloc (.cells #[.int .i64 9, .int .i64 0, .string ⟨#[]⟩, .slice (some ⟨w4.heap.size, 0, none⟩) 2 2] 24)).alloc (.cells #[.string xB, .int .i64 5] 47)) (w4.heap.size + 1) (.int .i64 9) (.int .i64 0) (.string ⟨#[]⟩) (.slice (some ⟨w4.heap.size, 0, none⟩) 2 2) ∧ SigsAt (((w4.alloc (.cells #[.int .i64 7, .int .i64 0, .string ⟨#[]⟩, .slice (some ⟨w2.heap.size, 0, none⟩) 2 2, .int .i64 2, .int .i64 0, .string xB, .slice none 0 0] 24)).alloc (.cells #[.int .i64 9, .int .i64 0, .string ⟨#[]⟩, .slice (some ⟨w4.heap.size, 0, none⟩) 2 2] 24)).alloc (.cells #[.string xB, .int .i64 5] 47)) (.slice (some ⟨w4.heap.size + 1 + 1, 0, none⟩) 1 1) [(xB, 5)] ∧ Below w4.heap.size w4 (((w4.alloc (.cells #[.int .i64 7, .int .i64 0, .string ⟨#[]⟩, .slice (some ⟨w2.heap.size, 0, none⟩) 2 2, .int .i64 2, .int .i64 0, .string xB, .slice none 0 0] 24)).alloc (.cells #[.int .i64 9, .int .i64 0, .string ⟨#[]⟩, .slice (some ⟨w4.heap.size, 0, none⟩) 2 2] 24)).alloc (.cells #[.string xB, .int .i64 5] 47)) := by
  have b1 : Below w4.heap.size w4 (w4.alloc (.cells #[.int .i64 7, .int .i64 0, .string ⟨#[]⟩, .slice (some ⟨w2.heap.size, 0, none⟩) 2 2, .int .i64 2, .int .i64 0, .string xB, .slice none 0 0] 24)) := (Below.refl _ _).alloc (Nat.le_refl _) _
  have b3 : Below w4.heap.size w4 (((w4.alloc (.cells #[.int .i64 7, .int .i64 0, .string ⟨#[]⟩, .slice (some ⟨w2.heap.size, 0, none⟩) 2 2, .int .i64 2, .int .i64 0, .string xB, .slice none 0 0] 24)).alloc (.cells #[.int .i64 9, .int .i64 0, .string ⟨#[]⟩, .slice (some ⟨w4.heap.size, 0, none⟩) 2 2] 24)).alloc (.cells #[.string xB, .int .i64 5] 47)) := (b1.alloc (by simp) _).alloc (by simp only [World.size_alloc]; omega) _
  have e1 := ((Eight.new w2 (.int .i64 1) (.int .i64 1) (.string ⟨#[]⟩) (.slice none 0 0) (.int .i64 1) (.int .i64 2) (.string ⟨#[]⟩) (.slice none 0 0) 24).stay h).stay b3
  have b4 : Below (w4.alloc (.cells #[.int .i64 7, .int .i64 0, .string ⟨#[]⟩, .slice (some ⟨w2.heap.size, 0, none⟩) 2 2, .int .i64 2, .int .i64 0, .string xB, .slice none 0 0] 24)).heap.size (w4.alloc (.cells #[.int .i64 7, .int .i64 0, .string ⟨#[]⟩, .slice (some ⟨w2.heap.size, 0, none⟩) 2 2, .int .i64 2, .int .i64 0, .string xB, .slice none 0 0] 24)) (((w4.alloc (.cells #[.int .i64 7, .int .i64 0, .string ⟨#[]⟩, .slice (some ⟨w2.heap.size, 0, none⟩) 2 2, .int .i64 2, .int .i64 0, .string xB, .slice none 0 0] 24)).alloc (.cells #[.int .i64 9, .int .i64 0, .string ⟨#[]⟩, .slice (some ⟨w4.heap.size, 0, none⟩) 2 2] 24)).alloc (.cells #[.string xB, .int .i64 5] 47)) := ((Below.refl _ _).alloc (Nat.le_refl _) _).alloc (by simp) _
  have e2 := (Eight.new w4 (.int .i64 7) (.int .i64 0) (.string ⟨#[]⟩) (.slice (some ⟨w2.heap.size, 0, none⟩) 2 2) (.int .i64 2) (.int .i64 0) (.string xB) (.slice none 0 0) 24).stay b4
  refine ⟨aE_at e1 e2, ?_, ?_, b3⟩
  · have := (Four.new (w4.alloc (.cells #[.int .i64 7, .int .i64 0, .string ⟨#[]⟩, .slice (some ⟨w2.heap.size, 0, none⟩) 2 2, .int .i64 2, .int .i64 0, .string xB, .slice none 0 0] 24)) (.int .i64 9) (.int .i64 0) (.string ⟨#[]⟩) (.slice (some ⟨w4.heap.size, 0, none⟩) 2 2) 24).alloc (.cells #[.string xB, .int .i64 5] 47)
    rw [World.size_alloc] at this
    exact this
  · refine ⟨_, _, rfl, by decide, by decide, fun _ => ⟨_, 0, rfl, by simp only [World.size_alloc]; omega, fun i x hi => ?_⟩⟩
    match i, hi with
    | 0, hi =>
      cases hi
      have q0 := (alloc_cells ((w4.alloc (.cells #[.int .i64 7, .int .i64 0, .string ⟨#[]⟩, .slice (some ⟨w2.heap.size, 0, none⟩) 2 2, .int .i64 2, .int .i64 0, .string xB, .slice none 0 0] 24)).alloc (.cells #[.int .i64 9, .int .i64 0, .string ⟨#[]⟩, .slice (some ⟨w4.heap.size, 0, none⟩) 2 2] 24)) #[.string xB, .int .i64 5] 47 0 (.string xB) rfl).1
      have q1 := (alloc_cells ((w4.alloc (.cells #[.int .i64 7, .int .i64 0, .string ⟨#[]⟩, .slice (some ⟨w2.heap.size, 0, none⟩) 2 2, .int .i64 2, .int .i64 0, .string xB, .slice none 0 0] 24)).alloc (.cells #[.int .i64 9, .int .i64 0, .string ⟨#[]⟩, .slice (some ⟨w4.heap.size, 0, none⟩) 2 2] 24)) #[.string xB, .int .i64 5] 47 1 (.int .i64 5) rfl).1
      simp only [World.size_alloc] at q0 q1
      exact ⟨q0, q1⟩
    | i + 1, hi => simp at hi
set_option maxRecDepth 100000 in
set_option maxHeartbeats 8000000 in
theorem awake_any (w : World) (ht : Tab w) : Calls Tryz.prog 12 #[] w (tBool true w) := by
  have N1 : Hid (∀ W, Calls Tryz.prog 39 #[.int .i64 1] W fun e w' => e = .returned (xv 1 1 ⟨#[]⟩ (.slice none 0 0)) ∧ Below W.heap.size W w') := Lib.hid fun W => number_any 1 W
  have N2 : Hid (∀ W, Calls Tryz.prog 39 #[.int .i64 2] W fun e w' => e = .returned (xv 1 2 ⟨#[]⟩ (.slice none 0 0)) ∧ Below W.heap.size W w') := Lib.hid fun W => number_any 2 W
  have N7 : Hid (∀ W, Calls Tryz.prog 39 #[.int .i64 70000] W fun e w' => e = .returned (xv 1 70000 ⟨#[]⟩ (.slice none 0 0)) ∧ Below W.heap.size W w') := Lib.hid fun W => number_any 70000 W
  have VC : Hid (∀ W, Calls Tryz.prog 35 #[.string ⟨#[120]⟩] W fun e w' => e = .returned (xv 2 0 ⟨#[120]⟩ (.slice none 0 0)) ∧ Below W.heap.size W w') := Lib.hid fun W => variableL_any ⟨#[120]⟩ W
  have EC : Hid (∀ W v sv, ExAt W.heap.size W v aE → SigsAt W sv [(xB, 5)] → Tab W → Calls Tryz.prog 27 #[v, sv] W fun e w' => e = .returned (.tuple #[.int .i64 15, .int .i64 0]) ∧ Below W.heap.size W w') := Lib.hid fun W v sv h1 h2 h3 => by
    have := eval_any [(xB, 5)] sv v aE W h1 h2 (by rw [aE_sz]; omega) h3
    rw [aE_ev] at this
    exact this
  have MC : Hid (∀ W v, ExAt W.heap.size W v aE → Calls Tryz.prog 20 #[v] W fun x w' => ∃ p cap, x = .returned (.slice p 1 cap) ∧ (∃ b off, p = some ⟨b, off, none⟩ ∧ w'.cell? ⟨b, off, none⟩ = some (.string xB)) ∧ Below W.heap.size W w') := Lib.hid fun W v h1 => by
    refine (names_any aE v W h1 (by rw [aE_sz]; omega)).mono ?_
    rintro e w' ⟨v', rfl, hr, hb⟩
    rw [aE_names] at hr
    obtain ⟨p, cap, rfl, _, hc⟩ := strs_of_own hr
    obtain ⟨b, off, rfl, hcell⟩ := hc (by decide)
    exact ⟨_, _, rfl, ⟨b, off, rfl, hcell 0 xB rfl⟩, hb⟩
  have SC : Hid (∀ W v, ExAt W.heap.size W v aE → Calls Tryz.prog 15 #[v] W fun e w' => e = .returned (.int .i64 5) ∧ Below W.heap.size W w') := Lib.hid fun W v h1 => by
    have := size_any aE v W h1 (by rw [aE_sz]; omega)
    rw [aE_sz] at this
    exact this
  have DC : Hid (∀ W v, ExAt W.heap.size W v aE → Calls Tryz.prog 17 #[v] W fun e w' => e = .returned (.int .i64 3) ∧ Below W.heap.size W w') := Lib.hid fun W v h1 => by
    have := depth_any aE v W h1 (by rw [aE_sz]; omega)
    rw [aE_dep] at this
    exact this
  have FC : Hid (∀ W v, ExAt W.heap.size W v aE → Tab W → Calls Tryz.prog 29 #[v] W (tFr (foldS aE) W)) := Lib.hid fun W v h1 h2 => foldCode_any aE _ W v h1 (Nat.le_refl _) (by rw [aE_sz]; omega) h2
  have SC2 : Hid (∀ W v, ExAt W.heap.size W v (foldS aE) → Calls Tryz.prog 15 #[v] W fun e w' => e = .returned (.int .i64 3) ∧ Below W.heap.size W w') := Lib.hid fun W v h1 => by
    have := size_any (foldS aE) v W h1 (by rw [aE_fold]; omega)
    rw [aE_fold] at this
    exact this
  have VB : Hid (∀ W, Tab W → Calls Tryz.prog 24 #[xv 1 70000 ⟨#[]⟩ (.slice none 0 0)] W fun e w' => e = .returned (.int .i64 1) ∧ Below W.heap.size W w') := Lib.hid fun W h2 => by
    have := valid_any bE (xv 1 70000 ⟨#[]⟩ (.slice none 0 0)) W (ex_leaf _ _ _ _ _ _ _ (by decide)) (by decide) h2
    rw [bE_vld] at this
    exact this
  have HT := Lib.hid ht
  clear ht
  generalize foldS aE = F at *
  go_enter Tryz.func12, Tryz.ntmps12
  go_wp2_with (first
    | (go_at_call 39; ((with_reducible refine (N1.out _).mono ?_); rintro e w1 ⟨rfl, hb⟩; have HB1 := Lib.hid hb; clear hb))
    | (go_at_call 39; ((with_reducible refine (N2.out _).mono ?_); rintro e w2 ⟨rfl, hb⟩; have HB2 := Lib.hid (HB1.out.then_ hb); clear hb))
    | (go_at_call 35; ((with_reducible refine (VC.out _).mono ?_); rintro e w4 ⟨rfl, hb⟩; obtain ⟨x1, x2, x3, x4⟩ := awake_at hb; have HX := Lib.hid x1; have HF := Lib.hid x2; have HS := Lib.hid x3; have HB4 := Lib.hid (((HB2.out.alloc HB2.out.size _).then_ hb).then_ x4); have c0 := x2.c0; have c1 := x2.c1; have c2 := x2.c2; have c3 := x2.c3; clear hb x1 x2 x3 x4))
    | (go_at_call 27; ((with_reducible refine (EC.out _ _ _ HX.out HS.out (HT.out.later HB4.out)).mono ?_); rintro e w5 ⟨rfl, hb⟩; have F5 := HF.out.stay hb; clear c0 c1 c2 c3; have c0 := F5.c0; have c1 := F5.c1; have c2 := F5.c2; have c3 := F5.c3; have HF5 := Lib.hid F5; have HX5 := Lib.hid (HX.out.later hb); have HB5 := Lib.hid (HB4.out.then_ hb); clear hb F5))
    | (go_at_call 20; ((with_reducible refine (MC.out _ _ HX5.out).mono ?_); rintro e w6 ⟨pN, cN, rfl, ⟨bN, oN, rfl, hcN⟩, hb⟩; have F6 := HF5.out.stay hb; clear c0 c1 c2 c3; have c0 := F6.c0; have c1 := F6.c1; have c2 := F6.c2; have c3 := F6.c3; have HF6 := Lib.hid F6; have HX6 := Lib.hid (HX5.out.later hb); have HB6 := Lib.hid (HB5.out.then_ hb); clear hb F6))
    | (go_at_call 15; ((with_reducible refine (SC.out _ _ HX6.out).mono ?_); rintro e w7 ⟨rfl, hb⟩; have F7 := HF6.out.stay hb; clear c0 c1 c2 c3; have c0 := F7.c0; have c1 := F7.c1; have c2 := F7.c2; have c3 := F7.c3; have hcN7 := (hb.cell (p := ⟨bN, oN, none⟩) (cell_lt hcN)).trans hcN; clear hcN; have HF7 := Lib.hid F7; have HX7 := Lib.hid (HX6.out.later hb); have HB7 := Lib.hid (HB6.out.then_ hb); clear hb F7))
    | (go_at_call 17; ((with_reducible refine (DC.out _ _ HX7.out).mono ?_); rintro e w8 ⟨rfl, hb⟩; have F8 := HF7.out.stay hb; clear c0 c1 c2 c3; have c0 := F8.c0; have c1 := F8.c1; have c2 := F8.c2; have c3 := F8.c3; have hcN8 := (hb.cell (p := ⟨bN, oN, none⟩) (cell_lt hcN7)).trans hcN7; clear hcN7; have HF8 := Lib.hid F8; have HX8 := Lib.hid (HX7.out.later hb); have HB8 := Lib.hid (HB7.out.then_ hb); clear hb F8))
    | (go_at_call 29; ((with_reducible refine (FC.out _ _ HX8.out (HT.out.later HB8.out)).mono ?_); rintro e w9 ⟨v9, rfl, hfr, hb⟩; have HR9 := Lib.hid hfr.at_; have HB9 := Lib.hid (HB8.out.then_ hb); clear hb hfr))
    | (go_at_call 15; ((with_reducible refine (SC2.out _ _ HR9.out).mono ?_); rintro e w10 ⟨rfl, hb⟩; have HB10 := Lib.hid (HB9.out.then_ hb); clear hb))
    | (go_at_call 39; ((with_reducible refine (N7.out _).mono ?_); rintro e w11 ⟨rfl, hb⟩; have HB11 := Lib.hid (HB10.out.then_ hb); clear hb))
    | (go_at_call 24; ((with_reducible refine (VB.out _ (HT.out.later HB11.out)).mono ?_); rintro e w12 ⟨rfl, hb⟩; have HB12 := Lib.hid (HB11.out.then_ hb); clear hb)))
  go_ret
  exact tBool_mk rfl HB12.out
end Go.Proofs.YtdiackcefojfkaaGreatDoor.ExW
