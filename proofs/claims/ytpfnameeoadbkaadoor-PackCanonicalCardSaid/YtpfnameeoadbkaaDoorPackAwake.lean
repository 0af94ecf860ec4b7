/-
  What 'awake' returns: the program computes.
-/
import Derived.Test.YtpfnameeoadbkaaDoorPackRefLst
namespace Go.Proofs.YtpfnameeoadbkaaDoor.PackW
open Go Go.RowKit Go.Proofs.YtpfnameeoadbkaaDoor.NumM Go.Proofs.YtpfnameeoadbkaaDoor.PackM

theorem itoa_small {n : Nat} (h : n < 10) : Lib.itoa (n : Int) = [UInt8.ofNat (48 + n)] := by rw [itoa_nat, dec_small h]
theorem textP2 : textP [97, 98] = [50, 58, 97, 98] := by unfold textP; rw [itoa_small (show ([97, 98] : List UInt8).length < 10 by decide)]; rfl
theorem textP1 : textP [97] = [49, 58, 97] := by unfold textP; rw [itoa_small (show ([97] : List UInt8).length < 10 by decide)]; rfl
theorem textP0 : textP [] = [48, 58] := by unfold textP; rw [itoa_small (show ([] : List UInt8).length < 10 by decide)]; rfl
theorem listP2 : listP [[97], []] = [50, 59, 49, 58, 97, 48, 58] := by
  unfold listP numP
  rw [itoa_small (show ([[97], []] : List (List UInt8)).length < 10 by decide)]
  simp [textP1, textP0]
theorem numP5 : numP (-5) = [45, 53, 59] := by
  unfold numP Lib.itoa
  rw [if_pos (by decide), show (-5 : Int).natAbs = 5 from rfl, dec_small (by decide)]; rfl
theorem aw1 (w : World) (ht : Tab w) : Calls Tryd.prog 18 #[.string ⟨#[120, 50, 58, 97, 98, 99]⟩, .int .i64 1] w fun e w' => e = .returned (.tuple #[.string ⟨#[97, 98]⟩, .int .i64 5, .int .i64 0]) ∧ Below w.heap.size w w' := by
  have h := takeText_in ⟨#[120, 50, 58, 97, 98, 99]⟩ 1 w (by decide) (by decide) ht
  have e : tx ⟨#[120, 50, 58, 97, 98, 99]⟩ 1 = ([97, 98], 4, 0) := by
    unfold tx
    have b := textL_back (t := [97, 98]) (by decide) [99]
    rw [textP2] at b
    exact b
  unfold tText txO at h
  rw [e] at h
  exact h
theorem aw2 (w : World) (ht : Tab w) : Calls Tryd.prog 20 #[.string ⟨#[45, 48, 59]⟩, .int .i64 0] w fun e w' => e = .returned (.tuple #[.int .i64 0, .int .i64 0, .int .i64 5]) ∧ Below w.heap.size w w' := by
  have h := takeNum_in ⟨#[45, 48, 59]⟩ 0 w (by decide) (by decide) ht
  have e : nx ⟨#[45, 48, 59]⟩ 0 = (0, 0, 5) := by decide
  unfold tNum nxO at h
  rw [e] at h
  exact h
theorem aw3 (w : World) (ht : Tab w) : Calls Tryd.prog 22 #[.string ⟨#[50, 59, 49, 58, 97, 48, 58]⟩, .int .i64 0, .int .i64 2] w fun e w' => ∃ v, e = .returned (.tuple #[v, .int .i64 7, .int .i64 0]) ∧ StrsAt w' v [[97], []] ∧ Below w.heap.size w w' := by
  have h := takeList_in ⟨#[50, 59, 49, 58, 97, 48, 58]⟩ 0 2 w (by decide) (by decide) (by decide) (by decide) (.inr (by decide)) ht
  have e : lx ⟨#[50, 59, 49, 58, 97, 48, 58]⟩ 0 2 = ([[97], []], 7, 0) := by
    unfold lx
    have b := listL_back (xs := [[97], []]) (by decide) (by decide) [] 0 (most := 2) (by decide)
    rw [listP2] at b
    exact b
  unfold tList lxO at h
  rw [e] at h
  exact h
theorem aw4 (w : World) (ht : Tab w) : Calls Tryd.prog 11 #[.string ⟨#[97, 98]⟩] w fun e w' => e = .returned (.string ⟨#[50, 58, 97, 98]⟩) ∧ Below w.heap.size w w' := by
  have h := text_any ⟨#[97, 98]⟩ w (by decide) ht
  rw [show (⟨#[97, 98]⟩ : ByteArray).data.toList = [97, 98] from rfl, textP2] at h
  exact h
theorem aw5 (w : World) (ht : Tab w) : Calls Tryd.prog 13 #[.int .i64 (-5)] w fun e w' => e = .returned (.string ⟨#[45, 53, 59]⟩) ∧ Below w.heap.size w w' := by
  have h := number_any (-5) w (by decide) (by decide) ht
  rw [numP5] at h
  exact h
theorem strs_lit (w : World) : StrsAt (w.alloc (.cells #[.string ⟨#[97]⟩, .string ⟨#[]⟩] 9)) (.slice (some ⟨w.heap.size, 0, none⟩) 2 2) [[97], []] :=
  ⟨some ⟨w.heap.size, 0, none⟩, 2, rfl, Nat.le_refl _, fun _ => ⟨w.heap.size, 0, rfl, by rw [alloc_size]; omega, fun i hi => by
    rw [Nat.zero_add]
    refine alloc_cell _ _ _ _ _ ?_
    match i, hi with
    | 0, _ => rfl
    | 1, _ => rfl⟩⟩
set_option maxHeartbeats 1000000 in
theorem awake_any (w : World) (ht : Tab w) :
    Calls Tryd.prog 17 #[] w fun e w' => e = .returned (.bool true) ∧ Below w.heap.size w w' := by
  have HT := Lib.hid ht
  clear ht
  go_enter Tryd.func17, Tryd.ntmps17
  go_wp2_with (first
    | (go_at_call 18; refine (aw1 _ HT.out).mono ?_; rintro e w1 ⟨rfl, hb1⟩; have HT1 := Lib.hid (HT.out.later hb1))
    | (go_at_call 20; refine (aw2 _ HT1.out).mono ?_; rintro e w2 ⟨rfl, hb2⟩; have HT2 := Lib.hid (HT1.out.later hb2))
    | (go_at_call 22; refine (aw3 _ HT2.out).mono ?_; rintro e w3 ⟨v, rfl, hv, hb3⟩; have HV := Lib.hid hv; clear hv; have HT3 := Lib.hid (HT2.out.later hb3))
    | (go_at_call 11; refine (aw4 _ HT3.out).mono ?_; rintro e w4 ⟨rfl, hb4⟩; have HT4 := Lib.hid (HT3.out.later hb4))
    | (go_at_call 13; refine (aw5 _ HT4.out).mono ?_; rintro e w5 ⟨rfl, hb5⟩)
    | (go_at_call 24; refine (same_any _ v _ [[97], []] (((HV.out.later hb4).later hb5).later ((Below.refl _ _).alloc (Nat.le_refl _) _)) (strs_lit w5) (by decide)).mono ?_; rintro e w6 ⟨rfl, hb6⟩)
    | go_in)
  go_ret
  have b3 : Below w.heap.size w w3 := (hb1.trans (hb2.mono hb1.size)).trans (hb3.mono (Nat.le_trans hb1.size hb2.size))
  have b5 : Below w.heap.size w w5 := (b3.trans (hb4.mono b3.size)).trans (hb5.mono (Nat.le_trans b3.size hb4.size))
  exact ⟨rfl, (b5.alloc b5.size _).trans (hb6.mono (by rw [alloc_size]; have := b5.size; omega))⟩
end Go.Proofs.YtpfnameeoadbkaaDoor.PackW
