/-
  The chapter's examples, plain.
  The chapter's examples.
  Plain facts of Parse for the laws: an error is never 0; a printed text; a text in parentheses.
  ExprtextCanonical.
-/
import Derived.Test.YtlnomiiphlbamaaGreatDoorEtPrG
import Derived.Test.YtlnomiiphlbamaaGreatDoorExSameR
import Derived.Test.YtlnomiiphlbamaaGreatDoorEtParseE
import Derived.Test.YtlnomiiphlbamaaGreatDoorEtBack
namespace Go.Proofs.YtlnomiiphlbamaaGreatDoor.EtW
open Go Go.RowKit Go.Proofs.YtlnomiiphlbamaaGreatDoor.NumM Go.Proofs.YtlnomiiphlbamaaGreatDoor.LexW Go.Proofs.YtlnomiiphlbamaaGreatDoor.LexM Go.Proofs.YtlnomiiphlbamaaGreatDoor.ExM Go.Proofs.YtlnomiiphlbamaaGreatDoor.ExW Go.Proofs.YtlnomiiphlbamaaGreatDoor.EtM

def vA : Ex := .mk 2 0 ⟨#[97]⟩ []
def vB : Ex := .mk 2 0 ⟨#[98]⟩ []
def vC : Ex := .mk 2 0 ⟨#[99]⟩ []
def eM : Ex := nod 9 [nod 7 [vA, vB], vC]
def eP : Ex := nod 7 [vA, nod 9 [vB, vC]]
theorem eM_prn : prS eM = [40, 97, 32, 43, 32, 98, 41, 32, 42, 32, 99] := by decide +kernel
theorem eP_par : parS [97, 32, 43, 32, 98, 32, 42, 32, 99] = (eP, 0, 0) := by kernel_rfl
theorem e1_par : parS [97, 32, 43] = (zEx, 1, 6) := by kernel_rfl
theorem e2_par : parS [97, 32, 98] = (zEx, 1, 5) := by kernel_rfl
theorem eqB_refl (a : Ex) : eqB a a = true := @decide_eq_true _ (Classical.propDecidable _) rfl
theorem eM_sz : sz eM ≤ 2000000 := by decide +kernel
theorem eP_sz : sz eP ≤ 2000000 := by decide +kernel
end Go.Proofs.YtlnomiiphlbamaaGreatDoor.EtW
namespace Go.Proofs.YtlnomiiphlbamaaGreatDoor.EtW
open Go Go.RowKit Go.Proofs.YtlnomiiphlbamaaGreatDoor.NumM Go.Proofs.YtlnomiiphlbamaaGreatDoor.LexW Go.Proofs.YtlnomiiphlbamaaGreatDoor.LexM Go.Proofs.YtlnomiiphlbamaaGreatDoor.ExM Go.Proofs.YtlnomiiphlbamaaGreatDoor.ExW Go.Proofs.YtlnomiiphlbamaaGreatDoor.EtM

set_option maxRecDepth 100000 in
set_option maxHeartbeats 8000000 in
theorem awake_any (w : World) (ht : TabE w) : Calls Tryz.prog 9 #[] w fun e w' => e = .returned (.bool true) ∧ Below w.heap.size w w' := by
  have B5 : Below w.heap.size w (((((w.alloc (.cells #[.int .i64 2, .int .i64 0, .string ⟨#[97]⟩, .slice none 0 0] 24)).alloc (.cells #[.int .i64 2, .int .i64 0, .string ⟨#[98]⟩, .slice none 0 0] 24)).alloc (.cells #[.int .i64 2, .int .i64 0, .string ⟨#[99]⟩, .slice none 0 0] 24)).alloc (.cells #[.int .i64 2, .int .i64 0, .string ⟨#[97]⟩, .slice none 0 0, .int .i64 2, .int .i64 0, .string ⟨#[98]⟩, .slice none 0 0] 24)).alloc (.cells #[.int .i64 7, .int .i64 0, .string ⟨#[]⟩, .slice (some ⟨w.heap.size + 1 + 1 + 1, 0, none⟩) 2 2, .int .i64 2, .int .i64 0, .string ⟨#[99]⟩, .slice none 0 0] 24)) := (((((Below.refl _ _).alloc (Nat.le_refl _) _).alloc (by simp) _).alloc (by simp; omega) _).alloc (by simp; omega) _).alloc (by simp; omega) _
  have h1 := ((((Four.new w (.int .i64 2) (.int .i64 0) (.string ⟨#[97]⟩) (.slice none 0 0) 24).alloc (.cells #[.int .i64 2, .int .i64 0, .string ⟨#[98]⟩, .slice none 0 0] 24)).alloc (.cells #[.int .i64 2, .int .i64 0, .string ⟨#[99]⟩, .slice none 0 0] 24)).alloc (.cells #[.int .i64 2, .int .i64 0, .string ⟨#[97]⟩, .slice none 0 0, .int .i64 2, .int .i64 0, .string ⟨#[98]⟩, .slice none 0 0] 24)).alloc (.cells #[.int .i64 7, .int .i64 0, .string ⟨#[]⟩, .slice (some ⟨w.heap.size + 1 + 1 + 1, 0, none⟩) 2 2, .int .i64 2, .int .i64 0, .string ⟨#[99]⟩, .slice none 0 0] 24)
  have h2 := (((Four.new (w.alloc (.cells #[.int .i64 2, .int .i64 0, .string ⟨#[97]⟩, .slice none 0 0] 24)) (.int .i64 2) (.int .i64 0) (.string ⟨#[98]⟩) (.slice none 0 0) 24).alloc (.cells #[.int .i64 2, .int .i64 0, .string ⟨#[99]⟩, .slice none 0 0] 24)).alloc (.cells #[.int .i64 2, .int .i64 0, .string ⟨#[97]⟩, .slice none 0 0, .int .i64 2, .int .i64 0, .string ⟨#[98]⟩, .slice none 0 0] 24)).alloc (.cells #[.int .i64 7, .int .i64 0, .string ⟨#[]⟩, .slice (some ⟨w.heap.size + 1 + 1 + 1, 0, none⟩) 2 2, .int .i64 2, .int .i64 0, .string ⟨#[99]⟩, .slice none 0 0] 24)
  have h3 := ((Four.new ((w.alloc (.cells #[.int .i64 2, .int .i64 0, .string ⟨#[97]⟩, .slice none 0 0] 24)).alloc (.cells #[.int .i64 2, .int .i64 0, .string ⟨#[98]⟩, .slice none 0 0] 24)) (.int .i64 2) (.int .i64 0) (.string ⟨#[99]⟩) (.slice none 0 0) 24).alloc (.cells #[.int .i64 2, .int .i64 0, .string ⟨#[97]⟩, .slice none 0 0, .int .i64 2, .int .i64 0, .string ⟨#[98]⟩, .slice none 0 0] 24)).alloc (.cells #[.int .i64 7, .int .i64 0, .string ⟨#[]⟩, .slice (some ⟨w.heap.size + 1 + 1 + 1, 0, none⟩) 2 2, .int .i64 2, .int .i64 0, .string ⟨#[99]⟩, .slice none 0 0] 24)
  simp only [World.size_alloc] at h2 h3
  have leaf : ∀ (W : World) (c : UInt8), Fr w.heap.size W (xv 2 0 ⟨#[c]⟩ (.slice none 0 0)) (.mk 2 0 ⟨#[c]⟩ []) := fun W c => ExS.leaf (by show (1 : Nat) ≤ _; omega)
  have fI := node2 (o := 7) (leaf (((w.alloc (.cells #[.int .i64 2, .int .i64 0, .string ⟨#[97]⟩, .slice none 0 0] 24)).alloc (.cells #[.int .i64 2, .int .i64 0, .string ⟨#[98]⟩, .slice none 0 0] 24)).alloc (.cells #[.int .i64 2, .int .i64 0, .string ⟨#[99]⟩, .slice none 0 0] 24)) 97) (leaf (((w.alloc (.cells #[.int .i64 2, .int .i64 0, .string ⟨#[97]⟩, .slice none 0 0] 24)).alloc (.cells #[.int .i64 2, .int .i64 0, .string ⟨#[98]⟩, .slice none 0 0] 24)).alloc (.cells #[.int .i64 2, .int .i64 0, .string ⟨#[99]⟩, .slice none 0 0] 24)) 98) (by simp; omega) (Below.refl _ _)
  simp only [World.size_alloc] at fI
  have fM := node2 (o := 9) fI (leaf ((((w.alloc (.cells #[.int .i64 2, .int .i64 0, .string ⟨#[97]⟩, .slice none 0 0] 24)).alloc (.cells #[.int .i64 2, .int .i64 0, .string ⟨#[98]⟩, .slice none 0 0] 24)).alloc (.cells #[.int .i64 2, .int .i64 0, .string ⟨#[99]⟩, .slice none 0 0] 24)).alloc (.cells #[.int .i64 2, .int .i64 0, .string ⟨#[97]⟩, .slice none 0 0, .int .i64 2, .int .i64 0, .string ⟨#[98]⟩, .slice none 0 0] 24)) 99) (by simp; omega) (Below.refl _ _)
  simp only [World.size_alloc] at fM
  have PC0 := print_any eM _ (((((w.alloc (.cells #[.int .i64 2, .int .i64 0, .string ⟨#[97]⟩, .slice none 0 0] 24)).alloc (.cells #[.int .i64 2, .int .i64 0, .string ⟨#[98]⟩, .slice none 0 0] 24)).alloc (.cells #[.int .i64 2, .int .i64 0, .string ⟨#[99]⟩, .slice none 0 0] 24)).alloc (.cells #[.int .i64 2, .int .i64 0, .string ⟨#[97]⟩, .slice none 0 0, .int .i64 2, .int .i64 0, .string ⟨#[98]⟩, .slice none 0 0] 24)).alloc (.cells #[.int .i64 7, .int .i64 0, .string ⟨#[]⟩, .slice (some ⟨w.heap.size + 1 + 1 + 1, 0, none⟩) 2 2, .int .i64 2, .int .i64 0, .string ⟨#[99]⟩, .slice none 0 0] 24)) (fM.at_) eM_sz (ht.later B5)
  rw [eM_prn] at PC0
  have PC := Lib.hid PC0
  have PP1 := Lib.hid (fun W (hW : Below (((((w.alloc (.cells #[.int .i64 2, .int .i64 0, .string ⟨#[97]⟩, .slice none 0 0] 24)).alloc (.cells #[.int .i64 2, .int .i64 0, .string ⟨#[98]⟩, .slice none 0 0] 24)).alloc (.cells #[.int .i64 2, .int .i64 0, .string ⟨#[99]⟩, .slice none 0 0] 24)).alloc (.cells #[.int .i64 2, .int .i64 0, .string ⟨#[97]⟩, .slice none 0 0, .int .i64 2, .int .i64 0, .string ⟨#[98]⟩, .slice none 0 0] 24)).alloc (.cells #[.int .i64 7, .int .i64 0, .string ⟨#[]⟩, .slice (some ⟨w.heap.size + 1 + 1 + 1, 0, none⟩) 2 2, .int .i64 2, .int .i64 0, .string ⟨#[99]⟩, .slice none 0 0] 24)).heap.size (((((w.alloc (.cells #[.int .i64 2, .int .i64 0, .string ⟨#[97]⟩, .slice none 0 0] 24)).alloc (.cells #[.int .i64 2, .int .i64 0, .string ⟨#[98]⟩, .slice none 0 0] 24)).alloc (.cells #[.int .i64 2, .int .i64 0, .string ⟨#[99]⟩, .slice none 0 0] 24)).alloc (.cells #[.int .i64 2, .int .i64 0, .string ⟨#[97]⟩, .slice none 0 0, .int .i64 2, .int .i64 0, .string ⟨#[98]⟩, .slice none 0 0] 24)).alloc (.cells #[.int .i64 7, .int .i64 0, .string ⟨#[]⟩, .slice (some ⟨w.heap.size + 1 + 1 + 1, 0, none⟩) 2 2, .int .i64 2, .int .i64 0, .string ⟨#[99]⟩, .slice none 0 0] 24)) W) => by
    have q := parse_any ⟨#[97, 32, 43, 32, 98, 32, 42, 32, 99]⟩ W (ht.later (B5.then_ hW))
    have e : parS (⟨#[97, 32, 43, 32, 98, 32, 42, 32, 99]⟩ : ByteArray).data.toList = (eP, 0, 0) := eP_par
    rw [e] at q
    exact q)
  have PP2 := Lib.hid (fun W (hW : Below (((((w.alloc (.cells #[.int .i64 2, .int .i64 0, .string ⟨#[97]⟩, .slice none 0 0] 24)).alloc (.cells #[.int .i64 2, .int .i64 0, .string ⟨#[98]⟩, .slice none 0 0] 24)).alloc (.cells #[.int .i64 2, .int .i64 0, .string ⟨#[99]⟩, .slice none 0 0] 24)).alloc (.cells #[.int .i64 2, .int .i64 0, .string ⟨#[97]⟩, .slice none 0 0, .int .i64 2, .int .i64 0, .string ⟨#[98]⟩, .slice none 0 0] 24)).alloc (.cells #[.int .i64 7, .int .i64 0, .string ⟨#[]⟩, .slice (some ⟨w.heap.size + 1 + 1 + 1, 0, none⟩) 2 2, .int .i64 2, .int .i64 0, .string ⟨#[99]⟩, .slice none 0 0] 24)).heap.size (((((w.alloc (.cells #[.int .i64 2, .int .i64 0, .string ⟨#[97]⟩, .slice none 0 0] 24)).alloc (.cells #[.int .i64 2, .int .i64 0, .string ⟨#[98]⟩, .slice none 0 0] 24)).alloc (.cells #[.int .i64 2, .int .i64 0, .string ⟨#[99]⟩, .slice none 0 0] 24)).alloc (.cells #[.int .i64 2, .int .i64 0, .string ⟨#[97]⟩, .slice none 0 0, .int .i64 2, .int .i64 0, .string ⟨#[98]⟩, .slice none 0 0] 24)).alloc (.cells #[.int .i64 7, .int .i64 0, .string ⟨#[]⟩, .slice (some ⟨w.heap.size + 1 + 1 + 1, 0, none⟩) 2 2, .int .i64 2, .int .i64 0, .string ⟨#[99]⟩, .slice none 0 0] 24)) W) => by
    have q := parse_any ⟨#[97, 32, 43]⟩ W (ht.later (B5.then_ hW))
    have e : parS (⟨#[97, 32, 43]⟩ : ByteArray).data.toList = (zEx, 1, 6) := e1_par
    rw [e] at q
    exact q)
  have PP3 := Lib.hid (fun W (hW : Below (((((w.alloc (.cells #[.int .i64 2, .int .i64 0, .string ⟨#[97]⟩, .slice none 0 0] 24)).alloc (.cells #[.int .i64 2, .int .i64 0, .string ⟨#[98]⟩, .slice none 0 0] 24)).alloc (.cells #[.int .i64 2, .int .i64 0, .string ⟨#[99]⟩, .slice none 0 0] 24)).alloc (.cells #[.int .i64 2, .int .i64 0, .string ⟨#[97]⟩, .slice none 0 0, .int .i64 2, .int .i64 0, .string ⟨#[98]⟩, .slice none 0 0] 24)).alloc (.cells #[.int .i64 7, .int .i64 0, .string ⟨#[]⟩, .slice (some ⟨w.heap.size + 1 + 1 + 1, 0, none⟩) 2 2, .int .i64 2, .int .i64 0, .string ⟨#[99]⟩, .slice none 0 0] 24)).heap.size (((((w.alloc (.cells #[.int .i64 2, .int .i64 0, .string ⟨#[97]⟩, .slice none 0 0] 24)).alloc (.cells #[.int .i64 2, .int .i64 0, .string ⟨#[98]⟩, .slice none 0 0] 24)).alloc (.cells #[.int .i64 2, .int .i64 0, .string ⟨#[99]⟩, .slice none 0 0] 24)).alloc (.cells #[.int .i64 2, .int .i64 0, .string ⟨#[97]⟩, .slice none 0 0, .int .i64 2, .int .i64 0, .string ⟨#[98]⟩, .slice none 0 0] 24)).alloc (.cells #[.int .i64 7, .int .i64 0, .string ⟨#[]⟩, .slice (some ⟨w.heap.size + 1 + 1 + 1, 0, none⟩) 2 2, .int .i64 2, .int .i64 0, .string ⟨#[99]⟩, .slice none 0 0] 24)) W) => by
    have q := parse_any ⟨#[97, 32, 98]⟩ W (ht.later (B5.then_ hW))
    have e : parS (⟨#[97, 32, 98]⟩ : ByteArray).data.toList = (zEx, 1, 5) := e2_par
    rw [e] at q
    exact q)
  have H1 := Lib.hid h1
  have H2 := Lib.hid h2
  have H3 := Lib.hid h3
  have HB := Lib.hid B5
  have LF := Lib.hid leaf
  have tq : ((mb [40, 97, 32, 43, 32, 98, 41, 32, 42, 32, 99]).toList == [40, 97, 32, 43, 32, 98, 41, 32, 42, 32, 99]) = true := by rw [Lib.toList_data]; rfl
  clear h1 h2 h3 B5 leaf fI fM PC0 ht
  go_enter Tryz.func9, Tryz.ntmps9
  go_wp2_with (first
    | (go_at_call 7; ((with_reducible refine PC.out.mono ?_); rintro e w6 ⟨rfl, hb⟩; have HB6 := Lib.hid hb; clear hb))
    | (go_at_call 11; ((with_reducible refine (PP1.out _ HB6.out).mono ?_); rintro e w7 ⟨o7, n7, s7, p7, k7, c7, rfl, hb, hf⟩; have HB7 := Lib.hid (HB6.out.then_ (hb.alloc hb.size (.cells #[.int .i64 o7, .int .i64 n7, .string s7, .slice p7 k7 c7] 24))); have G7 := Lib.hid (Four.new w7 (.int .i64 o7) (.int .i64 n7) (.string s7) (.slice p7 k7 c7) 24); have F7 := Lib.hid (fr_alloc hf (.cells #[.int .i64 o7, .int .i64 n7, .string s7, .slice p7 k7 c7] 24)); clear hb hf))
    | (go_at_call 11; ((with_reducible refine (PP2.out _ HB7.out).mono ?_); rintro e w9 ⟨o9, n9, s9, p9, k9, c9, rfl, hb, hf⟩; have hq := hb.alloc hb.size (.cells #[.int .i64 o9, .int .i64 n9, .string s9, .slice p9 k9 c9] 24); have HB9 := Lib.hid (HB7.out.then_ hq); have G9 := Lib.hid (G7.out.stay hq); have F9 := Lib.hid (F7.out.later hq); clear hb hf hq))
    | (go_at_call 11; ((with_reducible refine (PP3.out _ HB9.out).mono ?_); rintro e w11 ⟨o11, n11, s11, p11, k11, c11, rfl, hb, hf⟩; have hq := hb.alloc hb.size (.cells #[.int .i64 o11, .int .i64 n11, .string s11, .slice p11 k11 c11] 24); have HB11 := Lib.hid (HB9.out.then_ hq); have G11 := G9.out.stay hq; have J1 := H1.out.stay HB11.out; have J2 := H2.out.stay HB11.out; have J3 := H3.out.stay HB11.out; have x0 := G11.c0; have x1 := G11.c1; have x2 := G11.c2; have x3 := G11.c3; have a0 := J1.c0; have a1 := J1.c1; have a2 := J1.c2; have a3 := J1.c3; have b0 := J2.c0; have b1 := J2.c1; have b2 := J2.c2; have b3 := J2.c3; have c0 := J3.c0; have c1 := J3.c1; have c2 := J3.c2; have c3 := J3.c3; have F11 := F9.out.later hq; have l11 := HB11.out.size; simp only [World.size_alloc] at l11; have fJ := node2 (o := 9) (LF.out (w11.alloc (.cells #[.int .i64 o11, .int .i64 n11, .string s11, .slice p11 k11 c11] 24)) 98) (LF.out (w11.alloc (.cells #[.int .i64 o11, .int .i64 n11, .string s11, .slice p11 k11 c11] 24)) 99) (by simp; omega) (Below.refl _ _); simp only [World.size_alloc] at fJ; have fK := node2 (o := 7) (LF.out ((w11.alloc (.cells #[.int .i64 o11, .int .i64 n11, .string s11, .slice p11 k11 c11] 24)).alloc (.cells #[.int .i64 2, .int .i64 0, .string ⟨#[98]⟩, .slice none 0 0, .int .i64 2, .int .i64 0, .string ⟨#[99]⟩, .slice none 0 0] 24)) 97) fJ (by simp; omega) (Below.refl _ _); simp only [World.size_alloc] at fK; have SC0 := sameR_any eP eP _ (((w11.alloc (.cells #[.int .i64 o11, .int .i64 n11, .string s11, .slice p11 k11 c11] 24)).alloc (.cells #[.int .i64 2, .int .i64 0, .string ⟨#[98]⟩, .slice none 0 0, .int .i64 2, .int .i64 0, .string ⟨#[99]⟩, .slice none 0 0] 24)).alloc (.cells #[.int .i64 2, .int .i64 0, .string ⟨#[97]⟩, .slice none 0 0, .int .i64 9, .int .i64 0, .string ⟨#[]⟩, .slice (some ⟨w11.heap.size + 1, 0, none⟩) 2 2] 24)) _ _ ((fr_alloc (fr_alloc F11 _) _).at_) (fK.at_) (Nat.le_refl _) eP_sz; rw [eqB_refl] at SC0; have SC := Lib.hid SC0; have HY : Hid (Below (w11.alloc (.cells #[.int .i64 o11, .int .i64 n11, .string s11, .slice p11 k11 c11] 24)).heap.size (w11.alloc (.cells #[.int .i64 o11, .int .i64 n11, .string s11, .slice p11 k11 c11] 24)) (((w11.alloc (.cells #[.int .i64 o11, .int .i64 n11, .string s11, .slice p11 k11 c11] 24)).alloc (.cells #[.int .i64 2, .int .i64 0, .string ⟨#[98]⟩, .slice none 0 0, .int .i64 2, .int .i64 0, .string ⟨#[99]⟩, .slice none 0 0] 24)).alloc (.cells #[.int .i64 2, .int .i64 0, .string ⟨#[97]⟩, .slice none 0 0, .int .i64 9, .int .i64 0, .string ⟨#[]⟩, .slice (some ⟨w11.heap.size + 1, 0, none⟩) 2 2] 24))) := Lib.hid (((Below.refl _ _).alloc (Nat.le_refl _) _).alloc (by simp) _); clear hb hf hq G11 J1 J2 J3 F11 fJ fK SC0))
    | (go_at_call 12; ((with_reducible refine SC.out.mono ?_); rintro e w12 ⟨rfl, hb⟩; have HZ := Lib.hid (HB11.out.then_ (HY.out.then_ hb)); clear hb)))
  go_ret
  exact ⟨rfl, HB.out.then_ HZ.out⟩
end Go.Proofs.YtlnomiiphlbamaaGreatDoor.EtW
namespace Go.Proofs.YtlnomiiphlbamaaGreatDoor.EtM
open Go Go.Proofs.YtlnomiiphlbamaaGreatDoor.NumM Go.Proofs.YtlnomiiphlbamaaGreatDoor.LexM Go.Proofs.YtlnomiiphlbamaaGreatDoor.ExM Go.Proofs.YtlnomiiphlbamaaGreatDoor.LexW

/-- No error that is 0. -/
def NB (q : Rs) : Prop := ∀ er k, q = .bad er k → er = 3 ∨ er = 5 ∨ er = 6
theorem nb_ok (e : Ex) (r : List Tk) : NB (.ok e r) := fun _ _ h => by cases h
theorem nb_flt (l : List Tk) : NB (flt l) := fun er k h => by
  unfold flt at h
  by_cases g : l.length = 0
  · rw [if_pos g] at h; cases h; exact .inr (.inr rfl)
  · rw [if_neg g] at h; cases h; exact .inr (.inl rfl)
theorem nb_bind {x : Rs} {g : Ex → List Tk → Rs} (h : NB x) (k : ∀ e r, NB (g e r)) : NB (x.bind g) := by
  cases x with
  | ok e r => exact k e r
  | bad a b => exact fun er k e => by cases e; exact h _ _ rfl
  | out => exact fun er k e => by cases e
theorem nb_need {m : List UInt8} {l : List Tk} {g : List Tk → Rs} (h : ∀ r, NB (g r)) : NB (need m l g) := by
  unfold need
  split
  · exact h _
  · exact nb_flt l
theorem nb_name {l : List Tk} {g : List UInt8 → List Tk → Rs} (h : ∀ s r, NB (g s r)) : NB (nameR l g) := by
  unfold nameR
  split
  · exact h _ _
  · exact nb_flt l
theorem nb_num {l : List Tk} {g : Int → List Tk → Rs} (h : ∀ s r, NB (g s r)) : NB (numR l g) := by
  unfold numR
  split
  · split
    · exact fun er k e => by cases e; exact .inl rfl
    · exact h _ _
  · exact nb_flt l
theorem run_nb : ∀ (f : Nat) (j : Jb) (l : List Tk), NB (run f j l) := by
  intro f
  induction f with
  | zero => intro j l er k h; cases h
  | succ f ih =>
    intro j l
    cases j with
    | ch =>
      rw [run]
      refine nb_bind (ih _ _) fun c r => ?_
      split
      · exact nb_bind (ih _ _) fun a r2 => nb_need fun r3 => nb_bind (ih _ _) fun b r4 => nb_ok _ _
      · exact nb_ok _ _
    | op lv =>
      rw [run]
      exact nb_bind (ih _ _) fun e r => ih _ _
    | lp lv rc e =>
      rw [run]
      split
      · exact nb_bind (ih _ _) fun e r => ih _ _
      · split
        · exact nb_bind (ih _ _) fun e r => ih _ _
        · exact nb_ok _ _
    | jn k o sw e =>
      rw [run]
      exact nb_bind (ih _ _) fun e r => nb_ok _ _
    | rg e =>
      rw [run]
      exact nb_need fun r => ih _ _
    | rl acc =>
      rw [run]
      refine nb_bind (ih _ _) fun a r => nb_need fun r2 => nb_bind (ih _ _) fun b r3 => ?_
      split
      · exact ih _ _
      · exact nb_need fun r4 => nb_ok _ _
    | pf =>
      rw [run]
      split
      · exact nb_bind (ih _ _) fun a r => nb_ok _ _
      · exact ih _ _
    | pr =>
      rw [run]
      split
      · exact nb_num fun n r => nb_ok _ _
      · split
        · exact ih _ _
        · exact nb_need fun r => nb_bind (ih _ _) fun e r2 => nb_need fun r3 => nb_ok _ _
    | nm s =>
      rw [run]
      split
      · exact nb_name fun m r => nb_need fun r2 => nb_ok _ _
      · split
        · exact nb_bind (ih _ _) fun a r => nb_need fun r2 => nb_ok _ _
        · split
          · exact nb_bind (ih _ _) fun a r => nb_need fun r2 => nb_ok _ _
          · split
            · exact nb_num fun n r => nb_ok _ _
            · exact nb_ok _ _
theorem par_ok {s : List UInt8} (h : (parS s).2.2 = 0) : ∃ L x, tokS s = (L, 0, 0) ∧ res .ch L = .ok x [] ∧ vld x = 0 ∧ parS s = (x, 0, 0) := by
  unfold parS at h
  by_cases g : (tokS s).2.2 ≠ 0
  · rw [if_pos g] at h; exact absurd h g
  · rw [if_neg g] at h
    simp only [ne_eq, Decidable.not_not] at g
    obtain ⟨_, _, g2⟩ := tokS_ok s g
    rcases hq : tokS s with ⟨L, ln, er⟩
    rw [hq] at h g g2
    dsimp only at h g g2
    subst g g2
    rcases hr : res .ch L with ⟨x, r⟩ | ⟨er, k⟩ | _
    · rw [hr] at h
      unfold fin at h
      dsimp only at h
      by_cases hz : r.length ≠ 0
      · rw [if_pos hz] at h; exact absurd h (by simp)
      · rw [if_neg hz] at h
        have hr0 : r = [] := List.length_eq_zero_iff.1 (by omega)
        subst hr0
        by_cases hv : vld x ≠ 0
        · rw [if_pos hv] at h; exact absurd h hv
        · simp only [ne_eq, Decidable.not_not] at hv
          refine ⟨L, x, rfl, hr, hv, ?_⟩
          unfold parS
          rw [hq]
          dsimp only
          rw [if_neg (by decide), hr]
          unfold fin
          dsimp only
          rw [if_neg (by simp), if_neg (by rw [hv]; decide)]
    · rw [hr] at h
      have hb := run_nb _ _ _ er k hr
      unfold fin at h
      dsimp only at h
      omega
    · exact absurd hr (res_ne _ _)
theorem par_of {s : List UInt8} {L : List Tk} {x : Ex} (h : tokS s = (L, 0, 0)) (hr : res .ch L = .ok x []) (hv : vld x = 0) : parS s = (x, 0, 0) := by
  unfold parS
  rw [h]
  dsimp only
  rw [if_neg (by decide), hr]
  unfold fin
  dsimp only
  rw [if_neg (by simp), if_neg (by rw [hv]; decide)]
theorem tokS_lex {s : List UInt8} (h : s.length ≤ 16384) : tokS s = lex s 1 [] := by unfold tokS; rw [if_neg (by omega)]
/-- What is printed is parsed. -/
theorem par_prn {x : Ex} (hv : vld x = 0) (hl : (prn x).length ≤ 16384) : parS (prn x) = (x, 0, 0) := by
  have hok := ((vld_zero x).1 hv).1
  exact par_of (by rw [tokS_lex hl]; exact lex_prn hok) (parse_prn hok) hv
/-- A text in parentheses, with a line's end behind it, is parsed to the same. -/
theorem par_paren {s : List UInt8} {L : List Tk} {x : Ex} (h : tokS s = (L, 0, 0)) (hr : res .ch L = .ok x []) (hv : vld x = 0) (hl : s.length + 3 ≤ 16384) : parS (40 :: (s ++ [10, 41])) = (x, 0, 0) := by
  have hs : lex s 1 [] = (L, 0, 0) := by rw [← tokS_lex (by omega)]; exact h
  have f1 : firstS (40 :: (s ++ [10, 41])) = (⟨4, 0, [40], 0⟩, 0) := by
    have hw : wordS (40 :: (s ++ [10, 41])) = [] := by unfold wordS; rw [List.takeWhile_cons]; rfl
    rw [first_mark hw]
    unfold markT
    cases s with
    | nil => rfl
    | cons c r =>
      have h2 : isMk ((40 :: ((c :: r) ++ [10, 41])).take 2) = false := by
        show isMk [40, c] = false
        unfold isMk
        rw [decide_eq_false_iff_not]
        intro hm
        simp [mks] at hm
      rw [if_neg (by rw [h2]; decide)]
      rfl
  have e1 : lex (40 :: (s ++ [10, 41])) 1 [] = lex (s ++ 10 :: [41]) 1 [⟨4, 0, [40], 1⟩] := by
    rw [lex_tok _ _ _ (by decide) (by decide) (by cases s <;> rfl) (by rw [f1]), f1]
    rfl
  have e2 : lex s 1 [⟨4, 0, [40], 1⟩] = (⟨4, 0, [40], 1⟩ :: L, 0, 0) := by
    have q := lex_shift 0 [⟨4, 0, [40], 1⟩] s 1 []
    rw [hs] at q
    have hid : L.map (shift 0) = L := by
      rw [show (shift 0) = id from by funext t; simp [shift]]
      exact List.map_id L
    rw [List.map_nil, List.append_nil, hid] at q
    exact q
  have e3 : lex (40 :: (s ++ [10, 41])) 1 [] = (⟨4, 0, [40], 1⟩ :: (L ++ [⟨4, 0, [41], 1 + nl s + 1⟩]), 0, 0) := by
    rw [e1, lex_app, e2]
    dsimp only
    rw [if_pos rfl]
    have f2 : firstS [41] = (⟨4, 0, [41], 0⟩, 0) := by rfl
    rw [lex_tok _ _ _ (by decide) (by decide) (by decide) (by rw [f2]), f2]
    show lex [] _ _ = _
    rw [lex_nil]
    rfl
  refine par_of (L := ⟨4, 0, [40], 1⟩ :: (L ++ [⟨4, 0, [41], 1 + nl s + 1⟩])) ?_ (res_paren ⟨rfl, rfl⟩ ⟨rfl, rfl⟩ hr) hv
  rw [tokS_lex (by simp only [List.length_cons, List.length_append, List.length_nil]; omega), e3]
end Go.Proofs.YtlnomiiphlbamaaGreatDoor.EtM
namespace Go.Proofs.YtlnomiiphlbamaaGreatDoor.EtW
open Go Go.RowKit Go.Proofs.YtlnomiiphlbamaaGreatDoor.NumM Go.Proofs.YtlnomiiphlbamaaGreatDoor.LexW Go.Proofs.YtlnomiiphlbamaaGreatDoor.LexM Go.Proofs.YtlnomiiphlbamaaGreatDoor.ExM Go.Proofs.YtlnomiiphlbamaaGreatDoor.ExW Go.Proofs.YtlnomiiphlbamaaGreatDoor.EtM

set_option maxRecDepth 100000 in
set_option maxHeartbeats 4000000 in
theorem canonical_err (s : ByteArray) (w : World) (ht : TabE w) {x : Ex} {ln er : Int} (hp : parS s.data.toList = (x, ln, er)) (he : er ≠ 0) : Calls Tryz.prog 5 #[.string s] w fun e w' => e = .returned (.bool true) ∧ Below w.heap.size w w' := by
  have P1' := parse_any s w ht
  rw [hp] at P1'
  have P1 := Lib.hid P1'
  have AC := Lib.hid (fun W (hW : Below w.heap.size w W) => awake_any W (ht.later hW))
  clear P1' ht hp
  go_enter Tryz.func5, Tryz.ntmps5
  go_wp2_with (first
    | (go_at_call 11; ((with_reducible refine P1.out.mono ?_); rintro e w2 ⟨o2, n2, s2, p2, k2, c2, rfl, hb, hf⟩; have HB2 := Lib.hid (hb.alloc hb.size (.cells #[.int .i64 o2, .int .i64 n2, .string s2, .slice p2 k2 c2] 24)); clear hb hf))
    | (go_at_call 9; ((with_reducible refine (AC.out _ HB2.out).mono ?_); rintro e w3 ⟨rfl, hb⟩; have HB3 := Lib.hid (HB2.out.then_ hb); clear hb)))
  go_ret
  exact ⟨rfl, HB3.out⟩
set_option maxRecDepth 100000 in
set_option maxHeartbeats 8000000 in
theorem can_tt (s : ByteArray) (hs : s.size ≤ 140737488351232) (w : World) (ht : TabE w) {x : Ex} {T : List UInt8} (hz : sz x ≤ 2000000) (h1 : parS s.data.toList = (x, 0, 0)) (hpr : prS x = T) (hTl : T.length ≤ 200000000) (h2 : parS T = (x, 0, 0)) (h3 : parS (40 :: (s.data.toList ++ [10, 41])) = (x, 0, 0)) (hT : T.length ≤ 16384) (hS : s.size + 3 ≤ 16384) :
    Calls Tryz.prog 5 #[.string s] w fun e w' => e = .returned (.bool true) ∧ Below w.heap.size w w' := by
  have P1' := parse_any s w ht
  rw [h1] at P1'
  have P1 := Lib.hid P1'
  have P2 := Lib.hid (fun W (hW : Below w.heap.size w W) => by
    have q := parse_any (mb T) W (ht.later hW)
    have e : parS (mb T).data.toList = (x, 0, 0) := h2
    rw [e] at q
    exact q)
  have P3 := Lib.hid (fun W (hW : Below w.heap.size w W) => by
    have q := parse_any (⟨#[40]⟩ ++ s ++ ⟨#[10, 41]⟩) W (ht.later hW)
    have e : parS (⟨#[40]⟩ ++ s ++ ⟨#[10, 41]⟩).data.toList = (x, 0, 0) := by rw [← h3]; simp [ByteArray.data_append]
    rw [e] at q
    exact q)
  have PR := Lib.hid (fun W v (hW : Below w.heap.size w W) (hx : ExAt W.heap.size W v x) => by
    have q := print_any x v W hx hz (ht.later hW)
    rw [hpr] at q
    exact q)
  have AC := Lib.hid (fun W (hW : Below w.heap.size w W) => awake_any W (ht.later hW))
  have HZ := Lib.hid hz
  have t1 : ¬ (16384 : Int) < (T.length : Int) := by omega
  have t2 : ¬ (16384 : Int) < (s.size : Int) + 3 := by omega
  have t3 : IntKind.i64.wrap ((s.size : Int) + 3) = (s.size : Int) + 3 := IntWalk.i64_in _ (by omega)
  clear P1' ht h1 hpr h2 h3 hT hS hz
  go_enter Tryz.func5, Tryz.ntmps5
  go_wp2_with (first
    | (go_at_call 11; ((with_reducible refine P1.out.mono ?_); rintro e w2 ⟨o2, n2, s2, p2, k2, c2, rfl, hb, hf⟩; have hq := hb.alloc hb.size (.cells #[.int .i64 o2, .int .i64 n2, .string s2, .slice p2 k2 c2] 24); have G2 := Lib.hid (Four.new w2 (.int .i64 o2) (.int .i64 n2) (.string s2) (.slice p2 k2 c2) 24); have F2 := Lib.hid (fr_alloc hf (.cells #[.int .i64 o2, .int .i64 n2, .string s2, .slice p2 k2 c2] 24)); have HB2 := Lib.hid hq; have PC := Lib.hid (PR.out _ _ hq F2.out.at_); have a0 := G2.out.c0; have a1 := G2.out.c1; have a2 := G2.out.c2; have a3 := G2.out.c3; clear hb hf hq))
    | (go_at_call 7; ((with_reducible refine PC.out.mono ?_); rintro e w4 ⟨rfl, hb⟩; have Q4 := Lib.hid hb; have HB4 := Lib.hid (HB2.out.then_ hb); clear hb))
    | (go_at_call 11; ((with_reducible refine (P2.out _ HB4.out).mono ?_); rintro e w5 ⟨o5, n5, s5, p5, k5, c5, rfl, hb, hf⟩; have hq := hb.alloc hb.size (.cells #[.int .i64 o5, .int .i64 n5, .string s5, .slice p5 k5 c5] 24); have G5 := Lib.hid (Four.new w5 (.int .i64 o5) (.int .i64 n5) (.string s5) (.slice p5 k5 c5) 24); have F5 := Lib.hid (fr_alloc hf (.cells #[.int .i64 o5, .int .i64 n5, .string s5, .slice p5 k5 c5] 24)); have Q5 := Lib.hid hq; have HB5 := Lib.hid (HB4.out.then_ hq); clear hb hf hq a0 a1 a2 a3))
    | (go_at_call 11; ((with_reducible refine (P3.out _ HB5.out).mono ?_); rintro e w6 ⟨o6, n6, s6, p6, k6, c6, rfl, hb, hf⟩; have hq := hb.alloc hb.size (.cells #[.int .i64 o6, .int .i64 n6, .string s6, .slice p6 k6 c6] 24); have G6 := Lib.hid (Four.new w6 (.int .i64 o6) (.int .i64 n6) (.string s6) (.slice p6 k6 c6) 24); have F6 := Lib.hid (fr_alloc hf (.cells #[.int .i64 o6, .int .i64 n6, .string s6, .slice p6 k6 c6] 24)); have HB6 := Lib.hid (HB5.out.then_ hq); have g2 := ((G2.out.stay Q4.out).stay Q5.out).stay hq; have g5 := G5.out.stay hq; have g6 := G6.out; have f2 := ((F2.out.later Q4.out).later Q5.out).later hq; have f5 := F5.out.later hq; have f6 := F6.out; have a0 := g2.c0; have a1 := g2.c1; have a2 := g2.c2; have a3 := g2.c3; have b0 := g5.c0; have b1 := g5.c1; have b2 := g5.c2; have b3 := g5.c3; have d0 := g6.c0; have d1 := g6.c1; have d2 := g6.c2; have d3 := g6.c3; have HG2 := Lib.hid g2; have HG5 := Lib.hid g5; have HG6 := Lib.hid g6; have SC1 := Lib.hid (fun W (hW : Below (w6.alloc (.cells #[.int .i64 o6, .int .i64 n6, .string s6, .slice p6 k6 c6] 24)).heap.size (w6.alloc (.cells #[.int .i64 o6, .int .i64 n6, .string s6, .slice p6 k6 c6] 24)) W) => (by have q := sameR_any x x _ W _ _ ((f5.later hW).at_) (((f2.low (Nat.le_refl _)).later hW).at_) (Nat.le_refl _) HZ.out; rw [eqB_refl] at q; exact q : Calls Tryz.prog 12 #[xv o5 n5 s5 (.slice p5 k5 c5), xv o2 n2 s2 (.slice p2 k2 c2)] W (tBool true W))); have PC2 := Lib.hid (fun W (hW : Below (w6.alloc (.cells #[.int .i64 o6, .int .i64 n6, .string s6, .slice p6 k6 c6] 24)).heap.size (w6.alloc (.cells #[.int .i64 o6, .int .i64 n6, .string s6, .slice p6 k6 c6] 24)) W) => PR.out W _ (HB6.out.then_ hW) ((f5.later hW).at_)); have SC2 := Lib.hid (fun W (hW : Below (w6.alloc (.cells #[.int .i64 o6, .int .i64 n6, .string s6, .slice p6 k6 c6] 24)).heap.size (w6.alloc (.cells #[.int .i64 o6, .int .i64 n6, .string s6, .slice p6 k6 c6] 24)) W) => (by have q := sameR_any x x _ W _ _ ((f6.later hW).at_) ((f2.later hW).at_) (Nat.le_refl _) HZ.out; rw [eqB_refl] at q; exact q : Calls Tryz.prog 12 #[xv o6 n6 s6 (.slice p6 k6 c6), xv o2 n2 s2 (.slice p2 k2 c2)] W (tBool true W))); have HR := Lib.hid (Below.refl (w6.alloc (.cells #[.int .i64 o6, .int .i64 n6, .string s6, .slice p6 k6 c6] 24)).heap.size (w6.alloc (.cells #[.int .i64 o6, .int .i64 n6, .string s6, .slice p6 k6 c6] 24))); clear hb hf hq g2 g5 g6 f2 f5 f6))
    | (go_at_call 12; ((with_reducible refine (SC1.out _ HR.out).mono ?_); rintro e w7 ⟨rfl, hb⟩; have H7 := Lib.hid (HR.out.then_ hb); clear hb a0 a1 a2 a3 b0 b1 b2 b3 d0 d1 d2 d3; have v2 := HG2.out.stay H7.out; have v5 := HG5.out.stay H7.out; have v6 := HG6.out.stay H7.out; have a0 := v2.c0; have a1 := v2.c1; have a2 := v2.c2; have a3 := v2.c3; have b0 := v5.c0; have b1 := v5.c1; have b2 := v5.c2; have b3 := v5.c3; have d0 := v6.c0; have d1 := v6.c1; have d2 := v6.c2; have d3 := v6.c3; clear v2 v5 v6))
    | (go_at_call 7; ((with_reducible refine (PC2.out _ H7.out).mono ?_); rintro e w8 ⟨rfl, hb⟩; have H8 := Lib.hid (H7.out.then_ hb); clear hb a0 a1 a2 a3 b0 b1 b2 b3 d0 d1 d2 d3; have v2 := HG2.out.stay H8.out; have v5 := HG5.out.stay H8.out; have v6 := HG6.out.stay H8.out; have a0 := v2.c0; have a1 := v2.c1; have a2 := v2.c2; have a3 := v2.c3; have b0 := v5.c0; have b1 := v5.c1; have b2 := v5.c2; have b3 := v5.c3; have d0 := v6.c0; have d1 := v6.c1; have d2 := v6.c2; have d3 := v6.c3; clear v2 v5 v6))
    | (go_at_call 12; ((with_reducible refine (SC2.out _ H8.out).mono ?_); rintro e w9 ⟨rfl, hb⟩; have H9 := Lib.hid (H8.out.then_ hb); clear hb))
    | (go_at_call 9; ((with_reducible refine (AC.out _ (HB6.out.then_ H9.out)).mono ?_); rintro e w10 ⟨rfl, hb⟩; have H10 := Lib.hid ((HB6.out.then_ H9.out).then_ hb); clear hb)))
  go_ret
  exact ⟨rfl, H10.out⟩
set_option maxRecDepth 100000 in
set_option maxHeartbeats 8000000 in
theorem can_tf (s : ByteArray) (hs : s.size ≤ 140737488351232) (w : World) (ht : TabE w) {x : Ex} {x3 : Ex} {l3 r3 : Int} {T : List UInt8} (hz : sz x ≤ 2000000) (h1 : parS s.data.toList = (x, 0, 0)) (hpr : prS x = T) (hTl : T.length ≤ 200000000) (h2 : parS T = (x, 0, 0)) (h3 : parS (40 :: (s.data.toList ++ [10, 41])) = (x3, l3, r3)) (hT : T.length ≤ 16384) (hS : ¬ s.size + 3 ≤ 16384) :
    Calls Tryz.prog 5 #[.string s] w fun e w' => e = .returned (.bool true) ∧ Below w.heap.size w w' := by
  have P1' := parse_any s w ht
  rw [h1] at P1'
  have P1 := Lib.hid P1'
  have P2 := Lib.hid (fun W (hW : Below w.heap.size w W) => by
    have q := parse_any (mb T) W (ht.later hW)
    have e : parS (mb T).data.toList = (x, 0, 0) := h2
    rw [e] at q
    exact q)
  have P3 := Lib.hid (fun W (hW : Below w.heap.size w W) => by
    have q := parse_any (⟨#[40]⟩ ++ s ++ ⟨#[10, 41]⟩) W (ht.later hW)
    have e : parS (⟨#[40]⟩ ++ s ++ ⟨#[10, 41]⟩).data.toList = (x3, l3, r3) := by rw [← h3]; simp [ByteArray.data_append]
    rw [e] at q
    exact q)
  have PR := Lib.hid (fun W v (hW : Below w.heap.size w W) (hx : ExAt W.heap.size W v x) => by
    have q := print_any x v W hx hz (ht.later hW)
    rw [hpr] at q
    exact q)
  have AC := Lib.hid (fun W (hW : Below w.heap.size w W) => awake_any W (ht.later hW))
  have HZ := Lib.hid hz
  have t1 : ¬ (16384 : Int) < (T.length : Int) := by omega
  have t2 : (16384 : Int) < (s.size : Int) + 3 := by omega
  have t3 : IntKind.i64.wrap ((s.size : Int) + 3) = (s.size : Int) + 3 := IntWalk.i64_in _ (by omega)
  clear P1' ht h1 hpr h2 h3 hT hS hz
  go_enter Tryz.func5, Tryz.ntmps5
  go_wp2_with (first
    | (go_at_call 11; ((with_reducible refine P1.out.mono ?_); rintro e w2 ⟨o2, n2, s2, p2, k2, c2, rfl, hb, hf⟩; have hq := hb.alloc hb.size (.cells #[.int .i64 o2, .int .i64 n2, .string s2, .slice p2 k2 c2] 24); have G2 := Lib.hid (Four.new w2 (.int .i64 o2) (.int .i64 n2) (.string s2) (.slice p2 k2 c2) 24); have F2 := Lib.hid (fr_alloc hf (.cells #[.int .i64 o2, .int .i64 n2, .string s2, .slice p2 k2 c2] 24)); have HB2 := Lib.hid hq; have PC := Lib.hid (PR.out _ _ hq F2.out.at_); have a0 := G2.out.c0; have a1 := G2.out.c1; have a2 := G2.out.c2; have a3 := G2.out.c3; clear hb hf hq))
    | (go_at_call 7; ((with_reducible refine PC.out.mono ?_); rintro e w4 ⟨rfl, hb⟩; have Q4 := Lib.hid hb; have HB4 := Lib.hid (HB2.out.then_ hb); clear hb))
    | (go_at_call 11; ((with_reducible refine (P2.out _ HB4.out).mono ?_); rintro e w5 ⟨o5, n5, s5, p5, k5, c5, rfl, hb, hf⟩; have hq := hb.alloc hb.size (.cells #[.int .i64 o5, .int .i64 n5, .string s5, .slice p5 k5 c5] 24); have G5 := Lib.hid (Four.new w5 (.int .i64 o5) (.int .i64 n5) (.string s5) (.slice p5 k5 c5) 24); have F5 := Lib.hid (fr_alloc hf (.cells #[.int .i64 o5, .int .i64 n5, .string s5, .slice p5 k5 c5] 24)); have Q5 := Lib.hid hq; have HB5 := Lib.hid (HB4.out.then_ hq); clear hb hf hq a0 a1 a2 a3))
    | (go_at_call 11; ((with_reducible refine (P3.out _ HB5.out).mono ?_); rintro e w6 ⟨o6, n6, s6, p6, k6, c6, rfl, hb, hf⟩; have hq := hb.alloc hb.size (.cells #[.int .i64 o6, .int .i64 n6, .string s6, .slice p6 k6 c6] 24); have G6 := Lib.hid (Four.new w6 (.int .i64 o6) (.int .i64 n6) (.string s6) (.slice p6 k6 c6) 24); have F6 := Lib.hid (fr_alloc hf (.cells #[.int .i64 o6, .int .i64 n6, .string s6, .slice p6 k6 c6] 24)); have HB6 := Lib.hid (HB5.out.then_ hq); have g2 := ((G2.out.stay Q4.out).stay Q5.out).stay hq; have g5 := G5.out.stay hq; have g6 := G6.out; have f2 := ((F2.out.later Q4.out).later Q5.out).later hq; have f5 := F5.out.later hq; have f6 := F6.out; have a0 := g2.c0; have a1 := g2.c1; have a2 := g2.c2; have a3 := g2.c3; have b0 := g5.c0; have b1 := g5.c1; have b2 := g5.c2; have b3 := g5.c3; have d0 := g6.c0; have d1 := g6.c1; have d2 := g6.c2; have d3 := g6.c3; have HG2 := Lib.hid g2; have HG5 := Lib.hid g5; have HG6 := Lib.hid g6; have SC1 := Lib.hid (fun W (hW : Below (w6.alloc (.cells #[.int .i64 o6, .int .i64 n6, .string s6, .slice p6 k6 c6] 24)).heap.size (w6.alloc (.cells #[.int .i64 o6, .int .i64 n6, .string s6, .slice p6 k6 c6] 24)) W) => (by have q := sameR_any x x _ W _ _ ((f5.later hW).at_) (((f2.low (Nat.le_refl _)).later hW).at_) (Nat.le_refl _) HZ.out; rw [eqB_refl] at q; exact q : Calls Tryz.prog 12 #[xv o5 n5 s5 (.slice p5 k5 c5), xv o2 n2 s2 (.slice p2 k2 c2)] W (tBool true W))); have PC2 := Lib.hid (fun W (hW : Below (w6.alloc (.cells #[.int .i64 o6, .int .i64 n6, .string s6, .slice p6 k6 c6] 24)).heap.size (w6.alloc (.cells #[.int .i64 o6, .int .i64 n6, .string s6, .slice p6 k6 c6] 24)) W) => PR.out W _ (HB6.out.then_ hW) ((f5.later hW).at_)); have HR := Lib.hid (Below.refl (w6.alloc (.cells #[.int .i64 o6, .int .i64 n6, .string s6, .slice p6 k6 c6] 24)).heap.size (w6.alloc (.cells #[.int .i64 o6, .int .i64 n6, .string s6, .slice p6 k6 c6] 24))); clear hb hf hq g2 g5 g6 f2 f5 f6))
    | (go_at_call 12; ((with_reducible refine (SC1.out _ HR.out).mono ?_); rintro e w7 ⟨rfl, hb⟩; have H7 := Lib.hid (HR.out.then_ hb); clear hb a0 a1 a2 a3 b0 b1 b2 b3 d0 d1 d2 d3; have v2 := HG2.out.stay H7.out; have v5 := HG5.out.stay H7.out; have v6 := HG6.out.stay H7.out; have a0 := v2.c0; have a1 := v2.c1; have a2 := v2.c2; have a3 := v2.c3; have b0 := v5.c0; have b1 := v5.c1; have b2 := v5.c2; have b3 := v5.c3; have d0 := v6.c0; have d1 := v6.c1; have d2 := v6.c2; have d3 := v6.c3; clear v2 v5 v6))
    | (go_at_call 7; ((with_reducible refine (PC2.out _ H7.out).mono ?_); rintro e w8 ⟨rfl, hb⟩; have H8 := Lib.hid (H7.out.then_ hb); clear hb a0 a1 a2 a3 b0 b1 b2 b3 d0 d1 d2 d3; have v2 := HG2.out.stay H8.out; have v5 := HG5.out.stay H8.out; have v6 := HG6.out.stay H8.out; have a0 := v2.c0; have a1 := v2.c1; have a2 := v2.c2; have a3 := v2.c3; have b0 := v5.c0; have b1 := v5.c1; have b2 := v5.c2; have b3 := v5.c3; have d0 := v6.c0; have d1 := v6.c1; have d2 := v6.c2; have d3 := v6.c3; clear v2 v5 v6))
    | (go_at_call 9; ((with_reducible refine (AC.out _ (HB6.out.then_ H8.out)).mono ?_); rintro e w10 ⟨rfl, hb⟩; have H10 := Lib.hid ((HB6.out.then_ H8.out).then_ hb); clear hb)))
  go_ret
  exact ⟨rfl, H10.out⟩
set_option maxRecDepth 100000 in
set_option maxHeartbeats 8000000 in
theorem can_ft (s : ByteArray) (hs : s.size ≤ 140737488351232) (w : World) (ht : TabE w) {x : Ex} {x2 : Ex} {l2 r2 : Int} {T : List UInt8} (hz : sz x ≤ 2000000) (h1 : parS s.data.toList = (x, 0, 0)) (hpr : prS x = T) (hTl : T.length ≤ 200000000) (h2 : parS T = (x2, l2, r2)) (h3 : parS (40 :: (s.data.toList ++ [10, 41])) = (x, 0, 0)) (hT : ¬ T.length ≤ 16384) (hS : s.size + 3 ≤ 16384) :
    Calls Tryz.prog 5 #[.string s] w fun e w' => e = .returned (.bool true) ∧ Below w.heap.size w w' := by
  have P1' := parse_any s w ht
  rw [h1] at P1'
  have P1 := Lib.hid P1'
  have P2 := Lib.hid (fun W (hW : Below w.heap.size w W) => by
    have q := parse_any (mb T) W (ht.later hW)
    have e : parS (mb T).data.toList = (x2, l2, r2) := h2
    rw [e] at q
    exact q)
  have P3 := Lib.hid (fun W (hW : Below w.heap.size w W) => by
    have q := parse_any (⟨#[40]⟩ ++ s ++ ⟨#[10, 41]⟩) W (ht.later hW)
    have e : parS (⟨#[40]⟩ ++ s ++ ⟨#[10, 41]⟩).data.toList = (x, 0, 0) := by rw [← h3]; simp [ByteArray.data_append]
    rw [e] at q
    exact q)
  have PR := Lib.hid (fun W v (hW : Below w.heap.size w W) (hx : ExAt W.heap.size W v x) => by
    have q := print_any x v W hx hz (ht.later hW)
    rw [hpr] at q
    exact q)
  have AC := Lib.hid (fun W (hW : Below w.heap.size w W) => awake_any W (ht.later hW))
  have HZ := Lib.hid hz
  have t1 : (16384 : Int) < (T.length : Int) := by omega
  have t2 : ¬ (16384 : Int) < (s.size : Int) + 3 := by omega
  have t3 : IntKind.i64.wrap ((s.size : Int) + 3) = (s.size : Int) + 3 := IntWalk.i64_in _ (by omega)
  clear P1' ht h1 hpr h2 h3 hT hS hz
  go_enter Tryz.func5, Tryz.ntmps5
  go_wp2_with (first
    | (go_at_call 11; ((with_reducible refine P1.out.mono ?_); rintro e w2 ⟨o2, n2, s2, p2, k2, c2, rfl, hb, hf⟩; have hq := hb.alloc hb.size (.cells #[.int .i64 o2, .int .i64 n2, .string s2, .slice p2 k2 c2] 24); have G2 := Lib.hid (Four.new w2 (.int .i64 o2) (.int .i64 n2) (.string s2) (.slice p2 k2 c2) 24); have F2 := Lib.hid (fr_alloc hf (.cells #[.int .i64 o2, .int .i64 n2, .string s2, .slice p2 k2 c2] 24)); have HB2 := Lib.hid hq; have PC := Lib.hid (PR.out _ _ hq F2.out.at_); have a0 := G2.out.c0; have a1 := G2.out.c1; have a2 := G2.out.c2; have a3 := G2.out.c3; clear hb hf hq))
    | (go_at_call 7; ((with_reducible refine PC.out.mono ?_); rintro e w4 ⟨rfl, hb⟩; have Q4 := Lib.hid hb; have HB4 := Lib.hid (HB2.out.then_ hb); clear hb))
    | (go_at_call 11; ((with_reducible refine (P2.out _ HB4.out).mono ?_); rintro e w5 ⟨o5, n5, s5, p5, k5, c5, rfl, hb, hf⟩; have hq := hb.alloc hb.size (.cells #[.int .i64 o5, .int .i64 n5, .string s5, .slice p5 k5 c5] 24); have G5 := Lib.hid (Four.new w5 (.int .i64 o5) (.int .i64 n5) (.string s5) (.slice p5 k5 c5) 24); have F5 := Lib.hid (fr_alloc hf (.cells #[.int .i64 o5, .int .i64 n5, .string s5, .slice p5 k5 c5] 24)); have Q5 := Lib.hid hq; have HB5 := Lib.hid (HB4.out.then_ hq); clear hb hf hq a0 a1 a2 a3))
    | (go_at_call 11; ((with_reducible refine (P3.out _ HB5.out).mono ?_); rintro e w6 ⟨o6, n6, s6, p6, k6, c6, rfl, hb, hf⟩; have hq := hb.alloc hb.size (.cells #[.int .i64 o6, .int .i64 n6, .string s6, .slice p6 k6 c6] 24); have G6 := Lib.hid (Four.new w6 (.int .i64 o6) (.int .i64 n6) (.string s6) (.slice p6 k6 c6) 24); have F6 := Lib.hid (fr_alloc hf (.cells #[.int .i64 o6, .int .i64 n6, .string s6, .slice p6 k6 c6] 24)); have HB6 := Lib.hid (HB5.out.then_ hq); have g2 := ((G2.out.stay Q4.out).stay Q5.out).stay hq; have g5 := G5.out.stay hq; have g6 := G6.out; have f2 := ((F2.out.later Q4.out).later Q5.out).later hq; have f5 := F5.out.later hq; have f6 := F6.out; have a0 := g2.c0; have a1 := g2.c1; have a2 := g2.c2; have a3 := g2.c3; have b0 := g5.c0; have b1 := g5.c1; have b2 := g5.c2; have b3 := g5.c3; have d0 := g6.c0; have d1 := g6.c1; have d2 := g6.c2; have d3 := g6.c3; have HG2 := Lib.hid g2; have HG5 := Lib.hid g5; have HG6 := Lib.hid g6; have SC2 := Lib.hid (fun W (hW : Below (w6.alloc (.cells #[.int .i64 o6, .int .i64 n6, .string s6, .slice p6 k6 c6] 24)).heap.size (w6.alloc (.cells #[.int .i64 o6, .int .i64 n6, .string s6, .slice p6 k6 c6] 24)) W) => (by have q := sameR_any x x _ W _ _ ((f6.later hW).at_) ((f2.later hW).at_) (Nat.le_refl _) HZ.out; rw [eqB_refl] at q; exact q : Calls Tryz.prog 12 #[xv o6 n6 s6 (.slice p6 k6 c6), xv o2 n2 s2 (.slice p2 k2 c2)] W (tBool true W))); have HR := Lib.hid (Below.refl (w6.alloc (.cells #[.int .i64 o6, .int .i64 n6, .string s6, .slice p6 k6 c6] 24)).heap.size (w6.alloc (.cells #[.int .i64 o6, .int .i64 n6, .string s6, .slice p6 k6 c6] 24))); clear hb hf hq g2 g5 g6 f2 f5 f6))
    | (go_at_call 12; ((with_reducible refine (SC2.out _ HR.out).mono ?_); rintro e w9 ⟨rfl, hb⟩; have H9 := Lib.hid (HR.out.then_ hb); clear hb))
    | (go_at_call 9; ((with_reducible refine (AC.out _ (HB6.out.then_ H9.out)).mono ?_); rintro e w10 ⟨rfl, hb⟩; have H10 := Lib.hid ((HB6.out.then_ H9.out).then_ hb); clear hb)))
  go_ret
  exact ⟨rfl, H10.out⟩
set_option maxRecDepth 100000 in
set_option maxHeartbeats 8000000 in
theorem can_ff (s : ByteArray) (hs : s.size ≤ 140737488351232) (w : World) (ht : TabE w) {x : Ex} {x2 : Ex} {l2 r2 : Int} {x3 : Ex} {l3 r3 : Int} {T : List UInt8} (hz : sz x ≤ 2000000) (h1 : parS s.data.toList = (x, 0, 0)) (hpr : prS x = T) (hTl : T.length ≤ 200000000) (h2 : parS T = (x2, l2, r2)) (h3 : parS (40 :: (s.data.toList ++ [10, 41])) = (x3, l3, r3)) (hT : ¬ T.length ≤ 16384) (hS : ¬ s.size + 3 ≤ 16384) :
    Calls Tryz.prog 5 #[.string s] w fun e w' => e = .returned (.bool true) ∧ Below w.heap.size w w' := by
  have P1' := parse_any s w ht
  rw [h1] at P1'
  have P1 := Lib.hid P1'
  have P2 := Lib.hid (fun W (hW : Below w.heap.size w W) => by
    have q := parse_any (mb T) W (ht.later hW)
    have e : parS (mb T).data.toList = (x2, l2, r2) := h2
    rw [e] at q
    exact q)
  have P3 := Lib.hid (fun W (hW : Below w.heap.size w W) => by
    have q := parse_any (⟨#[40]⟩ ++ s ++ ⟨#[10, 41]⟩) W (ht.later hW)
    have e : parS (⟨#[40]⟩ ++ s ++ ⟨#[10, 41]⟩).data.toList = (x3, l3, r3) := by rw [← h3]; simp [ByteArray.data_append]
    rw [e] at q
    exact q)
  have PR := Lib.hid (fun W v (hW : Below w.heap.size w W) (hx : ExAt W.heap.size W v x) => by
    have q := print_any x v W hx hz (ht.later hW)
    rw [hpr] at q
    exact q)
  have AC := Lib.hid (fun W (hW : Below w.heap.size w W) => awake_any W (ht.later hW))
  have HZ := Lib.hid hz
  have t1 : (16384 : Int) < (T.length : Int) := by omega
  have t2 : (16384 : Int) < (s.size : Int) + 3 := by omega
  have t3 : IntKind.i64.wrap ((s.size : Int) + 3) = (s.size : Int) + 3 := IntWalk.i64_in _ (by omega)
  clear P1' ht h1 hpr h2 h3 hT hS hz
  go_enter Tryz.func5, Tryz.ntmps5
  go_wp2_with (first
    | (go_at_call 11; ((with_reducible refine P1.out.mono ?_); rintro e w2 ⟨o2, n2, s2, p2, k2, c2, rfl, hb, hf⟩; have hq := hb.alloc hb.size (.cells #[.int .i64 o2, .int .i64 n2, .string s2, .slice p2 k2 c2] 24); have G2 := Lib.hid (Four.new w2 (.int .i64 o2) (.int .i64 n2) (.string s2) (.slice p2 k2 c2) 24); have F2 := Lib.hid (fr_alloc hf (.cells #[.int .i64 o2, .int .i64 n2, .string s2, .slice p2 k2 c2] 24)); have HB2 := Lib.hid hq; have PC := Lib.hid (PR.out _ _ hq F2.out.at_); have a0 := G2.out.c0; have a1 := G2.out.c1; have a2 := G2.out.c2; have a3 := G2.out.c3; clear hb hf hq))
    | (go_at_call 7; ((with_reducible refine PC.out.mono ?_); rintro e w4 ⟨rfl, hb⟩; have Q4 := Lib.hid hb; have HB4 := Lib.hid (HB2.out.then_ hb); clear hb))
    | (go_at_call 11; ((with_reducible refine (P2.out _ HB4.out).mono ?_); rintro e w5 ⟨o5, n5, s5, p5, k5, c5, rfl, hb, hf⟩; have hq := hb.alloc hb.size (.cells #[.int .i64 o5, .int .i64 n5, .string s5, .slice p5 k5 c5] 24); have G5 := Lib.hid (Four.new w5 (.int .i64 o5) (.int .i64 n5) (.string s5) (.slice p5 k5 c5) 24); have F5 := Lib.hid (fr_alloc hf (.cells #[.int .i64 o5, .int .i64 n5, .string s5, .slice p5 k5 c5] 24)); have Q5 := Lib.hid hq; have HB5 := Lib.hid (HB4.out.then_ hq); clear hb hf hq a0 a1 a2 a3))
    | (go_at_call 11; ((with_reducible refine (P3.out _ HB5.out).mono ?_); rintro e w6 ⟨o6, n6, s6, p6, k6, c6, rfl, hb, hf⟩; have hq := hb.alloc hb.size (.cells #[.int .i64 o6, .int .i64 n6, .string s6, .slice p6 k6 c6] 24); have G6 := Lib.hid (Four.new w6 (.int .i64 o6) (.int .i64 n6) (.string s6) (.slice p6 k6 c6) 24); have F6 := Lib.hid (fr_alloc hf (.cells #[.int .i64 o6, .int .i64 n6, .string s6, .slice p6 k6 c6] 24)); have HB6 := Lib.hid (HB5.out.then_ hq); have g2 := ((G2.out.stay Q4.out).stay Q5.out).stay hq; have g5 := G5.out.stay hq; have g6 := G6.out; have f2 := ((F2.out.later Q4.out).later Q5.out).later hq; have f5 := F5.out.later hq; have f6 := F6.out; have a0 := g2.c0; have a1 := g2.c1; have a2 := g2.c2; have a3 := g2.c3; have b0 := g5.c0; have b1 := g5.c1; have b2 := g5.c2; have b3 := g5.c3; have d0 := g6.c0; have d1 := g6.c1; have d2 := g6.c2; have d3 := g6.c3; have HG2 := Lib.hid g2; have HG5 := Lib.hid g5; have HG6 := Lib.hid g6; have HR := Lib.hid (Below.refl (w6.alloc (.cells #[.int .i64 o6, .int .i64 n6, .string s6, .slice p6 k6 c6] 24)).heap.size (w6.alloc (.cells #[.int .i64 o6, .int .i64 n6, .string s6, .slice p6 k6 c6] 24))); clear hb hf hq g2 g5 g6 f2 f5 f6))
    | (go_at_call 9; ((with_reducible refine (AC.out _ (HB6.out.then_ HR.out)).mono ?_); rintro e w10 ⟨rfl, hb⟩; have H10 := Lib.hid ((HB6.out.then_ HR.out).then_ hb); clear hb)))
  go_ret
  exact ⟨rfl, H10.out⟩
theorem canonical_any (s : ByteArray) (hs : s.size ≤ 140737488351232) (w : World) (ht : TabE w) : Calls Tryz.prog 5 #[.string s] w fun e w' => e = .returned (.bool true) ∧ Below w.heap.size w w' := by
  by_cases he : (parS s.data.toList).2.2 ≠ 0
  · exact canonical_err s w ht rfl he
  · simp only [ne_eq, Decidable.not_not] at he
    obtain ⟨L, x, hL, hr, hv, hp⟩ := par_ok he
    have hz : sz x ≤ 2000000 := by
      have h1 := res_sz hr
      have h2 := tokS_good s.data.toList
      rw [hL] at h2
      have h3 := h2.1
      dsimp only at h3
      omega
    have hok := ((vld_zero x).1 hv).1
    have hpr : prS x = prn x := by unfold prS; rw [if_neg (by rw [hv]; decide)]
    have hpl := prn_len x hok
    unfold Bd lnP at hpl
    have hTl : (prn x).length ≤ 200000000 := by show (txP (bare x)).length ≤ _; omega
    have hsl : s.data.toList.length = s.size := by simp
    by_cases hT : (prn x).length ≤ 16384
    · by_cases hS : s.size + 3 ≤ 16384
      · exact can_tt s hs w ht hz hp hpr hTl (par_prn hv hT) (par_paren hL hr hv (by omega)) hT hS
      · exact can_tf s hs w ht (x3 := (parS (40 :: (s.data.toList ++ [10, 41]))).1) hz hp hpr hTl (par_prn hv hT) rfl hT hS
    · by_cases hS : s.size + 3 ≤ 16384
      · exact can_ft s hs w ht (x2 := (parS (prn x)).1) hz hp hpr hTl rfl (par_paren hL hr hv (by omega)) hT hS
      · exact can_ff s hs w ht (x2 := (parS (prn x)).1) (x3 := (parS (40 :: (s.data.toList ++ [10, 41]))).1) hz hp hpr hTl rfl rfl hT hS
end Go.Proofs.YtlnomiiphlbamaaGreatDoor.EtW
