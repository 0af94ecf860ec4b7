/-
  The parser's recursive methods: named.
-/
import Derived.Test.YtlnomiiphlbamaaGreatDoorEtRec3
namespace Go.Proofs.YtlnomiiphlbamaaGreatDoor.EtW
open Go Go.RowKit Go.Proofs.YtlnomiiphlbamaaGreatDoor.NumM Go.Proofs.YtlnomiiphlbamaaGreatDoor.LexW Go.Proofs.YtlnomiiphlbamaaGreatDoor.LexM Go.Proofs.YtlnomiiphlbamaaGreatDoor.ExM Go.Proofs.YtlnomiiphlbamaaGreatDoor.ExW Go.Proofs.YtlnomiiphlbamaaGreatDoor.EtM

/-- A node of one operand that stands in a new block, whatever its name. -/
theorem nodeS {lo : Nat} {w8 : World} {o n : Int} {s : ByteArray} {a : Ex} {oa na : Int} {sa : ByteArray} {pa : Option Addr} {ka ca : Nat} (h : Fr lo w8 (xv oa na sa (.slice pa ka ca)) a) (hl : lo ≤ w8.heap.size) (hs : s.size ≤ 140737488351232) :
    Fr lo (w8.alloc (.cells #[.int .i64 oa, .int .i64 na, .string sa, .slice pa ka ca] 24)) (xv o n s (.slice (some ⟨w8.heap.size, 0, none⟩) 1 1)) (.mk o n s [a]) := by
  obtain ⟨rfl, rfl, rfl, rfl⟩ := ex_parts h
  refine ExS.mk (ks := [a]) (fun _ => pa) (fun _ => ca) hs (by simp) (by simp) (fun _ => ⟨w8.heap.size, 0, rfl, ⟨hl, by simp⟩, fun i x hi => ?_⟩) (fun i x hi => ?_)
  · match i, hi with
    | 0, hi => cases hi; exact ⟨cells_new _ _ _ 0, cells_new _ _ _ 1, cells_new _ _ _ 2, cells_new _ _ _ 3⟩
    | i + 1, hi => simp at hi
  · match i, hi with
    | 0, hi => cases hi; exact fr_alloc h _
    | i + 1, hi => simp at hi
theorem four_away {w : World} {g b : Nat} {x0 x1 x2 x3 : Value} (h : Four w g x0 x1 x2 x3) (hn : g ≠ b) (y0 y1 y2 y3 : Value) : Four ((((w.setCell ⟨b, 0, none⟩ y0).setCell ⟨b, 1, none⟩ y1).setCell ⟨b, 2, none⟩ y2).setCell ⟨b, 3, none⟩ y3) g x0 x1 x2 x3 :=
  (((h.far hn).far hn).far hn).far hn
theorem fr_away {lo : Nat} {w : World} {v : Value} {e : Ex} (h : Fr lo w v e) {g : Nat} (hg : g < lo) (y0 y1 y2 y3 : Value) : Fr lo ((((w.setCell ⟨g, 0, none⟩ y0).setCell ⟨g, 1, none⟩ y1).setCell ⟨g, 2, none⟩ y2).setCell ⟨g, 3, none⟩ y3) v e :=
  ex_wide (ex_away4 h (by omega) _ _ _ _) (fun b q => ⟨q.1, by simp only [setCell_size]; exact q.2⟩)
theorem el_cat (S D : ByteArray) (s : List UInt8) (n : Int) (hS : S = bs s) (hD : D = ⟨(Lib.itoa n).toArray⟩) : ((S ++ ⟨#[91]⟩) ++ D) ++ ⟨#[93]⟩ = mb (elN s n) := by
  apply bs_inj
  subst hS hD
  simp [elN, ByteArray.data_append]
set_option maxRecDepth 100000 in
set_option maxHeartbeats 16000000 in
theorem nm_sum {L : List Tk} {sl : Value} {w0 : World} (hc : Cx L sl w0) {s : List UInt8} (hs : s.length ≤ 16384) {r : List Tk} {w : World} (h : In L sl w0 r w) (g1 : s = sumW) (q1 : tx r = [40]) (k1 : kd r.tail = 1) (q2 : tx r.tail.tail = [41]) :
    Calls Tryz.prog 127 #[pp w0, .string (bs s)] w (tOk L sl w0 r.tail.tail.tail (.mk 24 0 (mb (tx r.tail)) []) w) := by
  have lt := h.lt
  obtain ⟨S, hS⟩ : ∃ S, bs s = S := ⟨_, rfl⟩
  have hSs : S.size ≤ 16384 := by rw [← hS]; exact hs
  have HS := Lib.hid hS
  have hd : S.data.toList = s := by rw [← hS]
  have hA0 := h.alloc (.cells #[.int .i64 0, .int .i64 0, .string ⟨#[]⟩, .slice none 0 0] 24)
  have hA := hA0.alloc (.cells #[.int .i64 2, .int .i64 0, .string S, .slice none 0 0] 24)
  have HTA : Hid (Tn w0 w ((w.alloc (.cells #[.int .i64 0, .int .i64 0, .string ⟨#[]⟩, .slice none 0 0] 24)).alloc (.cells #[.int .i64 2, .int .i64 0, .string S, .slice none 0 0] 24))) := Lib.hid ((tn_alloc _ _ _).then_ (tn_alloc _ _ _))
  have F0 := Lib.hid ((Four.new w (.int .i64 0) (.int .i64 0) (.string ⟨#[]⟩) (.slice none 0 0) 24).alloc (.cells #[.int .i64 2, .int .i64 0, .string S, .slice none 0 0] 24))
  have E0' := Four.new (w.alloc (.cells #[.int .i64 0, .int .i64 0, .string ⟨#[]⟩, .slice none 0 0] 24)) (.int .i64 2) (.int .i64 0) (.string S) (.slice none 0 0) 24
  rw [World.size_alloc] at E0'
  have E0 := Lib.hid E0'
  have i0 := E0'.c0
  have i1 := E0'.c1
  have i2 := E0'.c2
  have i3 := E0'.c3
  have j0 := E0'.f0
  have j1 := E0'.f1
  have j2 := E0'.f2
  have j3 := E0'.f3
  clear E0'
  have hr := tx_pos q1 (by decide)
  have hr2 := kd_pos k1 (by decide)
  have hr3 := tx_pos q2 (by decide)
  obtain ⟨M, hM⟩ : ∃ M, bs (tx r.tail) = M := ⟨_, rfl⟩
  have hMl := hc.tlen _ (hd_mem (⟨(suf_tail h.suf hr).1, (suf_tail h.suf hr).2.1⟩) hr2)
  have hMs : M.size ≤ 16384 := by rw [← hM]; exact hMl
  have SK := Lib.hid (skip_yes hc hA ⟨#[40]⟩ q1 hr)
  have t1 : (S.toList == [115, 117, 109]) = true := by rw [Lib.toList_data, hd, g1]; rfl
  show Calls _ _ _ _ (tOk L sl w0 r.tail.tail.tail (.mk 24 0 (bs (tx r.tail)) []) w)
  rw [hM]
  rw [hS]
  clear h hA0 hA hs hS hd
  have HM := Lib.hid hM
  clear hM hMl g1
  go_enter Tryz.func127, Tryz.ntmps127
  go_wp2_with (first
    | (go_at_call 48; ((with_reducible refine SK.out.mono ?_); rintro e w3 ⟨rfl, hT, hI⟩; have HT3 := Lib.hid (HTA.out.then_ hT); have l3 := hT.size; rw [World.size_alloc, World.size_alloc] at l3; have F3 := Lib.hid (four_turn F0.out hT lt); have E3 := Lib.hid (four_turn E0.out hT (by omega)); have HI3 := Lib.hid hI; have NC0 := name_yes hc hI k1 hr2; rw [HM.out] at NC0; have NC := Lib.hid NC0; clear NC0; clear hT hI i0 i1 i2 i3 j0 j1 j2 j3))
    | (go_at_call 128; ((with_reducible refine NC.out.mono ?_); rintro e w4 ⟨rfl, hT, hI⟩; have HT4 := Lib.hid (HT3.out.then_ hT); have l4 := hT.size; have E4 := four_turn E3.out hT (by omega); have F4 := Lib.hid (four_away (four_turn F3.out hT lt) (b := w.heap.size + 1) (by omega) (.int .i64 24) (.int .i64 0) (.string M) (.slice none 0 0)); have D4 := Lib.hid (E4.put (.int .i64 24) (.int .i64 0) (.string M) (.slice none 0 0)); have i0 := E4.c0; have i1 := E4.c1; have i2 := E4.c2; have i3 := E4.c3; have j0 := E4.f0; have j1 := E4.f1; have j2 := E4.f2; have j3 := E4.f3; have I4 := Lib.hid (in_put hI (g := w.heap.size + 1) (by omega) (.int .i64 24) (.int .i64 0) (.string M) (.slice none 0 0)); have HT4b := Lib.hid (tn_put HT4.out (g := w.heap.size + 1) (by omega) (.int .i64 24) (.int .i64 0) (.string M) (.slice none 0 0)); have NC2 := Lib.hid (need_yes' hc I4.out ⟨#[41]⟩ q2 hr3); clear hT hI E4))
    | (go_at_call 49; ((with_reducible refine NC2.out.mono ?_); rintro e w7 ⟨rfl, hT, hI⟩; have HT7 := Lib.hid (HT4b.out.then_ hT); have HI7 := Lib.hid hI; have FZ := Lib.hid (four_turn F4.out hT lt); have D7 := four_turn D4.out hT (by omega); have g0 := D7.c0; have g1 := D7.c1; have g2 := D7.c2; have g3 := D7.c3; have d0 := FZ.out.c0; have d1 := FZ.out.c1; have d2 := FZ.out.c2; have d3 := FZ.out.c3; have y0 := FZ.out.f0; have y1 := FZ.out.f1; have y2 := FZ.out.f2; have y3 := FZ.out.f3; clear hT hI D7 i0 i1 i2 i3 j0 j1 j2 j3)))
  have hP := FZ.out.put (.int .i64 24) (.int .i64 0) (.string M) (.slice none 0 0)
  have r0 := hP.c0
  have r1' := hP.c1
  have r2' := hP.c2
  have r3 := hP.c3
  clear hP
  go_wp2
  refine bodyPost_ret (v := .agg #[.int .i64 24, .int .i64 0, .string M, .slice none 0 0]) (by simp [results, Tryz.results127, go_sem, r0, r1', r2', r3]) rfl ?_
  exact done_box lt (HT7.out) (HI7.out) (fr_leaf (by omega))
set_option maxRecDepth 100000 in
set_option maxHeartbeats 16000000 in
theorem nm_sum1 {L : List Tk} {sl : Value} {w0 : World} (hc : Cx L sl w0) {s : List UInt8} (hs : s.length ≤ 16384) {r : List Tk} {w : World} (h : In L sl w0 r w) (g1 : s = sumW) (q1 : tx r = [40]) (k1 : kd r.tail ≠ 1) :
    Calls Tryz.prog 127 #[pp w0, .string (bs s)] w (tBad L w0 (fErr r.tail) r.tail.length w) := by
  have lt := h.lt
  obtain ⟨S, hS⟩ : ∃ S, bs s = S := ⟨_, rfl⟩
  have hSs : S.size ≤ 16384 := by rw [← hS]; exact hs
  have HS := Lib.hid hS
  have hd : S.data.toList = s := by rw [← hS]
  have hA0 := h.alloc (.cells #[.int .i64 0, .int .i64 0, .string ⟨#[]⟩, .slice none 0 0] 24)
  have hA := hA0.alloc (.cells #[.int .i64 2, .int .i64 0, .string S, .slice none 0 0] 24)
  have HTA : Hid (Tn w0 w ((w.alloc (.cells #[.int .i64 0, .int .i64 0, .string ⟨#[]⟩, .slice none 0 0] 24)).alloc (.cells #[.int .i64 2, .int .i64 0, .string S, .slice none 0 0] 24))) := Lib.hid ((tn_alloc _ _ _).then_ (tn_alloc _ _ _))
  have F0 := Lib.hid ((Four.new w (.int .i64 0) (.int .i64 0) (.string ⟨#[]⟩) (.slice none 0 0) 24).alloc (.cells #[.int .i64 2, .int .i64 0, .string S, .slice none 0 0] 24))
  have E0' := Four.new (w.alloc (.cells #[.int .i64 0, .int .i64 0, .string ⟨#[]⟩, .slice none 0 0] 24)) (.int .i64 2) (.int .i64 0) (.string S) (.slice none 0 0) 24
  rw [World.size_alloc] at E0'
  have E0 := Lib.hid E0'
  have i0 := E0'.c0
  have i1 := E0'.c1
  have i2 := E0'.c2
  have i3 := E0'.c3
  have j0 := E0'.f0
  have j1 := E0'.f1
  have j2 := E0'.f2
  have j3 := E0'.f3
  clear E0'
  have hr := tx_pos q1 (by decide)
  have SK := Lib.hid (skip_yes hc hA ⟨#[40]⟩ q1 hr)
  have t1 : (S.toList == [115, 117, 109]) = true := by rw [Lib.toList_data, hd, g1]; rfl
  rw [hS]
  clear h hA0 hA hs hS hd
  clear g1
  go_enter Tryz.func127, Tryz.ntmps127
  go_wp2_with (first
    | (go_at_call 48; ((with_reducible refine SK.out.mono ?_); rintro e w3 ⟨rfl, hT, hI⟩; have HT3 := Lib.hid (HTA.out.then_ hT); have l3 := hT.size; rw [World.size_alloc, World.size_alloc] at l3; have F3 := Lib.hid (four_turn F0.out hT lt); have E3 := Lib.hid (four_turn E0.out hT (by omega)); have HI3 := Lib.hid hI; have NC := Lib.hid (name_no hc hI k1); clear hT hI i0 i1 i2 i3 j0 j1 j2 j3))
    | (go_at_call 128; ((with_reducible refine NC.out.mono ?_); rintro e w7 ⟨rfl, hT⟩; have HT7 := Lib.hid (HT3.out.then_ hT); clear hT)))
  exact ⟨rfl, rfl, HT7.out⟩
set_option maxRecDepth 100000 in
set_option maxHeartbeats 16000000 in
theorem nm_sum2 {L : List Tk} {sl : Value} {w0 : World} (hc : Cx L sl w0) {s : List UInt8} (hs : s.length ≤ 16384) {r : List Tk} {w : World} (h : In L sl w0 r w) (g1 : s = sumW) (q1 : tx r = [40]) (k1 : kd r.tail = 1) (q2 : tx r.tail.tail ≠ [41]) :
    Calls Tryz.prog 127 #[pp w0, .string (bs s)] w (tBad L w0 (fErr r.tail.tail) r.tail.tail.length w) := by
  have lt := h.lt
  obtain ⟨S, hS⟩ : ∃ S, bs s = S := ⟨_, rfl⟩
  have hSs : S.size ≤ 16384 := by rw [← hS]; exact hs
  have HS := Lib.hid hS
  have hd : S.data.toList = s := by rw [← hS]
  have hA0 := h.alloc (.cells #[.int .i64 0, .int .i64 0, .string ⟨#[]⟩, .slice none 0 0] 24)
  have hA := hA0.alloc (.cells #[.int .i64 2, .int .i64 0, .string S, .slice none 0 0] 24)
  have HTA : Hid (Tn w0 w ((w.alloc (.cells #[.int .i64 0, .int .i64 0, .string ⟨#[]⟩, .slice none 0 0] 24)).alloc (.cells #[.int .i64 2, .int .i64 0, .string S, .slice none 0 0] 24))) := Lib.hid ((tn_alloc _ _ _).then_ (tn_alloc _ _ _))
  have F0 := Lib.hid ((Four.new w (.int .i64 0) (.int .i64 0) (.string ⟨#[]⟩) (.slice none 0 0) 24).alloc (.cells #[.int .i64 2, .int .i64 0, .string S, .slice none 0 0] 24))
  have E0' := Four.new (w.alloc (.cells #[.int .i64 0, .int .i64 0, .string ⟨#[]⟩, .slice none 0 0] 24)) (.int .i64 2) (.int .i64 0) (.string S) (.slice none 0 0) 24
  rw [World.size_alloc] at E0'
  have E0 := Lib.hid E0'
  have i0 := E0'.c0
  have i1 := E0'.c1
  have i2 := E0'.c2
  have i3 := E0'.c3
  have j0 := E0'.f0
  have j1 := E0'.f1
  have j2 := E0'.f2
  have j3 := E0'.f3
  clear E0'
  have hr := tx_pos q1 (by decide)
  have hr2 := kd_pos k1 (by decide)
  have SK := Lib.hid (skip_yes hc hA ⟨#[40]⟩ q1 hr)
  have t1 : (S.toList == [115, 117, 109]) = true := by rw [Lib.toList_data, hd, g1]; rfl
  obtain ⟨M, hM⟩ : ∃ M, bs (tx r.tail) = M := ⟨_, rfl⟩
  have HM := Lib.hid hM
  rw [hS]
  clear h hA0 hA hs hS hd
  clear g1 hM
  go_enter Tryz.func127, Tryz.ntmps127
  go_wp2_with (first
    | (go_at_call 48; ((with_reducible refine SK.out.mono ?_); rintro e w3 ⟨rfl, hT, hI⟩; have HT3 := Lib.hid (HTA.out.then_ hT); have l3 := hT.size; rw [World.size_alloc, World.size_alloc] at l3; have F3 := Lib.hid (four_turn F0.out hT lt); have E3 := Lib.hid (four_turn E0.out hT (by omega)); have HI3 := Lib.hid hI; have NC0 := name_yes hc hI k1 hr2; rw [HM.out] at NC0; have NC := Lib.hid NC0; clear NC0; clear hT hI i0 i1 i2 i3 j0 j1 j2 j3))
    | (go_at_call 128; ((with_reducible refine NC.out.mono ?_); rintro e w4 ⟨rfl, hT, hI⟩; have HT4 := Lib.hid (HT3.out.then_ hT); have l4 := hT.size; have E4 := four_turn E3.out hT (by omega); have F4 := Lib.hid (four_away (four_turn F3.out hT lt) (b := w.heap.size + 1) (by omega) (.int .i64 24) (.int .i64 0) (.string M) (.slice none 0 0)); have D4 := Lib.hid (E4.put (.int .i64 24) (.int .i64 0) (.string M) (.slice none 0 0)); have i0 := E4.c0; have i1 := E4.c1; have i2 := E4.c2; have i3 := E4.c3; have j0 := E4.f0; have j1 := E4.f1; have j2 := E4.f2; have j3 := E4.f3; have I4 := Lib.hid (in_put hI (g := w.heap.size + 1) (by omega) (.int .i64 24) (.int .i64 0) (.string M) (.slice none 0 0)); have HT4b := Lib.hid (tn_put HT4.out (g := w.heap.size + 1) (by omega) (.int .i64 24) (.int .i64 0) (.string M) (.slice none 0 0)); have NC2 := Lib.hid (need_no' hc I4.out ⟨#[41]⟩ q2); clear hT hI E4))
    | (go_at_call 49; ((with_reducible refine NC2.out.mono ?_); rintro e w7 ⟨rfl, hT⟩; have HT7 := Lib.hid (HT4b.out.then_ hT); clear hT)))
  exact ⟨rfl, rfl, HT7.out⟩
set_option maxRecDepth 100000 in
set_option maxHeartbeats 16000000 in
theorem nm_ones {L : List Tk} {sl : Value} {w0 : World} (hc : Cx L sl w0) {s : List UInt8} (hs : s.length ≤ 16384) {r : List Tk} {w : World} (h : In L sl w0 r w) (f : Nat) (IC : Ct L sl w0 f .ch 24 #[pp w0]) (g2 : s = onesW) (q1 : tx r = [40]) {x : Ex} {r1 : List Tk} (h1 : run f .ch r.tail = .ok x r1) (q2 : tx r1 = [41]) :
    Calls Tryz.prog 127 #[pp w0, .string (bs s)] w (tOk L sl w0 r1.tail (nod 25 [x]) w) := by
  have lt := h.lt
  obtain ⟨S, hS⟩ : ∃ S, bs s = S := ⟨_, rfl⟩
  have hSs : S.size ≤ 16384 := by rw [← hS]; exact hs
  have HS := Lib.hid hS
  have hd : S.data.toList = s := by rw [← hS]
  have hA0 := h.alloc (.cells #[.int .i64 0, .int .i64 0, .string ⟨#[]⟩, .slice none 0 0] 24)
  have hA := hA0.alloc (.cells #[.int .i64 2, .int .i64 0, .string S, .slice none 0 0] 24)
  have HTA : Hid (Tn w0 w ((w.alloc (.cells #[.int .i64 0, .int .i64 0, .string ⟨#[]⟩, .slice none 0 0] 24)).alloc (.cells #[.int .i64 2, .int .i64 0, .string S, .slice none 0 0] 24))) := Lib.hid ((tn_alloc _ _ _).then_ (tn_alloc _ _ _))
  have F0 := Lib.hid ((Four.new w (.int .i64 0) (.int .i64 0) (.string ⟨#[]⟩) (.slice none 0 0) 24).alloc (.cells #[.int .i64 2, .int .i64 0, .string S, .slice none 0 0] 24))
  have E0' := Four.new (w.alloc (.cells #[.int .i64 0, .int .i64 0, .string ⟨#[]⟩, .slice none 0 0] 24)) (.int .i64 2) (.int .i64 0) (.string S) (.slice none 0 0) 24
  rw [World.size_alloc] at E0'
  have E0 := Lib.hid E0'
  have i0 := E0'.c0
  have i1 := E0'.c1
  have i2 := E0'.c2
  have i3 := E0'.c3
  have j0 := E0'.f0
  have j1 := E0'.f1
  have j2 := E0'.f2
  have j3 := E0'.f3
  clear E0'
  have hr := tx_pos q1 (by decide)
  have hr3 := tx_pos q2 (by decide)
  have SK := Lib.hid (skip_yes hc hA ⟨#[40]⟩ q1 hr)
  have g1 : s ≠ sumW := by rw [g2]; decide
  have t1 : (S.toList == [115, 117, 109]) = false := by rw [Lib.toList_data, hd]; simpa [sumW] using g1
  have t2 : (S.toList == [111, 110, 101, 115]) = true := by rw [Lib.toList_data, hd, g2]; rfl
  rw [hS]
  clear h hA0 hA hs hS hd
  clear g1 g2
  go_enter Tryz.func127, Tryz.ntmps127
  go_wp2_with (first
    | (go_at_call 48; ((with_reducible refine SK.out.mono ?_); rintro e w3 ⟨rfl, hT, hI⟩; have HT3 := Lib.hid (HTA.out.then_ hT); have l3 := hT.size; rw [World.size_alloc, World.size_alloc] at l3; have F3 := Lib.hid (four_turn F0.out hT lt); have E3 := Lib.hid (four_turn E0.out hT (by omega)); have HI3 := Lib.hid hI; have CC := Lib.hid (IC.ok hI h1); clear hT hI i0 i1 i2 i3 j0 j1 j2 j3))
    | (go_at_call 24; ((with_reducible refine CC.out.mono ?_); rintro e w5 ⟨o5, n5, s5, p5, k5, c5, rfl, hT, hI, hF⟩; have HT5 := Lib.hid (HT3.out.then_ hT); have l5 := hT.size; have HI5 := Lib.hid hI; have F5 := Lib.hid (four_turn F3.out hT lt); have E5 := Lib.hid (four_turn E3.out hT (by omega)); have X5 := Lib.hid hF; have l6 := HI5.out.lt; clear hT hI hF))
    | (go_at_call 50; ((with_reducible refine (node_any _ _ _ _ _).mono ?_); rintro e w6 ⟨rfl, hb⟩; have HB6 := Lib.hid (((Below.refl w5.heap.size w5).alloc (Nat.le_refl _) _).then_ hb); have E4 := E5.out.stay HB6.out; have F4 := Lib.hid (four_away (F5.out.stay HB6.out) (b := w.heap.size + 1) (by omega) (.int .i64 25) (.int .i64 0) (.string ⟨#[]⟩) (.slice (some ⟨w5.heap.size, 0, none⟩) 1 1)); have D4 := Lib.hid (E4.put (.int .i64 25) (.int .i64 0) (.string ⟨#[]⟩) (.slice (some ⟨w5.heap.size, 0, none⟩) 1 1)); have i0 := E4.c0; have i1 := E4.c1; have i2 := E4.c2; have i3 := E4.c3; have j0 := E4.f0; have j1 := E4.f1; have j2 := E4.f2; have j3 := E4.f3; have I4 := Lib.hid (in_put (HI5.out.later HB6.out) (g := w.heap.size + 1) (by omega) (.int .i64 25) (.int .i64 0) (.string ⟨#[]⟩) (.slice (some ⟨w5.heap.size, 0, none⟩) 1 1)); have HT4b := Lib.hid (tn_put (HT5.out.then_ (tn_below HB6.out)) (g := w.heap.size + 1) (by omega) (.int .i64 25) (.int .i64 0) (.string ⟨#[]⟩) (.slice (some ⟨w5.heap.size, 0, none⟩) 1 1)); have X4 := Lib.hid (fr_away (g := w.heap.size + 1) (node1 (o := 25) X5.out l5 hb) (by omega) (.int .i64 25) (.int .i64 0) (.string ⟨#[]⟩) (.slice (some ⟨w5.heap.size, 0, none⟩) 1 1)); have NC2 := Lib.hid (need_yes' hc I4.out ⟨#[41]⟩ q2 hr3); clear hb E4))
    | (go_at_call 49; ((with_reducible refine NC2.out.mono ?_); rintro e w7 ⟨rfl, hT, hI⟩; have HT7 := Lib.hid (HT4b.out.then_ hT); have HI7 := Lib.hid hI; have FZ := Lib.hid (four_turn F4.out hT lt); have D7 := four_turn D4.out hT (by omega); have g0 := D7.c0; have g1 := D7.c1; have g2 := D7.c2; have g3 := D7.c3; have d0 := FZ.out.c0; have d1 := FZ.out.c1; have d2 := FZ.out.c2; have d3 := FZ.out.c3; have y0 := FZ.out.f0; have y1 := FZ.out.f1; have y2 := FZ.out.f2; have y3 := FZ.out.f3; have X7 := Lib.hid (Fr.low (lo' := w.heap.size + 1) (fr_turn X4.out hT (by omega)) (by omega)); clear hT hI D7 i0 i1 i2 i3 j0 j1 j2 j3)))
  have hP := FZ.out.put (.int .i64 25) (.int .i64 0) (.string ⟨#[]⟩) (.slice (some ⟨w5.heap.size, 0, none⟩) 1 1)
  have r0 := hP.c0
  have r1' := hP.c1
  have r2' := hP.c2
  have r3 := hP.c3
  clear hP
  go_wp2
  refine bodyPost_ret (v := .agg #[.int .i64 25, .int .i64 0, .string ⟨#[]⟩, .slice (some ⟨w5.heap.size, 0, none⟩) 1 1]) (by simp [results, Tryz.results127, go_sem, r0, r1', r2', r3]) rfl ?_
  exact done_box lt (HT7.out) (HI7.out) (X7.out)
set_option maxRecDepth 100000 in
set_option maxHeartbeats 16000000 in
theorem nm_ones1 {L : List Tk} {sl : Value} {w0 : World} (hc : Cx L sl w0) {s : List UInt8} (hs : s.length ≤ 16384) {r : List Tk} {w : World} (h : In L sl w0 r w) (f : Nat) (IC : Ct L sl w0 f .ch 24 #[pp w0]) (g2 : s = onesW) (q1 : tx r = [40]) {er : Int} {k : Nat} (h1 : run f .ch r.tail = .bad er k) :
    Calls Tryz.prog 127 #[pp w0, .string (bs s)] w (tBad L w0 er k w) := by
  have lt := h.lt
  obtain ⟨S, hS⟩ : ∃ S, bs s = S := ⟨_, rfl⟩
  have hSs : S.size ≤ 16384 := by rw [← hS]; exact hs
  have HS := Lib.hid hS
  have hd : S.data.toList = s := by rw [← hS]
  have hA0 := h.alloc (.cells #[.int .i64 0, .int .i64 0, .string ⟨#[]⟩, .slice none 0 0] 24)
  have hA := hA0.alloc (.cells #[.int .i64 2, .int .i64 0, .string S, .slice none 0 0] 24)
  have HTA : Hid (Tn w0 w ((w.alloc (.cells #[.int .i64 0, .int .i64 0, .string ⟨#[]⟩, .slice none 0 0] 24)).alloc (.cells #[.int .i64 2, .int .i64 0, .string S, .slice none 0 0] 24))) := Lib.hid ((tn_alloc _ _ _).then_ (tn_alloc _ _ _))
  have F0 := Lib.hid ((Four.new w (.int .i64 0) (.int .i64 0) (.string ⟨#[]⟩) (.slice none 0 0) 24).alloc (.cells #[.int .i64 2, .int .i64 0, .string S, .slice none 0 0] 24))
  have E0' := Four.new (w.alloc (.cells #[.int .i64 0, .int .i64 0, .string ⟨#[]⟩, .slice none 0 0] 24)) (.int .i64 2) (.int .i64 0) (.string S) (.slice none 0 0) 24
  rw [World.size_alloc] at E0'
  have E0 := Lib.hid E0'
  have i0 := E0'.c0
  have i1 := E0'.c1
  have i2 := E0'.c2
  have i3 := E0'.c3
  have j0 := E0'.f0
  have j1 := E0'.f1
  have j2 := E0'.f2
  have j3 := E0'.f3
  clear E0'
  have hr := tx_pos q1 (by decide)
  have SK := Lib.hid (skip_yes hc hA ⟨#[40]⟩ q1 hr)
  have g1 : s ≠ sumW := by rw [g2]; decide
  have t1 : (S.toList == [115, 117, 109]) = false := by rw [Lib.toList_data, hd]; simpa [sumW] using g1
  have t2 : (S.toList == [111, 110, 101, 115]) = true := by rw [Lib.toList_data, hd, g2]; rfl
  rw [hS]
  clear h hA0 hA hs hS hd
  clear g1 g2
  go_enter Tryz.func127, Tryz.ntmps127
  go_wp2_with (first
    | (go_at_call 48; ((with_reducible refine SK.out.mono ?_); rintro e w3 ⟨rfl, hT, hI⟩; have HT3 := Lib.hid (HTA.out.then_ hT); have l3 := hT.size; rw [World.size_alloc, World.size_alloc] at l3; have F3 := Lib.hid (four_turn F0.out hT lt); have E3 := Lib.hid (four_turn E0.out hT (by omega)); have HI3 := Lib.hid hI; have CC := Lib.hid (IC.bad hI h1); clear hT hI i0 i1 i2 i3 j0 j1 j2 j3))
    | (go_at_call 24; ((with_reducible refine CC.out.mono ?_); rintro e w7 ⟨rfl, hT⟩; have HT7 := Lib.hid (HT3.out.then_ hT); clear hT)))
  exact ⟨rfl, rfl, HT7.out⟩
set_option maxRecDepth 100000 in
set_option maxHeartbeats 16000000 in
theorem nm_ones2 {L : List Tk} {sl : Value} {w0 : World} (hc : Cx L sl w0) {s : List UInt8} (hs : s.length ≤ 16384) {r : List Tk} {w : World} (h : In L sl w0 r w) (f : Nat) (IC : Ct L sl w0 f .ch 24 #[pp w0]) (g2 : s = onesW) (q1 : tx r = [40]) {x : Ex} {r1 : List Tk} (h1 : run f .ch r.tail = .ok x r1) (q2 : tx r1 ≠ [41]) :
    Calls Tryz.prog 127 #[pp w0, .string (bs s)] w (tBad L w0 (fErr r1) r1.length w) := by
  have lt := h.lt
  obtain ⟨S, hS⟩ : ∃ S, bs s = S := ⟨_, rfl⟩
  have hSs : S.size ≤ 16384 := by rw [← hS]; exact hs
  have HS := Lib.hid hS
  have hd : S.data.toList = s := by rw [← hS]
  have hA0 := h.alloc (.cells #[.int .i64 0, .int .i64 0, .string ⟨#[]⟩, .slice none 0 0] 24)
  have hA := hA0.alloc (.cells #[.int .i64 2, .int .i64 0, .string S, .slice none 0 0] 24)
  have HTA : Hid (Tn w0 w ((w.alloc (.cells #[.int .i64 0, .int .i64 0, .string ⟨#[]⟩, .slice none 0 0] 24)).alloc (.cells #[.int .i64 2, .int .i64 0, .string S, .slice none 0 0] 24))) := Lib.hid ((tn_alloc _ _ _).then_ (tn_alloc _ _ _))
  have F0 := Lib.hid ((Four.new w (.int .i64 0) (.int .i64 0) (.string ⟨#[]⟩) (.slice none 0 0) 24).alloc (.cells #[.int .i64 2, .int .i64 0, .string S, .slice none 0 0] 24))
  have E0' := Four.new (w.alloc (.cells #[.int .i64 0, .int .i64 0, .string ⟨#[]⟩, .slice none 0 0] 24)) (.int .i64 2) (.int .i64 0) (.string S) (.slice none 0 0) 24
  rw [World.size_alloc] at E0'
  have E0 := Lib.hid E0'
  have i0 := E0'.c0
  have i1 := E0'.c1
  have i2 := E0'.c2
  have i3 := E0'.c3
  have j0 := E0'.f0
  have j1 := E0'.f1
  have j2 := E0'.f2
  have j3 := E0'.f3
  clear E0'
  have hr := tx_pos q1 (by decide)
  have SK := Lib.hid (skip_yes hc hA ⟨#[40]⟩ q1 hr)
  have g1 : s ≠ sumW := by rw [g2]; decide
  have t1 : (S.toList == [115, 117, 109]) = false := by rw [Lib.toList_data, hd]; simpa [sumW] using g1
  have t2 : (S.toList == [111, 110, 101, 115]) = true := by rw [Lib.toList_data, hd, g2]; rfl
  rw [hS]
  clear h hA0 hA hs hS hd
  clear g1 g2
  go_enter Tryz.func127, Tryz.ntmps127
  go_wp2_with (first
    | (go_at_call 48; ((with_reducible refine SK.out.mono ?_); rintro e w3 ⟨rfl, hT, hI⟩; have HT3 := Lib.hid (HTA.out.then_ hT); have l3 := hT.size; rw [World.size_alloc, World.size_alloc] at l3; have F3 := Lib.hid (four_turn F0.out hT lt); have E3 := Lib.hid (four_turn E0.out hT (by omega)); have HI3 := Lib.hid hI; have CC := Lib.hid (IC.ok hI h1); clear hT hI i0 i1 i2 i3 j0 j1 j2 j3))
    | (go_at_call 24; ((with_reducible refine CC.out.mono ?_); rintro e w5 ⟨o5, n5, s5, p5, k5, c5, rfl, hT, hI, hF⟩; have HT5 := Lib.hid (HT3.out.then_ hT); have l5 := hT.size; have HI5 := Lib.hid hI; have F5 := Lib.hid (four_turn F3.out hT lt); have E5 := Lib.hid (four_turn E3.out hT (by omega)); have X5 := Lib.hid hF; have l6 := HI5.out.lt; clear hT hI hF))
    | (go_at_call 50; ((with_reducible refine (node_any _ _ _ _ _).mono ?_); rintro e w6 ⟨rfl, hb⟩; have HB6 := Lib.hid (((Below.refl w5.heap.size w5).alloc (Nat.le_refl _) _).then_ hb); have E4 := E5.out.stay HB6.out; have F4 := Lib.hid (four_away (F5.out.stay HB6.out) (b := w.heap.size + 1) (by omega) (.int .i64 25) (.int .i64 0) (.string ⟨#[]⟩) (.slice (some ⟨w5.heap.size, 0, none⟩) 1 1)); have D4 := Lib.hid (E4.put (.int .i64 25) (.int .i64 0) (.string ⟨#[]⟩) (.slice (some ⟨w5.heap.size, 0, none⟩) 1 1)); have i0 := E4.c0; have i1 := E4.c1; have i2 := E4.c2; have i3 := E4.c3; have j0 := E4.f0; have j1 := E4.f1; have j2 := E4.f2; have j3 := E4.f3; have I4 := Lib.hid (in_put (HI5.out.later HB6.out) (g := w.heap.size + 1) (by omega) (.int .i64 25) (.int .i64 0) (.string ⟨#[]⟩) (.slice (some ⟨w5.heap.size, 0, none⟩) 1 1)); have HT4b := Lib.hid (tn_put (HT5.out.then_ (tn_below HB6.out)) (g := w.heap.size + 1) (by omega) (.int .i64 25) (.int .i64 0) (.string ⟨#[]⟩) (.slice (some ⟨w5.heap.size, 0, none⟩) 1 1)); have X4 := Lib.hid (fr_away (g := w.heap.size + 1) (node1 (o := 25) X5.out l5 hb) (by omega) (.int .i64 25) (.int .i64 0) (.string ⟨#[]⟩) (.slice (some ⟨w5.heap.size, 0, none⟩) 1 1)); have NC2 := Lib.hid (need_no' hc I4.out ⟨#[41]⟩ q2); clear hb E4))
    | (go_at_call 49; ((with_reducible refine NC2.out.mono ?_); rintro e w7 ⟨rfl, hT⟩; have HT7 := Lib.hid (HT4b.out.then_ hT); clear hT)))
  exact ⟨rfl, rfl, HT7.out⟩
set_option maxRecDepth 100000 in
set_option maxHeartbeats 16000000 in
theorem nm_elm {L : List Tk} {sl : Value} {w0 : World} (hc : Cx L sl w0) {s : List UInt8} (hs : s.length ≤ 16384) {r : List Tk} {w : World} (h : In L sl w0 r w) (f : Nat) (IC : Ct L sl w0 f .ch 24 #[pp w0]) (g : ¬ (s = sumW ∧ tx r = [40])) (g' : ¬ (s = onesW ∧ tx r = [40])) (q1 : tx r = [91]) {x : Ex} {r1 : List Tk} (h1 : run f .ch r.tail = .ok x r1) (q2 : tx r1 = [93]) :
    Calls Tryz.prog 127 #[pp w0, .string (bs s)] w (tOk L sl w0 r1.tail (.mk 3 0 (mb s) [x]) w) := by
  have lt := h.lt
  obtain ⟨S, hS⟩ : ∃ S, bs s = S := ⟨_, rfl⟩
  have hSs : S.size ≤ 16384 := by rw [← hS]; exact hs
  have HS := Lib.hid hS
  have hd : S.data.toList = s := by rw [← hS]
  have hA0 := h.alloc (.cells #[.int .i64 0, .int .i64 0, .string ⟨#[]⟩, .slice none 0 0] 24)
  have hA := hA0.alloc (.cells #[.int .i64 2, .int .i64 0, .string S, .slice none 0 0] 24)
  have HTA : Hid (Tn w0 w ((w.alloc (.cells #[.int .i64 0, .int .i64 0, .string ⟨#[]⟩, .slice none 0 0] 24)).alloc (.cells #[.int .i64 2, .int .i64 0, .string S, .slice none 0 0] 24))) := Lib.hid ((tn_alloc _ _ _).then_ (tn_alloc _ _ _))
  have F0 := Lib.hid ((Four.new w (.int .i64 0) (.int .i64 0) (.string ⟨#[]⟩) (.slice none 0 0) 24).alloc (.cells #[.int .i64 2, .int .i64 0, .string S, .slice none 0 0] 24))
  have E0' := Four.new (w.alloc (.cells #[.int .i64 0, .int .i64 0, .string ⟨#[]⟩, .slice none 0 0] 24)) (.int .i64 2) (.int .i64 0) (.string S) (.slice none 0 0) 24
  rw [World.size_alloc] at E0'
  have E0 := Lib.hid E0'
  have i0 := E0'.c0
  have i1 := E0'.c1
  have i2 := E0'.c2
  have i3 := E0'.c3
  have j0 := E0'.f0
  have j1 := E0'.f1
  have j2 := E0'.f2
  have j3 := E0'.f3
  clear E0'
  have hr := tx_pos q1 (by decide)
  have hr3 := tx_pos q2 (by decide)
  have SK := Lib.hid (skip_yes hc hA ⟨#[91]⟩ q1 hr)
  have S40 : Hid (tx r = [40] ∨ Calls Tryz.prog 48 #[.pointer (some ⟨w0.heap.size, 0, none⟩), .string ⟨#[40]⟩] ((w.alloc (.cells #[.int .i64 0, .int .i64 0, .string ⟨#[]⟩, .slice none 0 0] 24)).alloc (.cells #[.int .i64 2, .int .i64 0, .string S, .slice none 0 0] 24)) (fun e w' => e = .returned (.bool false) ∧ ((w.alloc (.cells #[.int .i64 0, .int .i64 0, .string ⟨#[]⟩, .slice none 0 0] 24)).alloc (.cells #[.int .i64 2, .int .i64 0, .string S, .slice none 0 0] 24)) = w')) := Lib.hid (by
    by_cases q : tx r = [40]
    · exact .inl q
    · exact .inr (skip_no hA ⟨#[40]⟩ q))
  have GG : Hid ((((S.toList == [115, 117, 109]) = false ∧ (S.toList == [111, 110, 101, 115]) = false)) ∨ ((S.toList == [115, 117, 109]) = true ∧ (S.toList == [111, 110, 101, 115]) = false ∧ tx r ≠ [40]) ∨ ((S.toList == [115, 117, 109]) = false ∧ (S.toList == [111, 110, 101, 115]) = true ∧ tx r ≠ [40])) := Lib.hid (by
    by_cases a : s = sumW
    · exact .inr (.inl ⟨by rw [Lib.toList_data, hd, a]; rfl, by rw [Lib.toList_data, hd, a]; rfl, fun q => g ⟨a, q⟩⟩)
    · have a' : (S.toList == [115, 117, 109]) = false := by rw [Lib.toList_data, hd]; simpa [sumW] using a
      by_cases b : s = onesW
      · exact .inr (.inr ⟨a', by rw [Lib.toList_data, hd, b]; rfl, fun q => g' ⟨b, q⟩⟩)
      · exact .inl ⟨a', by rw [Lib.toList_data, hd]; simpa [onesW] using b⟩)
  show Calls _ _ _ _ (tOk L sl w0 r1.tail (.mk 3 0 (bs s) [x]) w)
  rw [hS]
  clear h hA0 hA hs hS hd
  clear g g'
  rcases GG.out with ⟨t1, t2⟩ | ⟨t1, t2, q40⟩ | ⟨t1, t2, q40⟩
  all_goals
    (try have SN := Lib.hid (S40.out.resolve_left q40))
    clear GG S40
    (try clear q40)
    go_enter Tryz.func127, Tryz.ntmps127
    go_wp2_with (first
      | (go_at_call 48; ((with_reducible refine SN.out.mono ?_); rintro e w2 ⟨rfl, rfl⟩; skip))
      | (go_at_call 48; ((with_reducible refine SK.out.mono ?_); rintro e w3 ⟨rfl, hT, hI⟩; have HT3 := Lib.hid (HTA.out.then_ hT); have l3 := hT.size; rw [World.size_alloc, World.size_alloc] at l3; have F3 := Lib.hid (four_turn F0.out hT lt); have E3 := Lib.hid (four_turn E0.out hT (by omega)); have HI3 := Lib.hid hI; have CC := Lib.hid (IC.ok hI h1); clear hT hI i0 i1 i2 i3 j0 j1 j2 j3))
      | (go_at_call 24; ((with_reducible refine CC.out.mono ?_); rintro e w5 ⟨o5, n5, s5, p5, k5, c5, rfl, hT, hI, hF⟩; have HT5 := Lib.hid (HT3.out.then_ hT); have l5 := hT.size; have l6 := hI.lt; have E4 := (four_turn E3.out hT (by omega)).alloc (.cells #[.int .i64 o5, .int .i64 n5, .string s5, .slice p5 k5 c5] 24); have F4 := Lib.hid (four_away ((four_turn F3.out hT lt).alloc (.cells #[.int .i64 o5, .int .i64 n5, .string s5, .slice p5 k5 c5] 24)) (b := w.heap.size + 1) (by omega) (.int .i64 3) (.int .i64 0) (.string S) (.slice (some ⟨w5.heap.size, 0, none⟩) 1 1)); have D4 := Lib.hid (E4.put (.int .i64 3) (.int .i64 0) (.string S) (.slice (some ⟨w5.heap.size, 0, none⟩) 1 1)); have i0 := E4.c0; have i1 := E4.c1; have i2 := E4.c2; have i3 := E4.c3; have j0 := E4.f0; have j1 := E4.f1; have j2 := E4.f2; have j3 := E4.f3; have I4 := Lib.hid (in_put (hI.alloc (.cells #[.int .i64 o5, .int .i64 n5, .string s5, .slice p5 k5 c5] 24)) (g := w.heap.size + 1) (by omega) (.int .i64 3) (.int .i64 0) (.string S) (.slice (some ⟨w5.heap.size, 0, none⟩) 1 1)); have HT4b := Lib.hid (tn_put (HT5.out.then_ (tn_alloc _ _ (.cells #[.int .i64 o5, .int .i64 n5, .string s5, .slice p5 k5 c5] 24))) (g := w.heap.size + 1) (by omega) (.int .i64 3) (.int .i64 0) (.string S) (.slice (some ⟨w5.heap.size, 0, none⟩) 1 1)); have X4 := Lib.hid (fr_away (g := w.heap.size + 1) (nodeS (o := 3) (n := 0) (s := S) hF l5 (by omega)) (by omega) (.int .i64 3) (.int .i64 0) (.string S) (.slice (some ⟨w5.heap.size, 0, none⟩) 1 1)); have NC2 := Lib.hid (need_yes' hc I4.out ⟨#[93]⟩ q2 hr3); clear hT hI hF E4))
      | (go_at_call 49; ((with_reducible refine NC2.out.mono ?_); rintro e w7 ⟨rfl, hT, hI⟩; have HT7 := Lib.hid (HT4b.out.then_ hT); have HI7 := Lib.hid hI; have FZ := Lib.hid (four_turn F4.out hT lt); have D7 := four_turn D4.out hT (by omega); have g0 := D7.c0; have g1 := D7.c1; have g2 := D7.c2; have g3 := D7.c3; have d0 := FZ.out.c0; have d1 := FZ.out.c1; have d2 := FZ.out.c2; have d3 := FZ.out.c3; have y0 := FZ.out.f0; have y1 := FZ.out.f1; have y2 := FZ.out.f2; have y3 := FZ.out.f3; have X7 := Lib.hid (Fr.low (lo' := w.heap.size + 1) (fr_turn X4.out hT (by omega)) (by omega)); clear hT hI D7 i0 i1 i2 i3 j0 j1 j2 j3)))
    have hP := FZ.out.put (.int .i64 3) (.int .i64 0) (.string S) (.slice (some ⟨w5.heap.size, 0, none⟩) 1 1)
    have r0 := hP.c0
    have r1' := hP.c1
    have r2' := hP.c2
    have r3 := hP.c3
    clear hP
    go_wp2
    refine bodyPost_ret (v := .agg #[.int .i64 3, .int .i64 0, .string S, .slice (some ⟨w5.heap.size, 0, none⟩) 1 1]) (by simp [results, Tryz.results127, go_sem, r0, r1', r2', r3]) rfl ?_
    exact done_box lt (HT7.out) (HI7.out) (X7.out)
set_option maxRecDepth 100000 in
set_option maxHeartbeats 16000000 in
theorem nm_elm1 {L : List Tk} {sl : Value} {w0 : World} (hc : Cx L sl w0) {s : List UInt8} (hs : s.length ≤ 16384) {r : List Tk} {w : World} (h : In L sl w0 r w) (f : Nat) (IC : Ct L sl w0 f .ch 24 #[pp w0]) (g : ¬ (s = sumW ∧ tx r = [40])) (g' : ¬ (s = onesW ∧ tx r = [40])) (q1 : tx r = [91]) {er : Int} {k : Nat} (h1 : run f .ch r.tail = .bad er k) :
    Calls Tryz.prog 127 #[pp w0, .string (bs s)] w (tBad L w0 er k w) := by
  have lt := h.lt
  obtain ⟨S, hS⟩ : ∃ S, bs s = S := ⟨_, rfl⟩
  have hSs : S.size ≤ 16384 := by rw [← hS]; exact hs
  have HS := Lib.hid hS
  have hd : S.data.toList = s := by rw [← hS]
  have hA0 := h.alloc (.cells #[.int .i64 0, .int .i64 0, .string ⟨#[]⟩, .slice none 0 0] 24)
  have hA := hA0.alloc (.cells #[.int .i64 2, .int .i64 0, .string S, .slice none 0 0] 24)
  have HTA : Hid (Tn w0 w ((w.alloc (.cells #[.int .i64 0, .int .i64 0, .string ⟨#[]⟩, .slice none 0 0] 24)).alloc (.cells #[.int .i64 2, .int .i64 0, .string S, .slice none 0 0] 24))) := Lib.hid ((tn_alloc _ _ _).then_ (tn_alloc _ _ _))
  have F0 := Lib.hid ((Four.new w (.int .i64 0) (.int .i64 0) (.string ⟨#[]⟩) (.slice none 0 0) 24).alloc (.cells #[.int .i64 2, .int .i64 0, .string S, .slice none 0 0] 24))
  have E0' := Four.new (w.alloc (.cells #[.int .i64 0, .int .i64 0, .string ⟨#[]⟩, .slice none 0 0] 24)) (.int .i64 2) (.int .i64 0) (.string S) (.slice none 0 0) 24
  rw [World.size_alloc] at E0'
  have E0 := Lib.hid E0'
  have i0 := E0'.c0
  have i1 := E0'.c1
  have i2 := E0'.c2
  have i3 := E0'.c3
  have j0 := E0'.f0
  have j1 := E0'.f1
  have j2 := E0'.f2
  have j3 := E0'.f3
  clear E0'
  have hr := tx_pos q1 (by decide)
  have SK := Lib.hid (skip_yes hc hA ⟨#[91]⟩ q1 hr)
  have S40 : Hid (tx r = [40] ∨ Calls Tryz.prog 48 #[.pointer (some ⟨w0.heap.size, 0, none⟩), .string ⟨#[40]⟩] ((w.alloc (.cells #[.int .i64 0, .int .i64 0, .string ⟨#[]⟩, .slice none 0 0] 24)).alloc (.cells #[.int .i64 2, .int .i64 0, .string S, .slice none 0 0] 24)) (fun e w' => e = .returned (.bool false) ∧ ((w.alloc (.cells #[.int .i64 0, .int .i64 0, .string ⟨#[]⟩, .slice none 0 0] 24)).alloc (.cells #[.int .i64 2, .int .i64 0, .string S, .slice none 0 0] 24)) = w')) := Lib.hid (by
    by_cases q : tx r = [40]
    · exact .inl q
    · exact .inr (skip_no hA ⟨#[40]⟩ q))
  have GG : Hid ((((S.toList == [115, 117, 109]) = false ∧ (S.toList == [111, 110, 101, 115]) = false)) ∨ ((S.toList == [115, 117, 109]) = true ∧ (S.toList == [111, 110, 101, 115]) = false ∧ tx r ≠ [40]) ∨ ((S.toList == [115, 117, 109]) = false ∧ (S.toList == [111, 110, 101, 115]) = true ∧ tx r ≠ [40])) := Lib.hid (by
    by_cases a : s = sumW
    · exact .inr (.inl ⟨by rw [Lib.toList_data, hd, a]; rfl, by rw [Lib.toList_data, hd, a]; rfl, fun q => g ⟨a, q⟩⟩)
    · have a' : (S.toList == [115, 117, 109]) = false := by rw [Lib.toList_data, hd]; simpa [sumW] using a
      by_cases b : s = onesW
      · exact .inr (.inr ⟨a', by rw [Lib.toList_data, hd, b]; rfl, fun q => g' ⟨b, q⟩⟩)
      · exact .inl ⟨a', by rw [Lib.toList_data, hd]; simpa [onesW] using b⟩)
  rw [hS]
  clear h hA0 hA hs hS hd
  clear g g'
  rcases GG.out with ⟨t1, t2⟩ | ⟨t1, t2, q40⟩ | ⟨t1, t2, q40⟩
  all_goals
    (try have SN := Lib.hid (S40.out.resolve_left q40))
    clear GG S40
    (try clear q40)
    go_enter Tryz.func127, Tryz.ntmps127
    go_wp2_with (first
      | (go_at_call 48; ((with_reducible refine SN.out.mono ?_); rintro e w2 ⟨rfl, rfl⟩; skip))
      | (go_at_call 48; ((with_reducible refine SK.out.mono ?_); rintro e w3 ⟨rfl, hT, hI⟩; have HT3 := Lib.hid (HTA.out.then_ hT); have l3 := hT.size; rw [World.size_alloc, World.size_alloc] at l3; have F3 := Lib.hid (four_turn F0.out hT lt); have E3 := Lib.hid (four_turn E0.out hT (by omega)); have HI3 := Lib.hid hI; have CC := Lib.hid (IC.bad hI h1); clear hT hI i0 i1 i2 i3 j0 j1 j2 j3))
      | (go_at_call 24; ((with_reducible refine CC.out.mono ?_); rintro e w7 ⟨rfl, hT⟩; have HT7 := Lib.hid (HT3.out.then_ hT); clear hT)))
    exact ⟨rfl, rfl, HT7.out⟩
set_option maxRecDepth 100000 in
set_option maxHeartbeats 16000000 in
theorem nm_elm2 {L : List Tk} {sl : Value} {w0 : World} (hc : Cx L sl w0) {s : List UInt8} (hs : s.length ≤ 16384) {r : List Tk} {w : World} (h : In L sl w0 r w) (f : Nat) (IC : Ct L sl w0 f .ch 24 #[pp w0]) (g : ¬ (s = sumW ∧ tx r = [40])) (g' : ¬ (s = onesW ∧ tx r = [40])) (q1 : tx r = [91]) {x : Ex} {r1 : List Tk} (h1 : run f .ch r.tail = .ok x r1) (q2 : tx r1 ≠ [93]) :
    Calls Tryz.prog 127 #[pp w0, .string (bs s)] w (tBad L w0 (fErr r1) r1.length w) := by
  have lt := h.lt
  obtain ⟨S, hS⟩ : ∃ S, bs s = S := ⟨_, rfl⟩
  have hSs : S.size ≤ 16384 := by rw [← hS]; exact hs
  have HS := Lib.hid hS
  have hd : S.data.toList = s := by rw [← hS]
  have hA0 := h.alloc (.cells #[.int .i64 0, .int .i64 0, .string ⟨#[]⟩, .slice none 0 0] 24)
  have hA := hA0.alloc (.cells #[.int .i64 2, .int .i64 0, .string S, .slice none 0 0] 24)
  have HTA : Hid (Tn w0 w ((w.alloc (.cells #[.int .i64 0, .int .i64 0, .string ⟨#[]⟩, .slice none 0 0] 24)).alloc (.cells #[.int .i64 2, .int .i64 0, .string S, .slice none 0 0] 24))) := Lib.hid ((tn_alloc _ _ _).then_ (tn_alloc _ _ _))
  have F0 := Lib.hid ((Four.new w (.int .i64 0) (.int .i64 0) (.string ⟨#[]⟩) (.slice none 0 0) 24).alloc (.cells #[.int .i64 2, .int .i64 0, .string S, .slice none 0 0] 24))
  have E0' := Four.new (w.alloc (.cells #[.int .i64 0, .int .i64 0, .string ⟨#[]⟩, .slice none 0 0] 24)) (.int .i64 2) (.int .i64 0) (.string S) (.slice none 0 0) 24
  rw [World.size_alloc] at E0'
  have E0 := Lib.hid E0'
  have i0 := E0'.c0
  have i1 := E0'.c1
  have i2 := E0'.c2
  have i3 := E0'.c3
  have j0 := E0'.f0
  have j1 := E0'.f1
  have j2 := E0'.f2
  have j3 := E0'.f3
  clear E0'
  have hr := tx_pos q1 (by decide)
  have SK := Lib.hid (skip_yes hc hA ⟨#[91]⟩ q1 hr)
  have S40 : Hid (tx r = [40] ∨ Calls Tryz.prog 48 #[.pointer (some ⟨w0.heap.size, 0, none⟩), .string ⟨#[40]⟩] ((w.alloc (.cells #[.int .i64 0, .int .i64 0, .string ⟨#[]⟩, .slice none 0 0] 24)).alloc (.cells #[.int .i64 2, .int .i64 0, .string S, .slice none 0 0] 24)) (fun e w' => e = .returned (.bool false) ∧ ((w.alloc (.cells #[.int .i64 0, .int .i64 0, .string ⟨#[]⟩, .slice none 0 0] 24)).alloc (.cells #[.int .i64 2, .int .i64 0, .string S, .slice none 0 0] 24)) = w')) := Lib.hid (by
    by_cases q : tx r = [40]
    · exact .inl q
    · exact .inr (skip_no hA ⟨#[40]⟩ q))
  have GG : Hid ((((S.toList == [115, 117, 109]) = false ∧ (S.toList == [111, 110, 101, 115]) = false)) ∨ ((S.toList == [115, 117, 109]) = true ∧ (S.toList == [111, 110, 101, 115]) = false ∧ tx r ≠ [40]) ∨ ((S.toList == [115, 117, 109]) = false ∧ (S.toList == [111, 110, 101, 115]) = true ∧ tx r ≠ [40])) := Lib.hid (by
    by_cases a : s = sumW
    · exact .inr (.inl ⟨by rw [Lib.toList_data, hd, a]; rfl, by rw [Lib.toList_data, hd, a]; rfl, fun q => g ⟨a, q⟩⟩)
    · have a' : (S.toList == [115, 117, 109]) = false := by rw [Lib.toList_data, hd]; simpa [sumW] using a
      by_cases b : s = onesW
      · exact .inr (.inr ⟨a', by rw [Lib.toList_data, hd, b]; rfl, fun q => g' ⟨b, q⟩⟩)
      · exact .inl ⟨a', by rw [Lib.toList_data, hd]; simpa [onesW] using b⟩)
  rw [hS]
  clear h hA0 hA hs hS hd
  clear g g'
  rcases GG.out with ⟨t1, t2⟩ | ⟨t1, t2, q40⟩ | ⟨t1, t2, q40⟩
  all_goals
    (try have SN := Lib.hid (S40.out.resolve_left q40))
    clear GG S40
    (try clear q40)
    go_enter Tryz.func127, Tryz.ntmps127
    go_wp2_with (first
      | (go_at_call 48; ((with_reducible refine SN.out.mono ?_); rintro e w2 ⟨rfl, rfl⟩; skip))
      | (go_at_call 48; ((with_reducible refine SK.out.mono ?_); rintro e w3 ⟨rfl, hT, hI⟩; have HT3 := Lib.hid (HTA.out.then_ hT); have l3 := hT.size; rw [World.size_alloc, World.size_alloc] at l3; have F3 := Lib.hid (four_turn F0.out hT lt); have E3 := Lib.hid (four_turn E0.out hT (by omega)); have HI3 := Lib.hid hI; have CC := Lib.hid (IC.ok hI h1); clear hT hI i0 i1 i2 i3 j0 j1 j2 j3))
      | (go_at_call 24; ((with_reducible refine CC.out.mono ?_); rintro e w5 ⟨o5, n5, s5, p5, k5, c5, rfl, hT, hI, hF⟩; have HT5 := Lib.hid (HT3.out.then_ hT); have l5 := hT.size; have l6 := hI.lt; have E4 := (four_turn E3.out hT (by omega)).alloc (.cells #[.int .i64 o5, .int .i64 n5, .string s5, .slice p5 k5 c5] 24); have F4 := Lib.hid (four_away ((four_turn F3.out hT lt).alloc (.cells #[.int .i64 o5, .int .i64 n5, .string s5, .slice p5 k5 c5] 24)) (b := w.heap.size + 1) (by omega) (.int .i64 3) (.int .i64 0) (.string S) (.slice (some ⟨w5.heap.size, 0, none⟩) 1 1)); have D4 := Lib.hid (E4.put (.int .i64 3) (.int .i64 0) (.string S) (.slice (some ⟨w5.heap.size, 0, none⟩) 1 1)); have i0 := E4.c0; have i1 := E4.c1; have i2 := E4.c2; have i3 := E4.c3; have j0 := E4.f0; have j1 := E4.f1; have j2 := E4.f2; have j3 := E4.f3; have I4 := Lib.hid (in_put (hI.alloc (.cells #[.int .i64 o5, .int .i64 n5, .string s5, .slice p5 k5 c5] 24)) (g := w.heap.size + 1) (by omega) (.int .i64 3) (.int .i64 0) (.string S) (.slice (some ⟨w5.heap.size, 0, none⟩) 1 1)); have HT4b := Lib.hid (tn_put (HT5.out.then_ (tn_alloc _ _ (.cells #[.int .i64 o5, .int .i64 n5, .string s5, .slice p5 k5 c5] 24))) (g := w.heap.size + 1) (by omega) (.int .i64 3) (.int .i64 0) (.string S) (.slice (some ⟨w5.heap.size, 0, none⟩) 1 1)); have X4 := Lib.hid (fr_away (g := w.heap.size + 1) (nodeS (o := 3) (n := 0) (s := S) hF l5 (by omega)) (by omega) (.int .i64 3) (.int .i64 0) (.string S) (.slice (some ⟨w5.heap.size, 0, none⟩) 1 1)); have NC2 := Lib.hid (need_no' hc I4.out ⟨#[93]⟩ q2); clear hT hI hF E4))
      | (go_at_call 49; ((with_reducible refine NC2.out.mono ?_); rintro e w7 ⟨rfl, hT⟩; have HT7 := Lib.hid (HT4b.out.then_ hT); clear hT)))
    exact ⟨rfl, rfl, HT7.out⟩
set_option maxRecDepth 100000 in
set_option maxHeartbeats 16000000 in
theorem nm_at1 {L : List Tk} {sl : Value} {w0 : World} (hc : Cx L sl w0) {s : List UInt8} (hs : s.length ≤ 16384) {r : List Tk} {w : World} (h : In L sl w0 r w) (g : ¬ (s = sumW ∧ tx r = [40])) (g' : ¬ (s = onesW ∧ tx r = [40])) (q91 : tx r ≠ [91]) (q1 : tx r = [64]) (k1 : kd r.tail ≠ 3) :
    Calls Tryz.prog 127 #[pp w0, .string (bs s)] w (tBad L w0 (fErr r.tail) r.tail.length w) := by
  have lt := h.lt
  obtain ⟨S, hS⟩ : ∃ S, bs s = S := ⟨_, rfl⟩
  have hSs : S.size ≤ 16384 := by rw [← hS]; exact hs
  have HS := Lib.hid hS
  have hd : S.data.toList = s := by rw [← hS]
  have hA0 := h.alloc (.cells #[.int .i64 0, .int .i64 0, .string ⟨#[]⟩, .slice none 0 0] 24)
  have hA := hA0.alloc (.cells #[.int .i64 2, .int .i64 0, .string S, .slice none 0 0] 24)
  have HTA : Hid (Tn w0 w ((w.alloc (.cells #[.int .i64 0, .int .i64 0, .string ⟨#[]⟩, .slice none 0 0] 24)).alloc (.cells #[.int .i64 2, .int .i64 0, .string S, .slice none 0 0] 24))) := Lib.hid ((tn_alloc _ _ _).then_ (tn_alloc _ _ _))
  have F0 := Lib.hid ((Four.new w (.int .i64 0) (.int .i64 0) (.string ⟨#[]⟩) (.slice none 0 0) 24).alloc (.cells #[.int .i64 2, .int .i64 0, .string S, .slice none 0 0] 24))
  have E0' := Four.new (w.alloc (.cells #[.int .i64 0, .int .i64 0, .string ⟨#[]⟩, .slice none 0 0] 24)) (.int .i64 2) (.int .i64 0) (.string S) (.slice none 0 0) 24
  rw [World.size_alloc] at E0'
  have E0 := Lib.hid E0'
  have i0 := E0'.c0
  have i1 := E0'.c1
  have i2 := E0'.c2
  have i3 := E0'.c3
  have j0 := E0'.f0
  have j1 := E0'.f1
  have j2 := E0'.f2
  have j3 := E0'.f3
  clear E0'
  have hr := tx_pos q1 (by decide)
  have SK := Lib.hid (skip_yes hc hA ⟨#[64]⟩ q1 hr)
  have SM := Lib.hid (skip_no hA ⟨#[91]⟩ q91)
  have S40 : Hid (tx r = [40] ∨ Calls Tryz.prog 48 #[.pointer (some ⟨w0.heap.size, 0, none⟩), .string ⟨#[40]⟩] ((w.alloc (.cells #[.int .i64 0, .int .i64 0, .string ⟨#[]⟩, .slice none 0 0] 24)).alloc (.cells #[.int .i64 2, .int .i64 0, .string S, .slice none 0 0] 24)) (fun e w' => e = .returned (.bool false) ∧ ((w.alloc (.cells #[.int .i64 0, .int .i64 0, .string ⟨#[]⟩, .slice none 0 0] 24)).alloc (.cells #[.int .i64 2, .int .i64 0, .string S, .slice none 0 0] 24)) = w')) := Lib.hid (by
    by_cases q : tx r = [40]
    · exact .inl q
    · exact .inr (skip_no hA ⟨#[40]⟩ q))
  have GG : Hid ((((S.toList == [115, 117, 109]) = false ∧ (S.toList == [111, 110, 101, 115]) = false)) ∨ ((S.toList == [115, 117, 109]) = true ∧ (S.toList == [111, 110, 101, 115]) = false ∧ tx r ≠ [40]) ∨ ((S.toList == [115, 117, 109]) = false ∧ (S.toList == [111, 110, 101, 115]) = true ∧ tx r ≠ [40])) := Lib.hid (by
    by_cases a : s = sumW
    · exact .inr (.inl ⟨by rw [Lib.toList_data, hd, a]; rfl, by rw [Lib.toList_data, hd, a]; rfl, fun q => g ⟨a, q⟩⟩)
    · have a' : (S.toList == [115, 117, 109]) = false := by rw [Lib.toList_data, hd]; simpa [sumW] using a
      by_cases b : s = onesW
      · exact .inr (.inr ⟨a', by rw [Lib.toList_data, hd, b]; rfl, fun q => g' ⟨b, q⟩⟩)
      · exact .inl ⟨a', by rw [Lib.toList_data, hd]; simpa [onesW] using b⟩)
  rw [hS]
  clear h hA0 hA hs hS hd
  clear g g'
  rcases GG.out with ⟨t1, t2⟩ | ⟨t1, t2, q40⟩ | ⟨t1, t2, q40⟩
  all_goals
    (try have SN := Lib.hid (S40.out.resolve_left q40))
    clear GG S40
    (try clear q40)
    go_enter Tryz.func127, Tryz.ntmps127
    go_wp2_with (first
      | (go_at_call 48; ((with_reducible refine SN.out.mono ?_); rintro e w2 ⟨rfl, rfl⟩; skip))
      | (go_at_call 48; ((with_reducible refine SM.out.mono ?_); rintro e w2 ⟨rfl, rfl⟩; skip))
      | (go_at_call 48; ((with_reducible refine SK.out.mono ?_); rintro e w3 ⟨rfl, hT, hI⟩; have HT3 := Lib.hid (HTA.out.then_ hT); have l3 := hT.size; rw [World.size_alloc, World.size_alloc] at l3; have F3 := Lib.hid (four_turn F0.out hT lt); have E3 := Lib.hid (four_turn E0.out hT (by omega)); have HI3 := Lib.hid hI; have NC := Lib.hid (number_no hc hI k1); clear hT hI i0 i1 i2 i3 j0 j1 j2 j3))
      | (go_at_call 126; ((with_reducible refine NC.out.mono ?_); rintro e w7 ⟨rfl, hT⟩; have HT7 := Lib.hid (HT3.out.then_ hT); clear hT)))
    exact ⟨rfl, rfl, HT7.out⟩
set_option maxRecDepth 100000 in
set_option maxHeartbeats 16000000 in
theorem nm_at2 {L : List Tk} {sl : Value} {w0 : World} (hc : Cx L sl w0) {s : List UInt8} (hs : s.length ≤ 16384) {r : List Tk} {w : World} (h : In L sl w0 r w) (g : ¬ (s = sumW ∧ tx r = [40])) (g' : ¬ (s = onesW ∧ tx r = [40])) (q91 : tx r ≠ [91]) (q1 : tx r = [64]) (k1 : kd r.tail = 3) (k2 : 65535 < nmr r.tail) :
    Calls Tryz.prog 127 #[pp w0, .string (bs s)] w (tBad L w0 3 r.tail.length w) := by
  have lt := h.lt
  obtain ⟨S, hS⟩ : ∃ S, bs s = S := ⟨_, rfl⟩
  have hSs : S.size ≤ 16384 := by rw [← hS]; exact hs
  have HS := Lib.hid hS
  have hd : S.data.toList = s := by rw [← hS]
  have hA0 := h.alloc (.cells #[.int .i64 0, .int .i64 0, .string ⟨#[]⟩, .slice none 0 0] 24)
  have hA := hA0.alloc (.cells #[.int .i64 2, .int .i64 0, .string S, .slice none 0 0] 24)
  have HTA : Hid (Tn w0 w ((w.alloc (.cells #[.int .i64 0, .int .i64 0, .string ⟨#[]⟩, .slice none 0 0] 24)).alloc (.cells #[.int .i64 2, .int .i64 0, .string S, .slice none 0 0] 24))) := Lib.hid ((tn_alloc _ _ _).then_ (tn_alloc _ _ _))
  have F0 := Lib.hid ((Four.new w (.int .i64 0) (.int .i64 0) (.string ⟨#[]⟩) (.slice none 0 0) 24).alloc (.cells #[.int .i64 2, .int .i64 0, .string S, .slice none 0 0] 24))
  have E0' := Four.new (w.alloc (.cells #[.int .i64 0, .int .i64 0, .string ⟨#[]⟩, .slice none 0 0] 24)) (.int .i64 2) (.int .i64 0) (.string S) (.slice none 0 0) 24
  rw [World.size_alloc] at E0'
  have E0 := Lib.hid E0'
  have i0 := E0'.c0
  have i1 := E0'.c1
  have i2 := E0'.c2
  have i3 := E0'.c3
  have j0 := E0'.f0
  have j1 := E0'.f1
  have j2 := E0'.f2
  have j3 := E0'.f3
  clear E0'
  have hr := tx_pos q1 (by decide)
  have SK := Lib.hid (skip_yes hc hA ⟨#[64]⟩ q1 hr)
  have SM := Lib.hid (skip_no hA ⟨#[91]⟩ q91)
  have S40 : Hid (tx r = [40] ∨ Calls Tryz.prog 48 #[.pointer (some ⟨w0.heap.size, 0, none⟩), .string ⟨#[40]⟩] ((w.alloc (.cells #[.int .i64 0, .int .i64 0, .string ⟨#[]⟩, .slice none 0 0] 24)).alloc (.cells #[.int .i64 2, .int .i64 0, .string S, .slice none 0 0] 24)) (fun e w' => e = .returned (.bool false) ∧ ((w.alloc (.cells #[.int .i64 0, .int .i64 0, .string ⟨#[]⟩, .slice none 0 0] 24)).alloc (.cells #[.int .i64 2, .int .i64 0, .string S, .slice none 0 0] 24)) = w')) := Lib.hid (by
    by_cases q : tx r = [40]
    · exact .inl q
    · exact .inr (skip_no hA ⟨#[40]⟩ q))
  have GG : Hid ((((S.toList == [115, 117, 109]) = false ∧ (S.toList == [111, 110, 101, 115]) = false)) ∨ ((S.toList == [115, 117, 109]) = true ∧ (S.toList == [111, 110, 101, 115]) = false ∧ tx r ≠ [40]) ∨ ((S.toList == [115, 117, 109]) = false ∧ (S.toList == [111, 110, 101, 115]) = true ∧ tx r ≠ [40])) := Lib.hid (by
    by_cases a : s = sumW
    · exact .inr (.inl ⟨by rw [Lib.toList_data, hd, a]; rfl, by rw [Lib.toList_data, hd, a]; rfl, fun q => g ⟨a, q⟩⟩)
    · have a' : (S.toList == [115, 117, 109]) = false := by rw [Lib.toList_data, hd]; simpa [sumW] using a
      by_cases b : s = onesW
      · exact .inr (.inr ⟨a', by rw [Lib.toList_data, hd, b]; rfl, fun q => g' ⟨b, q⟩⟩)
      · exact .inl ⟨a', by rw [Lib.toList_data, hd]; simpa [onesW] using b⟩)
  rw [hS]
  clear h hA0 hA hs hS hd
  clear g g'
  rcases GG.out with ⟨t1, t2⟩ | ⟨t1, t2, q40⟩ | ⟨t1, t2, q40⟩
  all_goals
    (try have SN := Lib.hid (S40.out.resolve_left q40))
    clear GG S40
    (try clear q40)
    go_enter Tryz.func127, Tryz.ntmps127
    go_wp2_with (first
      | (go_at_call 48; ((with_reducible refine SN.out.mono ?_); rintro e w2 ⟨rfl, rfl⟩; skip))
      | (go_at_call 48; ((with_reducible refine SM.out.mono ?_); rintro e w2 ⟨rfl, rfl⟩; skip))
      | (go_at_call 48; ((with_reducible refine SK.out.mono ?_); rintro e w3 ⟨rfl, hT, hI⟩; have HT3 := Lib.hid (HTA.out.then_ hT); have l3 := hT.size; rw [World.size_alloc, World.size_alloc] at l3; have F3 := Lib.hid (four_turn F0.out hT lt); have E3 := Lib.hid (four_turn E0.out hT (by omega)); have HI3 := Lib.hid hI; have NC := Lib.hid (number_big hI k1 k2); clear hT hI i0 i1 i2 i3 j0 j1 j2 j3))
      | (go_at_call 126; ((with_reducible refine NC.out.mono ?_); rintro e w7 ⟨rfl, hT⟩; have HT7 := Lib.hid (HT3.out.then_ hT); clear hT)))
    exact ⟨rfl, rfl, HT7.out⟩
set_option maxRecDepth 100000 in
set_option maxHeartbeats 16000000 in
theorem nm_at {L : List Tk} {sl : Value} {w0 : World} (hc : Cx L sl w0) {s : List UInt8} (hs : s.length ≤ 16384) {r : List Tk} {w : World} (h : In L sl w0 r w) (g : ¬ (s = sumW ∧ tx r = [40])) (g' : ¬ (s = onesW ∧ tx r = [40])) (q91 : tx r ≠ [91]) (q1 : tx r = [64]) (k1 : kd r.tail = 3) (k2 : nmr r.tail ≤ 65535) :
    Calls Tryz.prog 127 #[pp w0, .string (bs s)] w (tOk L sl w0 r.tail.tail (.mk 2 0 (mb (elN s (nmr r.tail))) []) w) := by
  have lt := h.lt
  obtain ⟨S, hS⟩ : ∃ S, bs s = S := ⟨_, rfl⟩
  have hSs : S.size ≤ 16384 := by rw [← hS]; exact hs
  have HS := Lib.hid hS
  have hd : S.data.toList = s := by rw [← hS]
  have hA0 := h.alloc (.cells #[.int .i64 0, .int .i64 0, .string ⟨#[]⟩, .slice none 0 0] 24)
  have hA := hA0.alloc (.cells #[.int .i64 2, .int .i64 0, .string S, .slice none 0 0] 24)
  have HTA : Hid (Tn w0 w ((w.alloc (.cells #[.int .i64 0, .int .i64 0, .string ⟨#[]⟩, .slice none 0 0] 24)).alloc (.cells #[.int .i64 2, .int .i64 0, .string S, .slice none 0 0] 24))) := Lib.hid ((tn_alloc _ _ _).then_ (tn_alloc _ _ _))
  have F0 := Lib.hid ((Four.new w (.int .i64 0) (.int .i64 0) (.string ⟨#[]⟩) (.slice none 0 0) 24).alloc (.cells #[.int .i64 2, .int .i64 0, .string S, .slice none 0 0] 24))
  have E0' := Four.new (w.alloc (.cells #[.int .i64 0, .int .i64 0, .string ⟨#[]⟩, .slice none 0 0] 24)) (.int .i64 2) (.int .i64 0) (.string S) (.slice none 0 0) 24
  rw [World.size_alloc] at E0'
  have E0 := Lib.hid E0'
  have i0 := E0'.c0
  have i1 := E0'.c1
  have i2 := E0'.c2
  have i3 := E0'.c3
  have j0 := E0'.f0
  have j1 := E0'.f1
  have j2 := E0'.f2
  have j3 := E0'.f3
  clear E0'
  have hr := tx_pos q1 (by decide)
  have hr2 := kd_pos k1 (by decide)
  have k0 := num_pos hc (⟨(suf_tail h.suf hr).1, (suf_tail h.suf hr).2.1⟩) k1
  have SK := Lib.hid (skip_yes hc hA ⟨#[64]⟩ q1 hr)
  have SM := Lib.hid (skip_no hA ⟨#[91]⟩ q91)
  have S40 : Hid (tx r = [40] ∨ Calls Tryz.prog 48 #[.pointer (some ⟨w0.heap.size, 0, none⟩), .string ⟨#[40]⟩] ((w.alloc (.cells #[.int .i64 0, .int .i64 0, .string ⟨#[]⟩, .slice none 0 0] 24)).alloc (.cells #[.int .i64 2, .int .i64 0, .string S, .slice none 0 0] 24)) (fun e w' => e = .returned (.bool false) ∧ ((w.alloc (.cells #[.int .i64 0, .int .i64 0, .string ⟨#[]⟩, .slice none 0 0] 24)).alloc (.cells #[.int .i64 2, .int .i64 0, .string S, .slice none 0 0] 24)) = w')) := Lib.hid (by
    by_cases q : tx r = [40]
    · exact .inl q
    · exact .inr (skip_no hA ⟨#[40]⟩ q))
  have GG : Hid ((((S.toList == [115, 117, 109]) = false ∧ (S.toList == [111, 110, 101, 115]) = false)) ∨ ((S.toList == [115, 117, 109]) = true ∧ (S.toList == [111, 110, 101, 115]) = false ∧ tx r ≠ [40]) ∨ ((S.toList == [115, 117, 109]) = false ∧ (S.toList == [111, 110, 101, 115]) = true ∧ tx r ≠ [40])) := Lib.hid (by
    by_cases a : s = sumW
    · exact .inr (.inl ⟨by rw [Lib.toList_data, hd, a]; rfl, by rw [Lib.toList_data, hd, a]; rfl, fun q => g ⟨a, q⟩⟩)
    · have a' : (S.toList == [115, 117, 109]) = false := by rw [Lib.toList_data, hd]; simpa [sumW] using a
      by_cases b : s = onesW
      · exact .inr (.inr ⟨a', by rw [Lib.toList_data, hd, b]; rfl, fun q => g' ⟨b, q⟩⟩)
      · exact .inl ⟨a', by rw [Lib.toList_data, hd]; simpa [onesW] using b⟩)
  obtain ⟨D, hD⟩ : ∃ D : ByteArray, D = ⟨(Lib.itoa (nmr r.tail)).toArray⟩ := ⟨_, rfl⟩
  have HD := Lib.hid hD
  have HC := Lib.hid (el_cat S D s (nmr r.tail) hS.symm hD)
  have hDs : D.size ≤ 30 := by
    rw [hD]
    show (Lib.itoa (nmr r.tail)).length ≤ 30
    have := Lib.itoa_length_le (n := nmr r.tail) (by omega) (by omega)
    omega
  have PW := Lib.hid hc.tab
  rw [hS]
  clear h hA0 hA hs hS hd
  rw [← HC.out]
  have HNN := Lib.hid (show (0 : Int) ≤ nmr r.tail ∧ nmr r.tail ≤ 65535 from ⟨k0, k2⟩)
  clear g g' hD k0
  rcases GG.out with ⟨t1, t2⟩ | ⟨t1, t2, q40⟩ | ⟨t1, t2, q40⟩
  all_goals
    (try have SN := Lib.hid (S40.out.resolve_left q40))
    clear GG S40
    (try clear q40)
    go_enter Tryz.func127, Tryz.ntmps127
    go_wp2_with (first
      | (go_at_call 48; ((with_reducible refine SN.out.mono ?_); rintro e w2 ⟨rfl, rfl⟩; skip))
      | (go_at_call 48; ((with_reducible refine SM.out.mono ?_); rintro e w2 ⟨rfl, rfl⟩; skip))
      | (go_at_call 48; ((with_reducible refine SK.out.mono ?_); rintro e w3 ⟨rfl, hT, hI⟩; have HT3 := Lib.hid (HTA.out.then_ hT); have l3 := hT.size; rw [World.size_alloc, World.size_alloc] at l3; have F3 := Lib.hid (four_turn F0.out hT lt); have E3 := Lib.hid (four_turn E0.out hT (by omega)); have HI3 := Lib.hid hI; have NC := Lib.hid (number_yes hc hI k1 k2 hr2); clear hT hI i0 i1 i2 i3 j0 j1 j2 j3))
      | (go_at_call 126; ((with_reducible refine NC.out.mono ?_); rintro e w4 ⟨rfl, hT, hI⟩; have HT4 := Lib.hid (HT3.out.then_ hT); have HI4 := Lib.hid hI; have l4 := hT.size; have F4 := Lib.hid (four_turn F3.out hT lt); have E4 := Lib.hid (four_turn E3.out hT (by omega)); have FC0 := PackW.formatCode_any (nmr r.tail) w4 (by have := HNN.out; omega) (by have := HNN.out; omega) (hI.tab hc).pow; rw [← HD.out] at FC0; have FC := Lib.hid FC0; clear hT hI FC0))
      | (go_at_call 71; ((with_reducible refine FC.out.mono ?_); rintro e w6 ⟨rfl, hb⟩; have HB6 := Lib.hid hb; have E6 := E4.out.stay hb; have i0 := E6.c0; have i1 := E6.c1; have i2 := E6.c2; have i3 := E6.c3; have j2 := E6.f2; have FZ0 := F4.out.stay hb; have d0 := FZ0.c0; have d1 := FZ0.c1; have d2 := FZ0.c2; have d3 := FZ0.c3; have y0 := FZ0.f0; have y1 := FZ0.f1; have y2 := FZ0.f2; have y3 := FZ0.f3; have FZ := Lib.hid (FZ0.far (b := w.heap.size + 1) (o := 2) (v := .string (((S ++ ⟨#[91]⟩) ++ D) ++ ⟨#[93]⟩)) (by omega)); clear hb E6 FZ0)))
    have hP := FZ.out.put (.int .i64 2) (.int .i64 0) (.string (((S ++ ⟨#[91]⟩) ++ D) ++ ⟨#[93]⟩)) (.slice none 0 0)
    have r0 := hP.c0
    have r1' := hP.c1
    have r2' := hP.c2
    have r3 := hP.c3
    clear hP
    go_wp2
    refine bodyPost_ret (v := .agg #[.int .i64 2, .int .i64 0, .string (((S ++ ⟨#[91]⟩) ++ D) ++ ⟨#[93]⟩), .slice none 0 0]) (by simp [results, Tryz.results127, go_sem, r0, r1', r2', r3]) rfl ?_
    exact done_box lt (tn_set (HT4.out.then_ (tn_below HB6.out)) (g := w.heap.size + 1) (by omega) _) ((HI4.out.later HB6.out).set (by omega) _) (fr_leaf (by rw [ByteArray.size_append, ByteArray.size_append, ByteArray.size_append]; show S.size + 1 + D.size + 1 ≤ _; omega))
set_option maxRecDepth 100000 in
set_option maxHeartbeats 16000000 in
theorem nm_var {L : List Tk} {sl : Value} {w0 : World} (_hc : Cx L sl w0) {s : List UInt8} (hs : s.length ≤ 16384) {r : List Tk} {w : World} (h : In L sl w0 r w) (g : ¬ (s = sumW ∧ tx r = [40])) (g' : ¬ (s = onesW ∧ tx r = [40])) (q91 : tx r ≠ [91]) (q64 : tx r ≠ [64]) :
    Calls Tryz.prog 127 #[pp w0, .string (bs s)] w (tOk L sl w0 r (.mk 2 0 (mb s) []) w) := by
  have lt := h.lt
  obtain ⟨S, hS⟩ : ∃ S, bs s = S := ⟨_, rfl⟩
  have hSs : S.size ≤ 16384 := by rw [← hS]; exact hs
  have HS := Lib.hid hS
  have hd : S.data.toList = s := by rw [← hS]
  have hA0 := h.alloc (.cells #[.int .i64 0, .int .i64 0, .string ⟨#[]⟩, .slice none 0 0] 24)
  have hA := hA0.alloc (.cells #[.int .i64 2, .int .i64 0, .string S, .slice none 0 0] 24)
  have HTA : Hid (Tn w0 w ((w.alloc (.cells #[.int .i64 0, .int .i64 0, .string ⟨#[]⟩, .slice none 0 0] 24)).alloc (.cells #[.int .i64 2, .int .i64 0, .string S, .slice none 0 0] 24))) := Lib.hid ((tn_alloc _ _ _).then_ (tn_alloc _ _ _))
  have F0 := Lib.hid ((Four.new w (.int .i64 0) (.int .i64 0) (.string ⟨#[]⟩) (.slice none 0 0) 24).alloc (.cells #[.int .i64 2, .int .i64 0, .string S, .slice none 0 0] 24))
  have E0' := Four.new (w.alloc (.cells #[.int .i64 0, .int .i64 0, .string ⟨#[]⟩, .slice none 0 0] 24)) (.int .i64 2) (.int .i64 0) (.string S) (.slice none 0 0) 24
  rw [World.size_alloc] at E0'
  have E0 := Lib.hid E0'
  have i0 := E0'.c0
  have i1 := E0'.c1
  have i2 := E0'.c2
  have i3 := E0'.c3
  have j0 := E0'.f0
  have j1 := E0'.f1
  have j2 := E0'.f2
  have j3 := E0'.f3
  clear E0'
  have SM := Lib.hid (skip_no hA ⟨#[91]⟩ q91)
  have SP := Lib.hid (skip_no hA ⟨#[64]⟩ q64)
  have S40 : Hid (tx r = [40] ∨ Calls Tryz.prog 48 #[.pointer (some ⟨w0.heap.size, 0, none⟩), .string ⟨#[40]⟩] ((w.alloc (.cells #[.int .i64 0, .int .i64 0, .string ⟨#[]⟩, .slice none 0 0] 24)).alloc (.cells #[.int .i64 2, .int .i64 0, .string S, .slice none 0 0] 24)) (fun e w' => e = .returned (.bool false) ∧ ((w.alloc (.cells #[.int .i64 0, .int .i64 0, .string ⟨#[]⟩, .slice none 0 0] 24)).alloc (.cells #[.int .i64 2, .int .i64 0, .string S, .slice none 0 0] 24)) = w')) := Lib.hid (by
    by_cases q : tx r = [40]
    · exact .inl q
    · exact .inr (skip_no hA ⟨#[40]⟩ q))
  have GG : Hid ((((S.toList == [115, 117, 109]) = false ∧ (S.toList == [111, 110, 101, 115]) = false)) ∨ ((S.toList == [115, 117, 109]) = true ∧ (S.toList == [111, 110, 101, 115]) = false ∧ tx r ≠ [40]) ∨ ((S.toList == [115, 117, 109]) = false ∧ (S.toList == [111, 110, 101, 115]) = true ∧ tx r ≠ [40])) := Lib.hid (by
    by_cases a : s = sumW
    · exact .inr (.inl ⟨by rw [Lib.toList_data, hd, a]; rfl, by rw [Lib.toList_data, hd, a]; rfl, fun q => g ⟨a, q⟩⟩)
    · have a' : (S.toList == [115, 117, 109]) = false := by rw [Lib.toList_data, hd]; simpa [sumW] using a
      by_cases b : s = onesW
      · exact .inr (.inr ⟨a', by rw [Lib.toList_data, hd, b]; rfl, fun q => g' ⟨b, q⟩⟩)
      · exact .inl ⟨a', by rw [Lib.toList_data, hd]; simpa [onesW] using b⟩)
  have HIH := Lib.hid h
  have FZ := F0
  have d0 := FZ.out.c0
  have d1 := FZ.out.c1
  have d2 := FZ.out.c2
  have d3 := FZ.out.c3
  have y0 := FZ.out.f0
  have y1 := FZ.out.f1
  have y2 := FZ.out.f2
  have y3 := FZ.out.f3
  show Calls _ _ _ _ (tOk L sl w0 r (.mk 2 0 (bs s) []) w)
  rw [hS]
  clear h hA0 hA hs hS hd
  clear g g'
  rcases GG.out with ⟨t1, t2⟩ | ⟨t1, t2, q40⟩ | ⟨t1, t2, q40⟩
  all_goals
    (try have SN := Lib.hid (S40.out.resolve_left q40))
    clear GG S40
    (try clear q40)
    go_enter Tryz.func127, Tryz.ntmps127
    go_wp2_with (first
      | (go_at_call 48; ((with_reducible refine SN.out.mono ?_); rintro e w2 ⟨rfl, rfl⟩; skip))
      | (go_at_call 48; ((with_reducible refine SM.out.mono ?_); rintro e w2 ⟨rfl, rfl⟩; skip))
      | (go_at_call 48; ((with_reducible refine SP.out.mono ?_); rintro e w2 ⟨rfl, rfl⟩; skip)))
    have hP := (Four.new w (.int .i64 2) (.int .i64 0) (.string S) (.slice none 0 0) 24).alloc (.cells #[.int .i64 2, .int .i64 0, .string S, .slice none 0 0] 24)
    have r0 := hP.c0
    have r1' := hP.c1
    have r2' := hP.c2
    have r3 := hP.c3
    clear hP
    refine bodyPost_ret (v := xv 2 0 S (.slice none 0 0)) (by simp [results, Tryz.results127, go_sem, r0, r1', r2', r3]) rfl ?_
    exact ⟨2, 0, S, none, 0, 0, rfl, (tn_alloc _ _ _).then_ (tn_alloc _ _ _), (HIH.out.alloc _).alloc _, fr_leaf (by omega)⟩
end Go.Proofs.YtlnomiiphlbamaaGreatDoor.EtW
