/-
  How long a printed text is at most.
  Print's parts: variableText, text.
  Print's parts: bare, shape by shape.
  Print's parts: bare, shape by shape: leaves, prefixes, binary operators.
  Print's parts: the text of ranges.
  Print's parts: bare of inside, of every valid expression; Print.
-/
import Derived.Test.YtlnomiiphlbamaaGreatDoorEtBack
import Derived.Lib.ItoaLen
import Derived.Test.YtlnomiiphlbamaaGreatDoorEtParseE
import Derived.Test.YtlnomiiphlbamaaGreatDoorExName
import Derived.Test.YtlnomiiphlbamaaGreatDoorLexJoin
import Derived.Deep.AppendLies
import Derived.Deep.RegionLaw
namespace Go.Proofs.YtlnomiiphlbamaaGreatDoor.EtM
open Go Go.Proofs.YtlnomiiphlbamaaGreatDoor.NumM Go.Proofs.YtlnomiiphlbamaaGreatDoor.LexM Go.Proofs.YtlnomiiphlbamaaGreatDoor.ExM

abbrev lnP (l : List Pc) : Nat := (txP l).length
theorem lnP_plc (p : Int) (x : Int × List Pc) : lnP (plc p x) ≤ lnP x.2 + 2 := by
  unfold lnP
  rw [txP_plc]
  split
  · simp only [List.length_cons, List.length_append, List.length_nil]; omega
  · omega
def sumL (xs : List (Int × List Pc)) : Nat := (xs.map fun x => lnP x.2).sum
theorem sumL_cons (x : Int × List Pc) (r : List (Int × List Pc)) : sumL (x :: r) = lnP x.2 + sumL r := by simp [sumL]
theorem lnP_rgs : ∀ (n : Nat) (xs : List (Int × List Pc)), xs.length ≤ n → lnP (rgs xs) ≤ sumL xs + 5 * xs.length := by
  intro n
  induction n using Nat.strongRecOn with
  | ind n ih =>
    intro xs hn
    match xs, hn with
    | [], _ => simp [rgs, lnP, txP_nil]
    | [a], _ => simp [rgs, lnP, txP_nil]
    | [a, b], _ =>
      have h1 := lnP_plc 1 a
      have h2 := lnP_plc 1 b
      rw [sumL_cons, sumL_cons]
      simp only [rgs, lnP, txP_app, txP_cons, txP_nil, Pc.tx, List.length_append, List.length_cons, List.length_nil] at *
      omega
    | a :: b :: c :: r, hn =>
      have h1 := lnP_plc 1 a
      have h2 := lnP_plc 1 b
      have h3 := ih (c :: r).length (by simp only [List.length_cons] at hn ⊢; omega) (c :: r) (Nat.le_refl _)
      rw [sumL_cons, sumL_cons]
      have e : rgs (a :: b :: c :: r) = plc 1 a ++ .sp :: .mk [46, 46] :: .sp :: (plc 1 b ++ .mk [44] :: .sp :: rgs (c :: r)) := by
        rw [rgs]
        intro e; cases e
      rw [e]
      simp only [lnP, txP_app, txP_cons, Pc.tx, List.length_append, List.length_cons, List.length_nil] at *
      omega
def Bd (e : Ex) : Prop := lnP (bare e) + 20 ≤ 60 * sz e
theorem sumL_bx : ∀ (r : List Ex), (∀ a ∈ r, Bd a) → sumL (r.map bx) + 20 * r.length ≤ 60 * szs r
  | [], _ => by simp [sumL]
  | a :: r, h => by
    have h1 := h a (by simp)
    have h2 := sumL_bx r (fun b hb => h b (by simp [hb]))
    rw [List.map_cons, sumL_cons, szs_cons, List.length_cons]
    unfold Bd at h1
    show lnP (bare a) + _ + _ ≤ _
    omega
theorem nmB_len {s : List UInt8} (h : nmB s = true) : s.length ≤ 16 := (nm_parts h).2.2.2
theorem varB_len {s : List UInt8} (h : varB s = true) : s.length ≤ 19 := by
  unfold varB at h
  rw [Bool.or_eq_true] at h
  rcases h with h | h
  · obtain ⟨r, d, rfl, hr, _⟩ := elm_parts h
    have := nmB_len hr
    simp only [List.length_append, List.length_cons, List.length_nil]; omega
  · have := nmB_len h; omega
theorem bd_form {o n : Int} {s : ByteArray} {ks : List Ex} (h : Sh o n s ks) (hk : ∀ a ∈ ks, Bd a) : Bd (.mk o n s ks) := by
  unfold Bd
  rw [bare_mk, sz_mk]
  cases h with
  | con _ h0 h1 =>
    have := Lib.itoa_length_le n (by omega) (by omega)
    show lnP [.wd 3 n (Lib.itoa n)] + 20 ≤ _
    simp only [lnP, txP_cons, txP_nil, Pc.tx, List.append_nil]
    rw [szs_nil]; omega
  | var _ h =>
    rw [szs_nil]
    show lnP (varP s.data.toList) + 20 ≤ _
    have hl := varB_len h
    unfold varP
    split
    · simp only [lnP, txP_cons, txP_nil, Pc.tx, List.length_append, List.length_cons, List.length_nil, List.length_take]; omega
    · simp only [lnP, txP_cons, txP_nil, Pc.tx, List.append_nil]; omega
  | sum _ h =>
    rw [szs_nil]
    have hl := nmB_len h
    show lnP [.wd 1 0 sumW, .mk [40], .wd 1 0 s.data.toList, .mk [41]] + 20 ≤ _
    simp only [lnP, txP_cons, txP_nil, Pc.tx, sumW, List.length_append, List.length_cons, List.length_nil]; omega
  | elm _ a h =>
    have h1 := hk a (by simp)
    have hl := nmB_len h
    have h2 := lnP_plc 1 (bx a)
    unfold Bd at h1
    rw [szs_cons, szs_nil]
    show lnP (.wd 1 0 s.data.toList :: .mk [91] :: (plc 1 (bx a) ++ [.mk [93]])) + 20 ≤ _
    have h3 : (bx a).2 = bare a := rfl
    rw [h3] at h2
    simp only [lnP, txP_cons, txP_app, txP_nil, Pc.tx, List.length_append, List.length_cons, List.length_nil] at *; omega
  | ons a =>
    have h1 := hk a (by simp)
    have h2 := lnP_plc 1 (bx a)
    unfold Bd at h1
    rw [szs_cons, szs_nil]
    show lnP (.wd 1 0 onesW :: .mk [40] :: (plc 1 (bx a) ++ [.mk [41]])) + 20 ≤ _
    have h3 : (bx a).2 = bare a := rfl
    rw [h3] at h2
    simp only [lnP, txP_cons, txP_app, txP_nil, Pc.tx, onesW, List.length_append, List.length_cons, List.length_nil] at *; omega
  | pre _ a ho =>
    have h1 := hk a (by simp)
    have h2 := lnP_plc 13 (bx a)
    unfold Bd at h1
    rw [szs_cons, szs_nil, List.map_cons, List.map_nil, form_pre ho]
    have h3 : (bx a).2 = bare a := rfl
    have h4 : (pMark o).length ≤ 1 := by rcases ho with rfl | rfl | rfl <;> decide
    rw [h3] at h2
    simp only [lnP, txP_cons, Pc.tx, List.length_append] at *; omega
  | bin _ a b ho ho' =>
    have h1 := hk a (by simp)
    have h1' := hk b (by simp)
    have h2 := lnP_plc (lPl o) (bx a)
    have h2' := lnP_plc (rPl o) (bx b)
    unfold Bd at h1 h1'
    rw [szs_cons, szs_cons, szs_nil, List.map_cons, List.map_cons, List.map_nil, form_bin ho ho']
    have h3 : (bx a).2 = bare a := rfl
    have h3' : (bx b).2 = bare b := rfl
    have h4 : (bMark o).length ≤ 2 := by rcases mk_len (bMark_mk ho ho') with g | g <;> omega
    rw [h3] at h2
    rw [h3'] at h2'
    simp only [two, lnP, txP_app, txP_cons, Pc.tx, List.length_append, List.length_cons, List.length_nil] at *; omega
  | iff a b c =>
    have h1 := hk a (by simp)
    have h1' := hk b (by simp)
    have h1'' := hk c (by simp)
    have h2 := lnP_plc 2 (bx a)
    have h2' := lnP_plc 1 (bx b)
    have h2'' := lnP_plc 1 (bx c)
    unfold Bd at h1 h1' h1''
    rw [szs_cons, szs_cons, szs_cons, szs_nil]
    show lnP (thr (bx a) (bx b) (bx c)) + 20 ≤ _
    have h3 : (bx a).2 = bare a := rfl
    have h3' : (bx b).2 = bare b := rfl
    have h3'' : (bx c).2 = bare c := rfl
    rw [h3] at h2
    rw [h3'] at h2'
    rw [h3''] at h2''
    simp only [thr, lnP, txP_app, txP_cons, Pc.tx, List.length_append, List.length_cons, List.length_nil] at *; omega
  | ins a r =>
    have h1 := hk a (by simp)
    have h2 := lnP_plc 9 (bx a)
    have h4 := lnP_rgs _ (r.map bx) (Nat.le_refl _)
    have h5 := sumL_bx r (fun b hb => hk b (by simp [hb]))
    unfold Bd at h1
    rw [szs_cons]
    show lnP (ins (bx a) (r.map bx)) + 20 ≤ _
    have h3 : (bx a).2 = bare a := rfl
    rw [h3] at h2
    rw [List.length_map] at h4
    simp only [ins, insW, lnP, txP_app, txP_cons, txP_nil, Pc.tx, List.length_append, List.length_cons, List.length_nil] at *; omega
theorem prn_len (e : Ex) : Ok e → Bd e := by
  induction e using Ex.ind with
  | h o n s ks ih =>
    intro h
    obtain ⟨h1, h2⟩ := (ok_mk o n s ks).1 h
    exact bd_form (shape h1) (fun a ha => ih a ha (h2 a ha))
end Go.Proofs.YtlnomiiphlbamaaGreatDoor.EtM
namespace Go.Proofs.YtlnomiiphlbamaaGreatDoor.EtW
open Go Go.RowKit Go.Proofs.YtlnomiiphlbamaaGreatDoor.NumM Go.Proofs.YtlnomiiphlbamaaGreatDoor.LexW Go.Proofs.YtlnomiiphlbamaaGreatDoor.LexM Go.Proofs.YtlnomiiphlbamaaGreatDoor.ExM Go.Proofs.YtlnomiiphlbamaaGreatDoor.ExW Go.Proofs.YtlnomiiphlbamaaGreatDoor.EtM

/-- A text is returned. -/
def tSt (l : List UInt8) (w : World) (e : Ending) (w' : World) : Prop := e = .returned (.string (mb l)) ∧ Below w.heap.size w w'
theorem tSt_mk {l : List UInt8} {w w' : World} {s : ByteArray} (h : s.data.toList = l) (hb : Below w.heap.size w w') : tSt l w (.returned (.string s)) w' := ⟨by rw [← h], hb⟩
theorem mb_len (l : List UInt8) : (mb l).size = l.length := rfl
set_option maxRecDepth 100000 in
set_option maxHeartbeats 2000000 in
theorem varText_any (s : ByteArray) (w : World) (hv : varB s.data.toList = true) : Calls Tryz.prog 72 #[.string s] w (tSt (txP (varP s.data.toList)) w) := by
  have hl := varB_len hv
  have hsl : s.data.toList.length = s.size := by simp
  obtain ⟨t, b, f, hcut, C0⟩ := cutCode s (by omega)
  have C := Lib.hid C0
  obtain ⟨ht, hb, hno, hf⟩ := hcut
  clear C0
  rcases hf with ⟨rfl, he⟩ | ⟨rfl, he⟩
  · have hv2 := hv
    rw [he, var_some hno, Bool.and_eq_true] at hv2
    obtain ⟨d, hd, _⟩ := idx_iff.1 hv2.2
    have hel : elmB s.data.toList = true := elm_iff.2 ⟨t.data.toList, d, by rw [he, hd], by have := idx_iff.1 hv2.2; obtain ⟨d', hd', h1⟩ := this; rw [hd] at hd'; simp at hd'; rw [hd']; exact h1, hv2.1⟩
    have hvp : varP s.data.toList = [.wd 1 0 t.data.toList, .mk [64], .wd 3 (d.toNat - 48) [d]] := varP_elm (by rw [he, hd]) hel
    have HVP : Hid (txP (varP s.data.toList) = t.data.toList ++ 64 :: [d]) := Lib.hid (by rw [hvp]; simp [txP, Pc.tx])
    have htd : Lib.trimSuffix b.data.toList (⟨#[93]⟩ : ByteArray).data.toList = [d] := by
      rw [hd]
      simp [Lib.trimSuffix, Lib.hasSuffix]
    have TS : Hid (∀ w, Calls Tryz.prog 104 #[.string b, .string ⟨#[93]⟩] w fun e w' => e = .returned (.string ⟨#[d]⟩) ∧ w = w') := Lib.hid (fun w => (Tryz.strings_TrimSuffix b ⟨#[93]⟩ w (by omega)).mono fun e w' h => ⟨by rw [h.1, htd], h.2.symm⟩)
    have hts : t.size ≤ 19 := by omega
    have hd1 : (⟨#[d]⟩ : ByteArray).size = 1 := rfl
    clear hv hv2 he hd hel hvp hl htd
    go_enter Tryz.func72, Tryz.ntmps72
    go_wp2_with (first
      | (go_at_call 100; ((with_reducible refine (C.out _).mono ?_); rintro e w1 ⟨rfl, hb⟩; have HB := Lib.hid hb; clear hb))
      | (go_at_call 104; ((with_reducible refine (TS.out _).mono ?_); rintro e w2 ⟨rfl, rfl⟩; skip)))
    go_ret
    exact tSt_mk (by rw [HVP.out]; simp [ByteArray.data_append]) HB.out
  · have hno2 : (91 : UInt8) ∉ s.data.toList := by rw [← he]; exact hno
    have hnm : elmB s.data.toList = false := by
      cases h : elmB s.data.toList with
      | false => rfl
      | true =>
        obtain ⟨r, d, e, _⟩ := elm_iff.1 h
        exact absurd (by rw [e]; simp) hno2
    have HVP : Hid (txP (varP s.data.toList) = s.data.toList) := Lib.hid (by unfold varP; rw [hnm]; simp [txP, Pc.tx])
    clear hv he hno2 hnm hl
    go_enter Tryz.func72, Tryz.ntmps72
    go_wp2_with (go_at_call 100; ((with_reducible refine (C.out _).mono ?_); rintro e w1 ⟨rfl, hb⟩; have HB := Lib.hid hb; clear hb))
    go_ret
    exact tSt_mk (by rw [HVP.out]) HB.out
/-- What is said of bare: of an expression in whatever memory. -/
def BareC (a : Ex) : Prop := ∀ (N : Nat) (w : World) (v : Value), ExAt N w v a → N ≤ w.heap.size → TabE w → Calls Tryz.prog 35 #[v] w (tSt (txP (bare a)) w)
set_option maxRecDepth 100000 in
set_option maxHeartbeats 2000000 in
theorem text_of {a : Ex} (hB : BareC a) (hlen : lnP (bare a) ≤ 200000000) (lv : Int) (N : Nat) (w : World) (v : Value) (hx : ExAt N w v a) (hN : N ≤ w.heap.size) (ht : TabE w) : Calls Tryz.prog 17 #[v, .int .i64 lv] w (tSt (txP (plc lv (bx a))) w) := by
  obtain ⟨p, c, pl, cl, rfl, hs, _⟩ := hx.form
  have W1 : Below w.heap.size w (w.alloc (.cells #[.int .i64 a.op, .int .i64 a.n, .string a.nm, .slice p a.args.length c] 24)) := (Below.refl _ _).alloc (Nat.le_refl _) _
  have F1 := Four.new w (.int .i64 a.op) (.int .i64 a.n) (.string a.nm) (.slice p a.args.length c) 24
  have LC := Lib.hid (levelOf_any a.op _ (ht.later W1))
  have BC := Lib.hid (fun W (hW : Below (w.alloc (.cells #[.int .i64 a.op, .int .i64 a.n, .string a.nm, .slice p a.args.length c] 24)).heap.size (w.alloc (.cells #[.int .i64 a.op, .int .i64 a.n, .string a.nm, .slice p a.args.length c] 24)) W) => hB N W _ ((hx.under (W1.mono hN)).under (hW.mono (by rw [World.size_alloc]; omega))) (Nat.le_trans hN (Nat.le_trans W1.size hW.size)) (ht.later (W1.then_ hW)))
  have HP : Hid (txP (plc lv (bx a)) = if lvS a.op < lv then 40 :: (txP (bare a) ++ [41]) else txP (bare a)) := Lib.hid (txP_plc lv (bx a))
  rw [HP.out]
  clear HP
  have HW1 := Lib.hid W1
  have HF1 := Lib.hid F1
  have c0 := F1.c0
  clear hx hB W1 F1 ht hs
  show Calls _ _ #[.agg #[.int .i64 a.op, .int .i64 a.n, .string a.nm, .slice p a.args.length c], .int .i64 lv] w _
  obtain ⟨T, hT⟩ : ∃ T, txP (bare a) = T := ⟨_, rfl⟩
  unfold lnP at hlen
  rw [hT] at BC hlen ⊢
  clear hT
  generalize a.op = o at *
  generalize a.n = n at *
  generalize a.nm = s at *
  generalize a.args.length = k at *
  have hml : (mb T).size ≤ 200000000 := hlen
  by_cases g : lvS o < lv
  · rw [if_pos g]
    go_enter Tryz.func17, Tryz.ntmps17
    go_wp2_with (first
      | (go_at_call 34; ((with_reducible refine LC.out.mono ?_); rintro e w2 ⟨rfl, hb⟩; have F2 := HF1.out.stay hb; clear c0; have c0 := F2.c0; have c1 := F2.c1; have c2 := F2.c2; have c3 := F2.c3; have BD := Lib.hid (BC.out _ hb); have HB := Lib.hid (HW1.out.then_ hb); clear hb F2))
      | (go_at_call 35; ((with_reducible refine BD.out.mono ?_); rintro e w3 ⟨rfl, hb⟩; have HB2 := Lib.hid (HB.out.then_ hb); clear hb)))
    go_ret
    exact tSt_mk (by simp [ByteArray.data_append]) HB2.out
  · rw [if_neg g]
    go_enter Tryz.func17, Tryz.ntmps17
    go_wp2_with (first
      | (go_at_call 34; ((with_reducible refine LC.out.mono ?_); rintro e w2 ⟨rfl, hb⟩; have F2 := HF1.out.stay hb; clear c0; have c0 := F2.c0; have c1 := F2.c1; have c2 := F2.c2; have c3 := F2.c3; have BD := Lib.hid (BC.out _ hb); have HB := Lib.hid (HW1.out.then_ hb); clear hb F2))
      | (go_at_call 35; ((with_reducible refine BD.out.mono ?_); rintro e w3 ⟨rfl, hb⟩; have HB2 := Lib.hid (HB.out.then_ hb); clear hb)))
    go_ret
    exact ⟨rfl, HB2.out⟩
end Go.Proofs.YtlnomiiphlbamaaGreatDoor.EtW
namespace Go.Proofs.YtlnomiiphlbamaaGreatDoor.EtW
open Go Go.RowKit Go.Proofs.YtlnomiiphlbamaaGreatDoor.NumM Go.Proofs.YtlnomiiphlbamaaGreatDoor.LexW Go.Proofs.YtlnomiiphlbamaaGreatDoor.LexM Go.Proofs.YtlnomiiphlbamaaGreatDoor.ExM Go.Proofs.YtlnomiiphlbamaaGreatDoor.ExW Go.Proofs.YtlnomiiphlbamaaGreatDoor.EtM

set_option maxRecDepth 100000 in
set_option maxHeartbeats 4000000 in
theorem bare_ons {A1 : Ex} (hA1 : BareC A1) (lA1 : lnP (bare A1) ≤ 200000000) : BareC (.mk 25 0 ⟨#[]⟩ [A1]) := by
  intro N w v hx hN ht
  obtain ⟨p, c, pl, cl, rfl, hs, ha⟩ := hx.form
  simp only [Ex.op, Ex.n, Ex.nm, Ex.args, List.length_cons, List.length_nil, Nat.zero_add] at hs ha ⊢
  obtain ⟨b, off, rfl, hbs, hcell⟩ := ha.hp (by simp)
  have W1 : Below w.heap.size w (w.alloc (.cells #[.int .i64 25, .int .i64 0, .string ⟨#[]⟩, .slice (some ⟨b, off, none⟩) 1 c] 24)) := (Below.refl _ _).alloc (Nat.le_refl _) _
  have F1 := Four.new w (.int .i64 25) (.int .i64 0) (.string ⟨#[]⟩) (.slice (some ⟨b, off, none⟩) 1 c) 24
  have x0 := ha.hx 0 A1 rfl
  obtain ⟨q0, q1, q2, q3⟩ := hcell 0 A1 rfl
  have d00 : (w.alloc (.cells #[.int .i64 25, .int .i64 0, .string ⟨#[]⟩, .slice (some ⟨b, off, none⟩) 1 c] 24)).cell? ⟨b, off, none⟩ = some (.int .i64 A1.op) := (W1.cell (p := ⟨b, off, none⟩) (Nat.lt_of_lt_of_le hbs hN)).trans (by simpa [Nat.add_assoc] using q0)
  have d01 : (w.alloc (.cells #[.int .i64 25, .int .i64 0, .string ⟨#[]⟩, .slice (some ⟨b, off, none⟩) 1 c] 24)).cell? ⟨b, off + 1, none⟩ = some (.int .i64 A1.n) := (W1.cell (p := ⟨b, off + 1, none⟩) (Nat.lt_of_lt_of_le hbs hN)).trans (by simpa [Nat.add_assoc] using q1)
  have d02 : (w.alloc (.cells #[.int .i64 25, .int .i64 0, .string ⟨#[]⟩, .slice (some ⟨b, off, none⟩) 1 c] 24)).cell? ⟨b, off + 2, none⟩ = some (.string A1.nm) := (W1.cell (p := ⟨b, off + 2, none⟩) (Nat.lt_of_lt_of_le hbs hN)).trans (by simpa [Nat.add_assoc] using q2)
  have d03 : (w.alloc (.cells #[.int .i64 25, .int .i64 0, .string ⟨#[]⟩, .slice (some ⟨b, off, none⟩) 1 c] 24)).cell? ⟨b, off + 3, none⟩ = some (.slice (pl 0) A1.args.length (cl 0)) := (W1.cell (p := ⟨b, off + 3, none⟩) (Nat.lt_of_lt_of_le hbs hN)).trans (by simpa [Nat.add_assoc] using q3)
  have T0c := Lib.hid (fun W (hW : Below (w.alloc (.cells #[.int .i64 25, .int .i64 0, .string ⟨#[]⟩, .slice (some ⟨b, off, none⟩) 1 c] 24)).heap.size (w.alloc (.cells #[.int .i64 25, .int .i64 0, .string ⟨#[]⟩, .slice (some ⟨b, off, none⟩) 1 c] 24)) W) => text_of hA1 lA1 1 N W _ ((x0.under (W1.mono hN)).under (hW.mono (by rw [World.size_alloc]; omega))) (Nat.le_trans hN (Nat.le_trans W1.size hW.size)) (ht.later (W1.then_ hW)))
  have m0 := lnP_plc 1 (bx A1)
  have m0' : lnP (bx A1).2 = lnP (bare A1) := rfl
  rw [m0'] at m0
  unfold lnP at m0 lA1
  have HP : Hid (txP (bare (.mk 25 0 ⟨#[]⟩ [A1])) = onesW ++ 40 :: (txP (plc 1 (bx A1)) ++ [41])) := Lib.hid (by rw [bare_mk]; show txP (.wd 1 0 onesW :: .mk [40] :: (plc 1 (bx A1) ++ [.mk [41]])) = _; rw [txP_cons, txP_cons, txP_app]; rfl)
  obtain ⟨t0, ht0⟩ : ∃ T, txP (plc 1 (bx A1)) = T := ⟨_, rfl⟩
  rw [ht0] at T0c m0
  have ml0 : t0.length ≤ 200000010 := by omega
  rw [ht0] at HP
  rw [HP.out]
  clear HP
  show Calls _ _ #[.agg #[.int .i64 25, .int .i64 0, .string ⟨#[]⟩, .slice (some ⟨b, off, none⟩) 1 c]] w _
  obtain ⟨A1o, hA1o⟩ : ∃ x, A1.op = x := ⟨_, rfl⟩
  rw [hA1o] at T0c d00
  obtain ⟨A1n, hA1n⟩ : ∃ x, A1.n = x := ⟨_, rfl⟩
  rw [hA1n] at T0c d01
  obtain ⟨A1s, hA1s⟩ : ∃ x, A1.nm = x := ⟨_, rfl⟩
  rw [hA1s] at T0c d02
  obtain ⟨A1k, hA1k⟩ : ∃ x, A1.args.length = x := ⟨_, rfl⟩
  rw [hA1k] at T0c d03
  obtain ⟨A1p, hA1p⟩ : ∃ x, pl 0 = x := ⟨_, rfl⟩
  rw [hA1p] at T0c d03
  obtain ⟨A1c, hA1c⟩ : ∃ x, cl 0 = x := ⟨_, rfl⟩
  rw [hA1c] at T0c d03
  have e0 := F1.c0
  have e1 := F1.c1
  have e2 := F1.c2
  have e3 := F1.c3
  have HW1 := Lib.hid W1
  have KK := Lib.hid (fun W (hW : Below (w.alloc (.cells #[.int .i64 25, .int .i64 0, .string ⟨#[]⟩, .slice (some ⟨b, off, none⟩) 1 c] 24)).heap.size (w.alloc (.cells #[.int .i64 25, .int .i64 0, .string ⟨#[]⟩, .slice (some ⟨b, off, none⟩) 1 c] 24)) W) => And.intro ((F1.stay hW).c3) (And.intro ((hW.cell (p := ⟨b, off, none⟩) (cell_lt d00)).trans d00) (And.intro ((hW.cell (p := ⟨b, off + 1, none⟩) (cell_lt d01)).trans d01) (And.intro ((hW.cell (p := ⟨b, off + 2, none⟩) (cell_lt d02)).trans d02) ((hW.cell (p := ⟨b, off + 3, none⟩) (cell_lt d03)).trans d03)))))
  clear hx ha ht hs W1 hA1 lA1 x0 m0 m0' hA1o hA1n hA1s hA1k hA1p hA1c hcell q0 q1 q2 q3
  clear F1 ht0
  go_enter Tryz.func35, Tryz.ntmps35
  go_wp2_with (first | (go_at_call 17; (with_reducible refine (T0c.out _ ?_).mono ?_); (first | exact Below.refl _ _); rintro e w3 ⟨rfl, hb⟩; have HB0 := Lib.hid ((Below.refl _ _).then_ hb); have KN0 := KK.out _ HB0.out; clear hb))
  go_ret
  exact tSt_mk (by simp [ByteArray.data_append, onesW]) (HW1.out.then_ HB0.out)
set_option maxRecDepth 100000 in
set_option maxHeartbeats 4000000 in
theorem bare_elm {s : ByteArray} {A1 : Ex} (hn : nmB s.data.toList = true) (hA1 : BareC A1) (lA1 : lnP (bare A1) ≤ 200000000) : BareC (.mk 3 0 s [A1]) := by
  intro N w v hx hN ht
  obtain ⟨p, c, pl, cl, rfl, hs, ha⟩ := hx.form
  simp only [Ex.op, Ex.n, Ex.nm, Ex.args, List.length_cons, List.length_nil, Nat.zero_add] at hs ha ⊢
  obtain ⟨b, off, rfl, hbs, hcell⟩ := ha.hp (by simp)
  have W1 : Below w.heap.size w (w.alloc (.cells #[.int .i64 3, .int .i64 0, .string s, .slice (some ⟨b, off, none⟩) 1 c] 24)) := (Below.refl _ _).alloc (Nat.le_refl _) _
  have F1 := Four.new w (.int .i64 3) (.int .i64 0) (.string s) (.slice (some ⟨b, off, none⟩) 1 c) 24
  have x0 := ha.hx 0 A1 rfl
  obtain ⟨q0, q1, q2, q3⟩ := hcell 0 A1 rfl
  have d00 : (w.alloc (.cells #[.int .i64 3, .int .i64 0, .string s, .slice (some ⟨b, off, none⟩) 1 c] 24)).cell? ⟨b, off, none⟩ = some (.int .i64 A1.op) := (W1.cell (p := ⟨b, off, none⟩) (Nat.lt_of_lt_of_le hbs hN)).trans (by simpa [Nat.add_assoc] using q0)
  have d01 : (w.alloc (.cells #[.int .i64 3, .int .i64 0, .string s, .slice (some ⟨b, off, none⟩) 1 c] 24)).cell? ⟨b, off + 1, none⟩ = some (.int .i64 A1.n) := (W1.cell (p := ⟨b, off + 1, none⟩) (Nat.lt_of_lt_of_le hbs hN)).trans (by simpa [Nat.add_assoc] using q1)
  have d02 : (w.alloc (.cells #[.int .i64 3, .int .i64 0, .string s, .slice (some ⟨b, off, none⟩) 1 c] 24)).cell? ⟨b, off + 2, none⟩ = some (.string A1.nm) := (W1.cell (p := ⟨b, off + 2, none⟩) (Nat.lt_of_lt_of_le hbs hN)).trans (by simpa [Nat.add_assoc] using q2)
  have d03 : (w.alloc (.cells #[.int .i64 3, .int .i64 0, .string s, .slice (some ⟨b, off, none⟩) 1 c] 24)).cell? ⟨b, off + 3, none⟩ = some (.slice (pl 0) A1.args.length (cl 0)) := (W1.cell (p := ⟨b, off + 3, none⟩) (Nat.lt_of_lt_of_le hbs hN)).trans (by simpa [Nat.add_assoc] using q3)
  have T0c := Lib.hid (fun W (hW : Below (w.alloc (.cells #[.int .i64 3, .int .i64 0, .string s, .slice (some ⟨b, off, none⟩) 1 c] 24)).heap.size (w.alloc (.cells #[.int .i64 3, .int .i64 0, .string s, .slice (some ⟨b, off, none⟩) 1 c] 24)) W) => text_of hA1 lA1 1 N W _ ((x0.under (W1.mono hN)).under (hW.mono (by rw [World.size_alloc]; omega))) (Nat.le_trans hN (Nat.le_trans W1.size hW.size)) (ht.later (W1.then_ hW)))
  have m0 := lnP_plc 1 (bx A1)
  have m0' : lnP (bx A1).2 = lnP (bare A1) := rfl
  rw [m0'] at m0
  unfold lnP at m0 lA1
  have HP : Hid (txP (bare (.mk 3 0 s [A1])) = s.data.toList ++ 91 :: (txP (plc 1 (bx A1)) ++ [93])) := Lib.hid (by rw [bare_mk]; show txP (.wd 1 0 s.data.toList :: .mk [91] :: (plc 1 (bx A1) ++ [.mk [93]])) = _; rw [txP_cons, txP_cons, txP_app]; rfl)
  obtain ⟨t0, ht0⟩ : ∃ T, txP (plc 1 (bx A1)) = T := ⟨_, rfl⟩
  rw [ht0] at T0c m0
  have ml0 : t0.length ≤ 200000010 := by omega
  rw [ht0] at HP
  rw [HP.out]
  clear HP
  show Calls _ _ #[.agg #[.int .i64 3, .int .i64 0, .string s, .slice (some ⟨b, off, none⟩) 1 c]] w _
  obtain ⟨A1o, hA1o⟩ : ∃ x, A1.op = x := ⟨_, rfl⟩
  rw [hA1o] at T0c d00
  obtain ⟨A1n, hA1n⟩ : ∃ x, A1.n = x := ⟨_, rfl⟩
  rw [hA1n] at T0c d01
  obtain ⟨A1s, hA1s⟩ : ∃ x, A1.nm = x := ⟨_, rfl⟩
  rw [hA1s] at T0c d02
  obtain ⟨A1k, hA1k⟩ : ∃ x, A1.args.length = x := ⟨_, rfl⟩
  rw [hA1k] at T0c d03
  obtain ⟨A1p, hA1p⟩ : ∃ x, pl 0 = x := ⟨_, rfl⟩
  rw [hA1p] at T0c d03
  obtain ⟨A1c, hA1c⟩ : ∃ x, cl 0 = x := ⟨_, rfl⟩
  rw [hA1c] at T0c d03
  have e0 := F1.c0
  have e1 := F1.c1
  have e2 := F1.c2
  have e3 := F1.c3
  have HW1 := Lib.hid W1
  have KK := Lib.hid (fun W (hW : Below (w.alloc (.cells #[.int .i64 3, .int .i64 0, .string s, .slice (some ⟨b, off, none⟩) 1 c] 24)).heap.size (w.alloc (.cells #[.int .i64 3, .int .i64 0, .string s, .slice (some ⟨b, off, none⟩) 1 c] 24)) W) => And.intro ((F1.stay hW).c2) (And.intro ((F1.stay hW).c3) (And.intro ((hW.cell (p := ⟨b, off, none⟩) (cell_lt d00)).trans d00) (And.intro ((hW.cell (p := ⟨b, off + 1, none⟩) (cell_lt d01)).trans d01) (And.intro ((hW.cell (p := ⟨b, off + 2, none⟩) (cell_lt d02)).trans d02) ((hW.cell (p := ⟨b, off + 3, none⟩) (cell_lt d03)).trans d03))))))
  have hsl : s.size ≤ 16 := nmB_len hn
  clear hn
  have z0 : ¬ 9223372036854775807 < s.size + 1 := by omega
  have z1 : ¬ 9223372036854775807 < s.size + 1 + t0.length := by omega
  have z2 : ¬ 9223372036854775807 < s.size + 1 + t0.length + 1 := by omega
  clear hx ha ht hs W1 hA1 lA1 x0 m0 m0' hA1o hA1n hA1s hA1k hA1p hA1c hcell q0 q1 q2 q3
  clear F1 ht0
  go_enter Tryz.func35, Tryz.ntmps35
  go_wp2
  go_region_held3 (fun w' => w'.cell? ⟨w.heap.size, 2, none⟩ = some (.string s) ∧ w'.cell? ⟨w.heap.size, 3, none⟩ = some (.slice (some ⟨b, off, none⟩) 1 c) ∧ w'.cell? ⟨b, off, none⟩ = some (.int .i64 A1o) ∧ w'.cell? ⟨b, off + 1, none⟩ = some (.int .i64 A1n) ∧ w'.cell? ⟨b, off + 2, none⟩ = some (.string A1s) ∧ w'.cell? ⟨b, off + 3, none⟩ = some (.slice A1p A1k A1c)) (first | exact KK.out _ (Below.refl _ _).drew | exact KK.out _ (Below.refl _ _) | exact KK.out _ HB0.out) (first | (go_at_call 17; (with_reducible refine (T0c.out _ ?_).mono ?_); (first | exact (Below.refl _ _).drew | exact Below.refl _ _); rintro e w3 ⟨rfl, hb⟩; have HB0 := Lib.hid (((Below.refl _ _).drew).then_ hb); have KN0 := KK.out _ HB0.out; clear hb))
  all_goals
    go_wp2
    go_ret
    exact tSt_mk (by simp [ByteArray.data_append]) (HW1.out.then_ HB0.out)
set_option maxRecDepth 100000 in
set_option maxHeartbeats 4000000 in
theorem bare_iff {A1 A2 A3 : Ex} (hA1 : BareC A1) (lA1 : lnP (bare A1) ≤ 200000000) (hA2 : BareC A2) (lA2 : lnP (bare A2) ≤ 200000000) (hA3 : BareC A3) (lA3 : lnP (bare A3) ≤ 200000000) : BareC (.mk 22 0 ⟨#[]⟩ [A1, A2, A3]) := by
  intro N w v hx hN ht
  obtain ⟨p, c, pl, cl, rfl, hs, ha⟩ := hx.form
  simp only [Ex.op, Ex.n, Ex.nm, Ex.args, List.length_cons, List.length_nil, Nat.zero_add, Nat.reduceAdd] at hs ha ⊢
  obtain ⟨b, off, rfl, hbs, hcell⟩ := ha.hp (by simp)
  have W1 : Below w.heap.size w (w.alloc (.cells #[.int .i64 22, .int .i64 0, .string ⟨#[]⟩, .slice (some ⟨b, off, none⟩) 3 c] 24)) := (Below.refl _ _).alloc (Nat.le_refl _) _
  have F1 := Four.new w (.int .i64 22) (.int .i64 0) (.string ⟨#[]⟩) (.slice (some ⟨b, off, none⟩) 3 c) 24
  have x0 := ha.hx 0 A1 rfl
  obtain ⟨q0, q1, q2, q3⟩ := hcell 0 A1 rfl
  have d00 : (w.alloc (.cells #[.int .i64 22, .int .i64 0, .string ⟨#[]⟩, .slice (some ⟨b, off, none⟩) 3 c] 24)).cell? ⟨b, off, none⟩ = some (.int .i64 A1.op) := (W1.cell (p := ⟨b, off, none⟩) (Nat.lt_of_lt_of_le hbs hN)).trans (by simpa [Nat.add_assoc] using q0)
  have d01 : (w.alloc (.cells #[.int .i64 22, .int .i64 0, .string ⟨#[]⟩, .slice (some ⟨b, off, none⟩) 3 c] 24)).cell? ⟨b, off + 1, none⟩ = some (.int .i64 A1.n) := (W1.cell (p := ⟨b, off + 1, none⟩) (Nat.lt_of_lt_of_le hbs hN)).trans (by simpa [Nat.add_assoc] using q1)
  have d02 : (w.alloc (.cells #[.int .i64 22, .int .i64 0, .string ⟨#[]⟩, .slice (some ⟨b, off, none⟩) 3 c] 24)).cell? ⟨b, off + 2, none⟩ = some (.string A1.nm) := (W1.cell (p := ⟨b, off + 2, none⟩) (Nat.lt_of_lt_of_le hbs hN)).trans (by simpa [Nat.add_assoc] using q2)
  have d03 : (w.alloc (.cells #[.int .i64 22, .int .i64 0, .string ⟨#[]⟩, .slice (some ⟨b, off, none⟩) 3 c] 24)).cell? ⟨b, off + 3, none⟩ = some (.slice (pl 0) A1.args.length (cl 0)) := (W1.cell (p := ⟨b, off + 3, none⟩) (Nat.lt_of_lt_of_le hbs hN)).trans (by simpa [Nat.add_assoc] using q3)
  have T0c := Lib.hid (fun W (hW : Below (w.alloc (.cells #[.int .i64 22, .int .i64 0, .string ⟨#[]⟩, .slice (some ⟨b, off, none⟩) 3 c] 24)).heap.size (w.alloc (.cells #[.int .i64 22, .int .i64 0, .string ⟨#[]⟩, .slice (some ⟨b, off, none⟩) 3 c] 24)) W) => text_of hA1 lA1 2 N W _ ((x0.under (W1.mono hN)).under (hW.mono (by rw [World.size_alloc]; omega))) (Nat.le_trans hN (Nat.le_trans W1.size hW.size)) (ht.later (W1.then_ hW)))
  have m0 := lnP_plc 2 (bx A1)
  have m0' : lnP (bx A1).2 = lnP (bare A1) := rfl
  rw [m0'] at m0
  unfold lnP at m0 lA1
  have x1 := ha.hx 1 A2 rfl
  obtain ⟨q0, q1, q2, q3⟩ := hcell 1 A2 rfl
  have d10 : (w.alloc (.cells #[.int .i64 22, .int .i64 0, .string ⟨#[]⟩, .slice (some ⟨b, off, none⟩) 3 c] 24)).cell? ⟨b, off + 4, none⟩ = some (.int .i64 A2.op) := (W1.cell (p := ⟨b, off + 4, none⟩) (Nat.lt_of_lt_of_le hbs hN)).trans (by simpa [Nat.add_assoc] using q0)
  have d11 : (w.alloc (.cells #[.int .i64 22, .int .i64 0, .string ⟨#[]⟩, .slice (some ⟨b, off, none⟩) 3 c] 24)).cell? ⟨b, off + 5, none⟩ = some (.int .i64 A2.n) := (W1.cell (p := ⟨b, off + 5, none⟩) (Nat.lt_of_lt_of_le hbs hN)).trans (by simpa [Nat.add_assoc] using q1)
  have d12 : (w.alloc (.cells #[.int .i64 22, .int .i64 0, .string ⟨#[]⟩, .slice (some ⟨b, off, none⟩) 3 c] 24)).cell? ⟨b, off + 6, none⟩ = some (.string A2.nm) := (W1.cell (p := ⟨b, off + 6, none⟩) (Nat.lt_of_lt_of_le hbs hN)).trans (by simpa [Nat.add_assoc] using q2)
  have d13 : (w.alloc (.cells #[.int .i64 22, .int .i64 0, .string ⟨#[]⟩, .slice (some ⟨b, off, none⟩) 3 c] 24)).cell? ⟨b, off + 7, none⟩ = some (.slice (pl 1) A2.args.length (cl 1)) := (W1.cell (p := ⟨b, off + 7, none⟩) (Nat.lt_of_lt_of_le hbs hN)).trans (by simpa [Nat.add_assoc] using q3)
  have T1c := Lib.hid (fun W (hW : Below (w.alloc (.cells #[.int .i64 22, .int .i64 0, .string ⟨#[]⟩, .slice (some ⟨b, off, none⟩) 3 c] 24)).heap.size (w.alloc (.cells #[.int .i64 22, .int .i64 0, .string ⟨#[]⟩, .slice (some ⟨b, off, none⟩) 3 c] 24)) W) => text_of hA2 lA2 1 N W _ ((x1.under (W1.mono hN)).under (hW.mono (by rw [World.size_alloc]; omega))) (Nat.le_trans hN (Nat.le_trans W1.size hW.size)) (ht.later (W1.then_ hW)))
  have m1 := lnP_plc 1 (bx A2)
  have m1' : lnP (bx A2).2 = lnP (bare A2) := rfl
  rw [m1'] at m1
  unfold lnP at m1 lA2
  have x2 := ha.hx 2 A3 rfl
  obtain ⟨q0, q1, q2, q3⟩ := hcell 2 A3 rfl
  have d20 : (w.alloc (.cells #[.int .i64 22, .int .i64 0, .string ⟨#[]⟩, .slice (some ⟨b, off, none⟩) 3 c] 24)).cell? ⟨b, off + 8, none⟩ = some (.int .i64 A3.op) := (W1.cell (p := ⟨b, off + 8, none⟩) (Nat.lt_of_lt_of_le hbs hN)).trans (by simpa [Nat.add_assoc] using q0)
  have d21 : (w.alloc (.cells #[.int .i64 22, .int .i64 0, .string ⟨#[]⟩, .slice (some ⟨b, off, none⟩) 3 c] 24)).cell? ⟨b, off + 9, none⟩ = some (.int .i64 A3.n) := (W1.cell (p := ⟨b, off + 9, none⟩) (Nat.lt_of_lt_of_le hbs hN)).trans (by simpa [Nat.add_assoc] using q1)
  have d22 : (w.alloc (.cells #[.int .i64 22, .int .i64 0, .string ⟨#[]⟩, .slice (some ⟨b, off, none⟩) 3 c] 24)).cell? ⟨b, off + 10, none⟩ = some (.string A3.nm) := (W1.cell (p := ⟨b, off + 10, none⟩) (Nat.lt_of_lt_of_le hbs hN)).trans (by simpa [Nat.add_assoc] using q2)
  have d23 : (w.alloc (.cells #[.int .i64 22, .int .i64 0, .string ⟨#[]⟩, .slice (some ⟨b, off, none⟩) 3 c] 24)).cell? ⟨b, off + 11, none⟩ = some (.slice (pl 2) A3.args.length (cl 2)) := (W1.cell (p := ⟨b, off + 11, none⟩) (Nat.lt_of_lt_of_le hbs hN)).trans (by simpa [Nat.add_assoc] using q3)
  have T2c := Lib.hid (fun W (hW : Below (w.alloc (.cells #[.int .i64 22, .int .i64 0, .string ⟨#[]⟩, .slice (some ⟨b, off, none⟩) 3 c] 24)).heap.size (w.alloc (.cells #[.int .i64 22, .int .i64 0, .string ⟨#[]⟩, .slice (some ⟨b, off, none⟩) 3 c] 24)) W) => text_of hA3 lA3 1 N W _ ((x2.under (W1.mono hN)).under (hW.mono (by rw [World.size_alloc]; omega))) (Nat.le_trans hN (Nat.le_trans W1.size hW.size)) (ht.later (W1.then_ hW)))
  have m2 := lnP_plc 1 (bx A3)
  have m2' : lnP (bx A3).2 = lnP (bare A3) := rfl
  rw [m2'] at m2
  unfold lnP at m2 lA3
  have HP : Hid (txP (bare (.mk 22 0 ⟨#[]⟩ [A1, A2, A3])) = txP (plc 2 (bx A1)) ++ 32 :: 63 :: 32 :: (txP (plc 1 (bx A2)) ++ 32 :: 58 :: 32 :: txP (plc 1 (bx A3)))) := Lib.hid (by rw [bare_mk]; show txP (thr (bx A1) (bx A2) (bx A3)) = _; unfold thr; rw [txP_app, txP_cons, txP_cons, txP_cons, txP_app, txP_cons, txP_cons, txP_cons]; rfl)
  obtain ⟨t0, ht0⟩ : ∃ T, txP (plc 2 (bx A1)) = T := ⟨_, rfl⟩
  rw [ht0] at T0c m0
  obtain ⟨t1, ht1⟩ : ∃ T, txP (plc 1 (bx A2)) = T := ⟨_, rfl⟩
  rw [ht1] at T1c m1
  obtain ⟨t2, ht2⟩ : ∃ T, txP (plc 1 (bx A3)) = T := ⟨_, rfl⟩
  rw [ht2] at T2c m2
  have ml0 : t0.length ≤ 200000010 := by omega
  have ml1 : t1.length ≤ 200000010 := by omega
  have ml2 : t2.length ≤ 200000010 := by omega
  rw [ht0] at HP
  rw [ht1] at HP
  rw [ht2] at HP
  rw [HP.out]
  clear HP
  show Calls _ _ #[.agg #[.int .i64 22, .int .i64 0, .string ⟨#[]⟩, .slice (some ⟨b, off, none⟩) 3 c]] w _
  obtain ⟨A1o, hA1o⟩ : ∃ x, A1.op = x := ⟨_, rfl⟩
  rw [hA1o] at T0c d00
  obtain ⟨A1n, hA1n⟩ : ∃ x, A1.n = x := ⟨_, rfl⟩
  rw [hA1n] at T0c d01
  obtain ⟨A1s, hA1s⟩ : ∃ x, A1.nm = x := ⟨_, rfl⟩
  rw [hA1s] at T0c d02
  obtain ⟨A1k, hA1k⟩ : ∃ x, A1.args.length = x := ⟨_, rfl⟩
  rw [hA1k] at T0c d03
  obtain ⟨A1p, hA1p⟩ : ∃ x, pl 0 = x := ⟨_, rfl⟩
  rw [hA1p] at T0c d03
  obtain ⟨A1c, hA1c⟩ : ∃ x, cl 0 = x := ⟨_, rfl⟩
  rw [hA1c] at T0c d03
  obtain ⟨A2o, hA2o⟩ : ∃ x, A2.op = x := ⟨_, rfl⟩
  rw [hA2o] at T1c d10
  obtain ⟨A2n, hA2n⟩ : ∃ x, A2.n = x := ⟨_, rfl⟩
  rw [hA2n] at T1c d11
  obtain ⟨A2s, hA2s⟩ : ∃ x, A2.nm = x := ⟨_, rfl⟩
  rw [hA2s] at T1c d12
  obtain ⟨A2k, hA2k⟩ : ∃ x, A2.args.length = x := ⟨_, rfl⟩
  rw [hA2k] at T1c d13
  obtain ⟨A2p, hA2p⟩ : ∃ x, pl 1 = x := ⟨_, rfl⟩
  rw [hA2p] at T1c d13
  obtain ⟨A2c, hA2c⟩ : ∃ x, cl 1 = x := ⟨_, rfl⟩
  rw [hA2c] at T1c d13
  obtain ⟨A3o, hA3o⟩ : ∃ x, A3.op = x := ⟨_, rfl⟩
  rw [hA3o] at T2c d20
  obtain ⟨A3n, hA3n⟩ : ∃ x, A3.n = x := ⟨_, rfl⟩
  rw [hA3n] at T2c d21
  obtain ⟨A3s, hA3s⟩ : ∃ x, A3.nm = x := ⟨_, rfl⟩
  rw [hA3s] at T2c d22
  obtain ⟨A3k, hA3k⟩ : ∃ x, A3.args.length = x := ⟨_, rfl⟩
  rw [hA3k] at T2c d23
  obtain ⟨A3p, hA3p⟩ : ∃ x, pl 2 = x := ⟨_, rfl⟩
  rw [hA3p] at T2c d23
  obtain ⟨A3c, hA3c⟩ : ∃ x, cl 2 = x := ⟨_, rfl⟩
  rw [hA3c] at T2c d23
  have e0 := F1.c0
  have e1 := F1.c1
  have e2 := F1.c2
  have e3 := F1.c3
  have HW1 := Lib.hid W1
  have KK := Lib.hid (fun W (hW : Below (w.alloc (.cells #[.int .i64 22, .int .i64 0, .string ⟨#[]⟩, .slice (some ⟨b, off, none⟩) 3 c] 24)).heap.size (w.alloc (.cells #[.int .i64 22, .int .i64 0, .string ⟨#[]⟩, .slice (some ⟨b, off, none⟩) 3 c] 24)) W) => And.intro ((F1.stay hW).c3) (And.intro ((hW.cell (p := ⟨b, off, none⟩) (cell_lt d00)).trans d00) (And.intro ((hW.cell (p := ⟨b, off + 1, none⟩) (cell_lt d01)).trans d01) (And.intro ((hW.cell (p := ⟨b, off + 2, none⟩) (cell_lt d02)).trans d02) (And.intro ((hW.cell (p := ⟨b, off + 3, none⟩) (cell_lt d03)).trans d03) (And.intro ((hW.cell (p := ⟨b, off + 4, none⟩) (cell_lt d10)).trans d10) (And.intro ((hW.cell (p := ⟨b, off + 5, none⟩) (cell_lt d11)).trans d11) (And.intro ((hW.cell (p := ⟨b, off + 6, none⟩) (cell_lt d12)).trans d12) (And.intro ((hW.cell (p := ⟨b, off + 7, none⟩) (cell_lt d13)).trans d13) (And.intro ((hW.cell (p := ⟨b, off + 8, none⟩) (cell_lt d20)).trans d20) (And.intro ((hW.cell (p := ⟨b, off + 9, none⟩) (cell_lt d21)).trans d21) (And.intro ((hW.cell (p := ⟨b, off + 10, none⟩) (cell_lt d22)).trans d22) ((hW.cell (p := ⟨b, off + 11, none⟩) (cell_lt d23)).trans d23)))))))))))))
  have z0 : ¬ 9223372036854775807 < t0.length + 3 := by omega
  have z1 : ¬ 9223372036854775807 < t0.length + 3 + t1.length := by omega
  have z2 : ¬ 9223372036854775807 < t0.length + 3 + t1.length + 3 := by omega
  have z3 : ¬ 9223372036854775807 < t0.length + 3 + t1.length + 3 + t2.length := by omega
  clear hx ha ht hs W1 hA1 lA1 x0 m0 m0' hA1o hA1n hA1s hA1k hA1p hA1c hA2 lA2 x1 m1 m1' hA2o hA2n hA2s hA2k hA2p hA2c hA3 lA3 x2 m2 m2' hA3o hA3n hA3s hA3k hA3p hA3c hcell q0 q1 q2 q3
  clear F1 ht0 ht1 ht2
  go_enter Tryz.func35, Tryz.ntmps35
  go_wp2
  go_region_held3 (fun w' => w'.cell? ⟨w.heap.size, 3, none⟩ = some (.slice (some ⟨b, off, none⟩) 3 c) ∧ w'.cell? ⟨b, off, none⟩ = some (.int .i64 A1o) ∧ w'.cell? ⟨b, off + 1, none⟩ = some (.int .i64 A1n) ∧ w'.cell? ⟨b, off + 2, none⟩ = some (.string A1s) ∧ w'.cell? ⟨b, off + 3, none⟩ = some (.slice A1p A1k A1c) ∧ w'.cell? ⟨b, off + 4, none⟩ = some (.int .i64 A2o) ∧ w'.cell? ⟨b, off + 5, none⟩ = some (.int .i64 A2n) ∧ w'.cell? ⟨b, off + 6, none⟩ = some (.string A2s) ∧ w'.cell? ⟨b, off + 7, none⟩ = some (.slice A2p A2k A2c) ∧ w'.cell? ⟨b, off + 8, none⟩ = some (.int .i64 A3o) ∧ w'.cell? ⟨b, off + 9, none⟩ = some (.int .i64 A3n) ∧ w'.cell? ⟨b, off + 10, none⟩ = some (.string A3s) ∧ w'.cell? ⟨b, off + 11, none⟩ = some (.slice A3p A3k A3c)) (first | exact KK.out _ (Below.refl _ _).drew | exact KK.out _ (Below.refl _ _) | exact KK.out _ HB0.out | exact KK.out _ HB1.out | exact KK.out _ HB2.out) (first | (go_at_call 17; (with_reducible refine (T0c.out _ ?_).mono ?_); (first | exact (Below.refl _ _).drew | exact Below.refl _ _); rintro e w3 ⟨rfl, hb⟩; have HB0 := Lib.hid (((Below.refl _ _).drew).then_ hb); have KN0 := KK.out _ HB0.out; clear hb) | (go_at_call 17; (with_reducible refine (T1c.out _ ?_).mono ?_); (first | exact HB0.out); rintro e w4 ⟨rfl, hb⟩; have HB1 := Lib.hid ((HB0.out).then_ hb); have KN1 := KK.out _ HB1.out; clear hb) | (go_at_call 17; (with_reducible refine (T2c.out _ ?_).mono ?_); (first | exact HB1.out); rintro e w5 ⟨rfl, hb⟩; have HB2 := Lib.hid ((HB1.out).then_ hb); have KN2 := KK.out _ HB2.out; clear hb))
  all_goals
    go_wp2
    go_ret
    exact tSt_mk (by simp [ByteArray.data_append]) (HW1.out.then_ HB2.out)
end Go.Proofs.YtlnomiiphlbamaaGreatDoor.EtW
namespace Go.Proofs.YtlnomiiphlbamaaGreatDoor.EtW
open Go Go.RowKit Go.Proofs.YtlnomiiphlbamaaGreatDoor.NumM Go.Proofs.YtlnomiiphlbamaaGreatDoor.LexW Go.Proofs.YtlnomiiphlbamaaGreatDoor.LexM Go.Proofs.YtlnomiiphlbamaaGreatDoor.ExM Go.Proofs.YtlnomiiphlbamaaGreatDoor.ExW Go.Proofs.YtlnomiiphlbamaaGreatDoor.EtM

set_option maxRecDepth 100000 in
set_option maxHeartbeats 4000000 in
theorem bare_con {n : Int} (h0 : 0 ≤ n) (h1 : n ≤ 65535) : BareC (.mk 1 n ⟨#[]⟩ []) := by
  intro N w v hx hN ht
  obtain ⟨p, c, pl, cl, rfl, hs, ha⟩ := hx.form
  simp only [Ex.op, Ex.n, Ex.nm, Ex.args, List.length_nil] at hs ha ⊢
  have W1 : Below w.heap.size w (w.alloc (.cells #[.int .i64 1, .int .i64 n, .string ⟨#[]⟩, .slice p 0 c] 24)) := (Below.refl _ _).alloc (Nat.le_refl _) _
  have F1 := Four.new w (.int .i64 1) (.int .i64 n) (.string ⟨#[]⟩) (.slice p 0 c) 24
  have HP : Hid (txP (bare (.mk 1 n ⟨#[]⟩ [])) = Lib.itoa n) := Lib.hid (by rw [bare_mk]; show txP [.wd 3 n (Lib.itoa n)] = _; simp [txP, Pc.tx])
  rw [HP.out]
  show Calls _ _ #[.agg #[.int .i64 1, .int .i64 n, .string ⟨#[]⟩, .slice p 0 c]] w _
  have e0 := F1.c0
  have e1 := F1.c1
  have e2 := F1.c2
  have e3 := F1.c3
  have HW1 := Lib.hid W1
  have FC := Lib.hid (PackW.formatCode_any n _ (by omega) (by omega) (ht.later W1).pow)
  clear hx ha hs ht W1 F1 hN HP
  go_enter Tryz.func35, Tryz.ntmps35
  go_wp2_with (go_at_call 71; ((with_reducible refine FC.out.mono ?_); rintro e w2 ⟨rfl, hb⟩; have HB := Lib.hid hb; clear hb))
  go_ret
  exact ⟨rfl, HW1.out.then_ HB.out⟩
set_option maxRecDepth 100000 in
set_option maxHeartbeats 4000000 in
theorem bare_var {s : ByteArray} (hv : varB s.data.toList = true) : BareC (.mk 2 0 s []) := by
  intro N w v hx hN ht
  obtain ⟨p, c, pl, cl, rfl, hs, ha⟩ := hx.form
  simp only [Ex.op, Ex.n, Ex.nm, Ex.args, List.length_nil] at hs ha ⊢
  have W1 : Below w.heap.size w (w.alloc (.cells #[.int .i64 2, .int .i64 0, .string s, .slice p 0 c] 24)) := (Below.refl _ _).alloc (Nat.le_refl _) _
  have F1 := Four.new w (.int .i64 2) (.int .i64 0) (.string s) (.slice p 0 c) 24
  have HP : Hid (txP (bare (.mk 2 0 s [])) = txP (varP s.data.toList)) := Lib.hid (by rw [bare_mk]; rfl)
  rw [HP.out]
  show Calls _ _ #[.agg #[.int .i64 2, .int .i64 0, .string s, .slice p 0 c]] w _
  have e0 := F1.c0
  have e1 := F1.c1
  have e2 := F1.c2
  have e3 := F1.c3
  have HW1 := Lib.hid W1
  have VC := Lib.hid (varText_any s (w.alloc (.cells #[.int .i64 2, .int .i64 0, .string s, .slice p 0 c] 24)) hv)
  clear hv
  clear hx ha hs ht W1 F1 hN HP
  go_enter Tryz.func35, Tryz.ntmps35
  go_wp2_with (go_at_call 72; ((with_reducible refine VC.out.mono ?_); rintro e w2 ⟨rfl, hb⟩; have HB := Lib.hid hb; clear hb))
  go_ret
  exact ⟨rfl, HW1.out.then_ HB.out⟩
set_option maxRecDepth 100000 in
set_option maxHeartbeats 4000000 in
theorem bare_sum {s : ByteArray} (hn : nmB s.data.toList = true) : BareC (.mk 24 0 s []) := by
  intro N w v hx hN ht
  obtain ⟨p, c, pl, cl, rfl, hs, ha⟩ := hx.form
  simp only [Ex.op, Ex.n, Ex.nm, Ex.args, List.length_nil] at hs ha ⊢
  have W1 : Below w.heap.size w (w.alloc (.cells #[.int .i64 24, .int .i64 0, .string s, .slice p 0 c] 24)) := (Below.refl _ _).alloc (Nat.le_refl _) _
  have F1 := Four.new w (.int .i64 24) (.int .i64 0) (.string s) (.slice p 0 c) 24
  have HP : Hid (txP (bare (.mk 24 0 s [])) = sumW ++ 40 :: (s.data.toList ++ [41])) := Lib.hid (by rw [bare_mk]; show txP [.wd 1 0 sumW, .mk [40], .wd 1 0 s.data.toList, .mk [41]] = _; simp [txP, Pc.tx])
  rw [HP.out]
  show Calls _ _ #[.agg #[.int .i64 24, .int .i64 0, .string s, .slice p 0 c]] w _
  have e0 := F1.c0
  have e1 := F1.c1
  have e2 := F1.c2
  have e3 := F1.c3
  have HW1 := Lib.hid W1
  have hsl : s.size ≤ 16 := nmB_len hn
  clear hn
  have z0 : ¬ 9223372036854775807 < 4 + s.size := by omega
  have z1 : ¬ 9223372036854775807 < 4 + s.size + 1 := by omega
  clear hx ha hs ht W1 F1 hN HP
  go_enter Tryz.func35, Tryz.ntmps35
  go_wp2
  go_ret
  exact tSt_mk (by simp [ByteArray.data_append, sumW]) HW1.out
set_option maxRecDepth 100000 in
set_option maxHeartbeats 8000000 in
theorem bare_pre4 {A1 : Ex} (hA1 : BareC A1) (lA1 : lnP (bare A1) ≤ 200000000) : BareC (.mk 4 0 ⟨#[]⟩ [A1]) := by
  intro N w v hx hN ht
  obtain ⟨p, c, pl, cl, rfl, hs, ha⟩ := hx.form
  simp only [Ex.op, Ex.n, Ex.nm, Ex.args, List.length_cons, List.length_nil, Nat.zero_add] at hs ha ⊢
  obtain ⟨b, off, rfl, hbs, hcell⟩ := ha.hp (by simp)
  have W1 : Below w.heap.size w (w.alloc (.cells #[.int .i64 4, .int .i64 0, .string ⟨#[]⟩, .slice (some ⟨b, off, none⟩) 1 c] 24)) := (Below.refl _ _).alloc (Nat.le_refl _) _
  have F1 := Four.new w (.int .i64 4) (.int .i64 0) (.string ⟨#[]⟩) (.slice (some ⟨b, off, none⟩) 1 c) 24
  have x0 := ha.hx 0 A1 rfl
  obtain ⟨q0, q1, q2, q3⟩ := hcell 0 A1 rfl
  have d00 : (w.alloc (.cells #[.int .i64 4, .int .i64 0, .string ⟨#[]⟩, .slice (some ⟨b, off, none⟩) 1 c] 24)).cell? ⟨b, off, none⟩ = some (.int .i64 A1.op) := (W1.cell (p := ⟨b, off, none⟩) (Nat.lt_of_lt_of_le hbs hN)).trans (by simpa [Nat.add_assoc] using q0)
  have d01 : (w.alloc (.cells #[.int .i64 4, .int .i64 0, .string ⟨#[]⟩, .slice (some ⟨b, off, none⟩) 1 c] 24)).cell? ⟨b, off + 1, none⟩ = some (.int .i64 A1.n) := (W1.cell (p := ⟨b, off + 1, none⟩) (Nat.lt_of_lt_of_le hbs hN)).trans (by simpa [Nat.add_assoc] using q1)
  have d02 : (w.alloc (.cells #[.int .i64 4, .int .i64 0, .string ⟨#[]⟩, .slice (some ⟨b, off, none⟩) 1 c] 24)).cell? ⟨b, off + 2, none⟩ = some (.string A1.nm) := (W1.cell (p := ⟨b, off + 2, none⟩) (Nat.lt_of_lt_of_le hbs hN)).trans (by simpa [Nat.add_assoc] using q2)
  have d03 : (w.alloc (.cells #[.int .i64 4, .int .i64 0, .string ⟨#[]⟩, .slice (some ⟨b, off, none⟩) 1 c] 24)).cell? ⟨b, off + 3, none⟩ = some (.slice (pl 0) A1.args.length (cl 0)) := (W1.cell (p := ⟨b, off + 3, none⟩) (Nat.lt_of_lt_of_le hbs hN)).trans (by simpa [Nat.add_assoc] using q3)
  have T0c := Lib.hid (fun W (hW : Below (w.alloc (.cells #[.int .i64 4, .int .i64 0, .string ⟨#[]⟩, .slice (some ⟨b, off, none⟩) 1 c] 24)).heap.size (w.alloc (.cells #[.int .i64 4, .int .i64 0, .string ⟨#[]⟩, .slice (some ⟨b, off, none⟩) 1 c] 24)) W) => text_of hA1 lA1 13 N W _ ((x0.under (W1.mono hN)).under (hW.mono (by rw [World.size_alloc]; omega))) (Nat.le_trans hN (Nat.le_trans W1.size hW.size)) (ht.later (W1.then_ hW)))
  have m0 := lnP_plc 13 (bx A1)
  have m0' : lnP (bx A1).2 = lnP (bare A1) := rfl
  rw [m0'] at m0
  unfold lnP at m0 lA1
  have HP : Hid (txP (bare (.mk 4 0 ⟨#[]⟩ [A1])) = 33 :: txP (plc 13 (bx A1))) := Lib.hid (by rw [bare_mk]; show txP (.mk (pMark 4) :: plc 13 (bx A1)) = _; rw [txP_cons]; rfl)
  obtain ⟨t0, ht0⟩ : ∃ T, txP (plc 13 (bx A1)) = T := ⟨_, rfl⟩
  rw [ht0] at T0c m0
  have ml0 : t0.length ≤ 200000010 := by omega
  rw [ht0] at HP
  rw [HP.out]
  clear HP
  show Calls _ _ #[.agg #[.int .i64 4, .int .i64 0, .string ⟨#[]⟩, .slice (some ⟨b, off, none⟩) 1 c]] w _
  obtain ⟨A1o, hA1o⟩ : ∃ x, A1.op = x := ⟨_, rfl⟩
  rw [hA1o] at T0c d00
  obtain ⟨A1n, hA1n⟩ : ∃ x, A1.n = x := ⟨_, rfl⟩
  rw [hA1n] at T0c d01
  obtain ⟨A1s, hA1s⟩ : ∃ x, A1.nm = x := ⟨_, rfl⟩
  rw [hA1s] at T0c d02
  obtain ⟨A1k, hA1k⟩ : ∃ x, A1.args.length = x := ⟨_, rfl⟩
  rw [hA1k] at T0c d03
  obtain ⟨A1p, hA1p⟩ : ∃ x, pl 0 = x := ⟨_, rfl⟩
  rw [hA1p] at T0c d03
  obtain ⟨A1c, hA1c⟩ : ∃ x, cl 0 = x := ⟨_, rfl⟩
  rw [hA1c] at T0c d03
  have e0 := F1.c0
  have e1 := F1.c1
  have e2 := F1.c2
  have e3 := F1.c3
  have HW1 := Lib.hid W1
  have HF1 := Lib.hid F1
  have HT := Lib.hid (ht.later W1)
  have OC : Hid (∀ W, Below (w.alloc (.cells #[.int .i64 4, .int .i64 0, .string ⟨#[]⟩, .slice (some ⟨b, off, none⟩) 1 c] 24)).heap.size (w.alloc (.cells #[.int .i64 4, .int .i64 0, .string ⟨#[]⟩, .slice (some ⟨b, off, none⟩) 1 c] 24)) W → W.cell? ⟨b, off, none⟩ = some (.int .i64 A1o) ∧ W.cell? ⟨b, off + 1, none⟩ = some (.int .i64 A1n) ∧ W.cell? ⟨b, off + 2, none⟩ = some (.string A1s) ∧ W.cell? ⟨b, off + 3, none⟩ = some (.slice A1p A1k A1c)) := Lib.hid (fun W hW => ⟨(hW.cell (p := ⟨b, off, none⟩) (cell_lt d00)).trans d00, (hW.cell (p := ⟨b, off + 1, none⟩) (cell_lt d01)).trans d01, (hW.cell (p := ⟨b, off + 2, none⟩) (cell_lt d02)).trans d02, (hW.cell (p := ⟨b, off + 3, none⟩) (cell_lt d03)).trans d03⟩)
  have PC0 := preFor_yes 4 _ HT.out (by decide)
  have PC : Hid (Calls Tryz.prog 70 #[.int .i64 4] _ fun e w' => e = .returned (.tuple #[.agg #[.string ⟨#[33]⟩, .int .i64 4], .bool true]) ∧ Below _ _ w') := Lib.hid PC0
  clear PC0
  have z0 : ¬ 9223372036854775807 < 1 + t0.length := by omega
  clear hx ha ht hs W1 hA1 lA1 x0 m0 m0' hA1o hA1n hA1s hA1k hA1p hA1c hcell q0 q1 q2 q3
  clear F1 ht0 d00 d01 d02 d03
  go_enter Tryz.func35, Tryz.ntmps35
  go_wp2_with (go_at_call 70; ((with_reducible refine PC.out.mono ?_); rintro e w2 ⟨rfl, hb⟩; have HX := Lib.hid (hb.alloc hb.size (.cells #[.string ⟨#[33]⟩, .int .i64 4] 94)); have D2' := Duo.new w2 (.string ⟨#[33]⟩) (.int .i64 4) 94; have g0 := D2'.c0; have g1 := D2'.c1; have D2 := Lib.hid D2'; clear e0 e1 e2; have e0 := (HF1.out.stay HX.out).c0; clear hb D2'))
  have KK := Lib.hid (fun W (hW : Below (w2.alloc (.cells #[.string ⟨#[33]⟩, .int .i64 4] 94)).heap.size (w2.alloc (.cells #[.string ⟨#[33]⟩, .int .i64 4] 94)) W) => And.intro (D2.out.stay hW).c0 (And.intro ((HF1.out.stay (HX.out.then_ hW)).c3) (OC.out W (HX.out.then_ hW))))
  go_region_held3 (fun w' => w'.cell? ⟨w2.heap.size, 0, none⟩ = some (.string ⟨#[33]⟩) ∧ w'.cell? ⟨w.heap.size, 3, none⟩ = some (.slice (some ⟨b, off, none⟩) 1 c) ∧ w'.cell? ⟨b, off, none⟩ = some (.int .i64 A1o) ∧ w'.cell? ⟨b, off + 1, none⟩ = some (.int .i64 A1n) ∧ w'.cell? ⟨b, off + 2, none⟩ = some (.string A1s) ∧ w'.cell? ⟨b, off + 3, none⟩ = some (.slice A1p A1k A1c)) (first | exact KK.out _ (Below.refl _ _).drew | exact KK.out _ (Below.refl _ _) | exact KK.out _ HB0.out) (first | (go_at_call 17; (with_reducible refine (T0c.out _ ?_).mono ?_); (first | exact HX.out.then_ (Below.refl _ _).drew | exact HX.out.then_ (Below.refl _ _)); rintro e w13 ⟨rfl, hb⟩; have HB0 := Lib.hid (((Below.refl _ _).drew).then_ hb); have KN0 := KK.out _ HB0.out; clear hb))
  all_goals
    go_wp2
    go_ret
    exact tSt_mk (by simp [ByteArray.data_append]) (HW1.out.then_ (HX.out.then_ HB0.out))
set_option maxRecDepth 100000 in
set_option maxHeartbeats 8000000 in
theorem bare_pre5 {A1 : Ex} (hA1 : BareC A1) (lA1 : lnP (bare A1) ≤ 200000000) : BareC (.mk 5 0 ⟨#[]⟩ [A1]) := by
  intro N w v hx hN ht
  obtain ⟨p, c, pl, cl, rfl, hs, ha⟩ := hx.form
  simp only [Ex.op, Ex.n, Ex.nm, Ex.args, List.length_cons, List.length_nil, Nat.zero_add] at hs ha ⊢
  obtain ⟨b, off, rfl, hbs, hcell⟩ := ha.hp (by simp)
  have W1 : Below w.heap.size w (w.alloc (.cells #[.int .i64 5, .int .i64 0, .string ⟨#[]⟩, .slice (some ⟨b, off, none⟩) 1 c] 24)) := (Below.refl _ _).alloc (Nat.le_refl _) _
  have F1 := Four.new w (.int .i64 5) (.int .i64 0) (.string ⟨#[]⟩) (.slice (some ⟨b, off, none⟩) 1 c) 24
  have x0 := ha.hx 0 A1 rfl
  obtain ⟨q0, q1, q2, q3⟩ := hcell 0 A1 rfl
  have d00 : (w.alloc (.cells #[.int .i64 5, .int .i64 0, .string ⟨#[]⟩, .slice (some ⟨b, off, none⟩) 1 c] 24)).cell? ⟨b, off, none⟩ = some (.int .i64 A1.op) := (W1.cell (p := ⟨b, off, none⟩) (Nat.lt_of_lt_of_le hbs hN)).trans (by simpa [Nat.add_assoc] using q0)
  have d01 : (w.alloc (.cells #[.int .i64 5, .int .i64 0, .string ⟨#[]⟩, .slice (some ⟨b, off, none⟩) 1 c] 24)).cell? ⟨b, off + 1, none⟩ = some (.int .i64 A1.n) := (W1.cell (p := ⟨b, off + 1, none⟩) (Nat.lt_of_lt_of_le hbs hN)).trans (by simpa [Nat.add_assoc] using q1)
  have d02 : (w.alloc (.cells #[.int .i64 5, .int .i64 0, .string ⟨#[]⟩, .slice (some ⟨b, off, none⟩) 1 c] 24)).cell? ⟨b, off + 2, none⟩ = some (.string A1.nm) := (W1.cell (p := ⟨b, off + 2, none⟩) (Nat.lt_of_lt_of_le hbs hN)).trans (by simpa [Nat.add_assoc] using q2)
  have d03 : (w.alloc (.cells #[.int .i64 5, .int .i64 0, .string ⟨#[]⟩, .slice (some ⟨b, off, none⟩) 1 c] 24)).cell? ⟨b, off + 3, none⟩ = some (.slice (pl 0) A1.args.length (cl 0)) := (W1.cell (p := ⟨b, off + 3, none⟩) (Nat.lt_of_lt_of_le hbs hN)).trans (by simpa [Nat.add_assoc] using q3)
  have T0c := Lib.hid (fun W (hW : Below (w.alloc (.cells #[.int .i64 5, .int .i64 0, .string ⟨#[]⟩, .slice (some ⟨b, off, none⟩) 1 c] 24)).heap.size (w.alloc (.cells #[.int .i64 5, .int .i64 0, .string ⟨#[]⟩, .slice (some ⟨b, off, none⟩) 1 c] 24)) W) => text_of hA1 lA1 13 N W _ ((x0.under (W1.mono hN)).under (hW.mono (by rw [World.size_alloc]; omega))) (Nat.le_trans hN (Nat.le_trans W1.size hW.size)) (ht.later (W1.then_ hW)))
  have m0 := lnP_plc 13 (bx A1)
  have m0' : lnP (bx A1).2 = lnP (bare A1) := rfl
  rw [m0'] at m0
  unfold lnP at m0 lA1
  have HP : Hid (txP (bare (.mk 5 0 ⟨#[]⟩ [A1])) = 126 :: txP (plc 13 (bx A1))) := Lib.hid (by rw [bare_mk]; show txP (.mk (pMark 5) :: plc 13 (bx A1)) = _; rw [txP_cons]; rfl)
  obtain ⟨t0, ht0⟩ : ∃ T, txP (plc 13 (bx A1)) = T := ⟨_, rfl⟩
  rw [ht0] at T0c m0
  have ml0 : t0.length ≤ 200000010 := by omega
  rw [ht0] at HP
  rw [HP.out]
  clear HP
  show Calls _ _ #[.agg #[.int .i64 5, .int .i64 0, .string ⟨#[]⟩, .slice (some ⟨b, off, none⟩) 1 c]] w _
  obtain ⟨A1o, hA1o⟩ : ∃ x, A1.op = x := ⟨_, rfl⟩
  rw [hA1o] at T0c d00
  obtain ⟨A1n, hA1n⟩ : ∃ x, A1.n = x := ⟨_, rfl⟩
  rw [hA1n] at T0c d01
  obtain ⟨A1s, hA1s⟩ : ∃ x, A1.nm = x := ⟨_, rfl⟩
  rw [hA1s] at T0c d02
  obtain ⟨A1k, hA1k⟩ : ∃ x, A1.args.length = x := ⟨_, rfl⟩
  rw [hA1k] at T0c d03
  obtain ⟨A1p, hA1p⟩ : ∃ x, pl 0 = x := ⟨_, rfl⟩
  rw [hA1p] at T0c d03
  obtain ⟨A1c, hA1c⟩ : ∃ x, cl 0 = x := ⟨_, rfl⟩
  rw [hA1c] at T0c d03
  have e0 := F1.c0
  have e1 := F1.c1
  have e2 := F1.c2
  have e3 := F1.c3
  have HW1 := Lib.hid W1
  have HF1 := Lib.hid F1
  have HT := Lib.hid (ht.later W1)
  have OC : Hid (∀ W, Below (w.alloc (.cells #[.int .i64 5, .int .i64 0, .string ⟨#[]⟩, .slice (some ⟨b, off, none⟩) 1 c] 24)).heap.size (w.alloc (.cells #[.int .i64 5, .int .i64 0, .string ⟨#[]⟩, .slice (some ⟨b, off, none⟩) 1 c] 24)) W → W.cell? ⟨b, off, none⟩ = some (.int .i64 A1o) ∧ W.cell? ⟨b, off + 1, none⟩ = some (.int .i64 A1n) ∧ W.cell? ⟨b, off + 2, none⟩ = some (.string A1s) ∧ W.cell? ⟨b, off + 3, none⟩ = some (.slice A1p A1k A1c)) := Lib.hid (fun W hW => ⟨(hW.cell (p := ⟨b, off, none⟩) (cell_lt d00)).trans d00, (hW.cell (p := ⟨b, off + 1, none⟩) (cell_lt d01)).trans d01, (hW.cell (p := ⟨b, off + 2, none⟩) (cell_lt d02)).trans d02, (hW.cell (p := ⟨b, off + 3, none⟩) (cell_lt d03)).trans d03⟩)
  have PC0 := preFor_yes 5 _ HT.out (by decide)
  have PC : Hid (Calls Tryz.prog 70 #[.int .i64 5] _ fun e w' => e = .returned (.tuple #[.agg #[.string ⟨#[126]⟩, .int .i64 5], .bool true]) ∧ Below _ _ w') := Lib.hid PC0
  clear PC0
  have z0 : ¬ 9223372036854775807 < 1 + t0.length := by omega
  clear hx ha ht hs W1 hA1 lA1 x0 m0 m0' hA1o hA1n hA1s hA1k hA1p hA1c hcell q0 q1 q2 q3
  clear F1 ht0 d00 d01 d02 d03
  go_enter Tryz.func35, Tryz.ntmps35
  go_wp2_with (go_at_call 70; ((with_reducible refine PC.out.mono ?_); rintro e w2 ⟨rfl, hb⟩; have HX := Lib.hid (hb.alloc hb.size (.cells #[.string ⟨#[126]⟩, .int .i64 5] 94)); have D2' := Duo.new w2 (.string ⟨#[126]⟩) (.int .i64 5) 94; have g0 := D2'.c0; have g1 := D2'.c1; have D2 := Lib.hid D2'; clear e0 e1 e2; have e0 := (HF1.out.stay HX.out).c0; clear hb D2'))
  have KK := Lib.hid (fun W (hW : Below (w2.alloc (.cells #[.string ⟨#[126]⟩, .int .i64 5] 94)).heap.size (w2.alloc (.cells #[.string ⟨#[126]⟩, .int .i64 5] 94)) W) => And.intro (D2.out.stay hW).c0 (And.intro ((HF1.out.stay (HX.out.then_ hW)).c3) (OC.out W (HX.out.then_ hW))))
  go_region_held3 (fun w' => w'.cell? ⟨w2.heap.size, 0, none⟩ = some (.string ⟨#[126]⟩) ∧ w'.cell? ⟨w.heap.size, 3, none⟩ = some (.slice (some ⟨b, off, none⟩) 1 c) ∧ w'.cell? ⟨b, off, none⟩ = some (.int .i64 A1o) ∧ w'.cell? ⟨b, off + 1, none⟩ = some (.int .i64 A1n) ∧ w'.cell? ⟨b, off + 2, none⟩ = some (.string A1s) ∧ w'.cell? ⟨b, off + 3, none⟩ = some (.slice A1p A1k A1c)) (first | exact KK.out _ (Below.refl _ _).drew | exact KK.out _ (Below.refl _ _) | exact KK.out _ HB0.out) (first | (go_at_call 17; (with_reducible refine (T0c.out _ ?_).mono ?_); (first | exact HX.out.then_ (Below.refl _ _).drew | exact HX.out.then_ (Below.refl _ _)); rintro e w13 ⟨rfl, hb⟩; have HB0 := Lib.hid (((Below.refl _ _).drew).then_ hb); have KN0 := KK.out _ HB0.out; clear hb))
  all_goals
    go_wp2
    go_ret
    exact tSt_mk (by simp [ByteArray.data_append]) (HW1.out.then_ (HX.out.then_ HB0.out))
set_option maxRecDepth 100000 in
set_option maxHeartbeats 8000000 in
theorem bare_pre6 {A1 : Ex} (hA1 : BareC A1) (lA1 : lnP (bare A1) ≤ 200000000) : BareC (.mk 6 0 ⟨#[]⟩ [A1]) := by
  intro N w v hx hN ht
  obtain ⟨p, c, pl, cl, rfl, hs, ha⟩ := hx.form
  simp only [Ex.op, Ex.n, Ex.nm, Ex.args, List.length_cons, List.length_nil, Nat.zero_add] at hs ha ⊢
  obtain ⟨b, off, rfl, hbs, hcell⟩ := ha.hp (by simp)
  have W1 : Below w.heap.size w (w.alloc (.cells #[.int .i64 6, .int .i64 0, .string ⟨#[]⟩, .slice (some ⟨b, off, none⟩) 1 c] 24)) := (Below.refl _ _).alloc (Nat.le_refl _) _
  have F1 := Four.new w (.int .i64 6) (.int .i64 0) (.string ⟨#[]⟩) (.slice (some ⟨b, off, none⟩) 1 c) 24
  have x0 := ha.hx 0 A1 rfl
  obtain ⟨q0, q1, q2, q3⟩ := hcell 0 A1 rfl
  have d00 : (w.alloc (.cells #[.int .i64 6, .int .i64 0, .string ⟨#[]⟩, .slice (some ⟨b, off, none⟩) 1 c] 24)).cell? ⟨b, off, none⟩ = some (.int .i64 A1.op) := (W1.cell (p := ⟨b, off, none⟩) (Nat.lt_of_lt_of_le hbs hN)).trans (by simpa [Nat.add_assoc] using q0)
  have d01 : (w.alloc (.cells #[.int .i64 6, .int .i64 0, .string ⟨#[]⟩, .slice (some ⟨b, off, none⟩) 1 c] 24)).cell? ⟨b, off + 1, none⟩ = some (.int .i64 A1.n) := (W1.cell (p := ⟨b, off + 1, none⟩) (Nat.lt_of_lt_of_le hbs hN)).trans (by simpa [Nat.add_assoc] using q1)
  have d02 : (w.alloc (.cells #[.int .i64 6, .int .i64 0, .string ⟨#[]⟩, .slice (some ⟨b, off, none⟩) 1 c] 24)).cell? ⟨b, off + 2, none⟩ = some (.string A1.nm) := (W1.cell (p := ⟨b, off + 2, none⟩) (Nat.lt_of_lt_of_le hbs hN)).trans (by simpa [Nat.add_assoc] using q2)
  have d03 : (w.alloc (.cells #[.int .i64 6, .int .i64 0, .string ⟨#[]⟩, .slice (some ⟨b, off, none⟩) 1 c] 24)).cell? ⟨b, off + 3, none⟩ = some (.slice (pl 0) A1.args.length (cl 0)) := (W1.cell (p := ⟨b, off + 3, none⟩) (Nat.lt_of_lt_of_le hbs hN)).trans (by simpa [Nat.add_assoc] using q3)
  have T0c := Lib.hid (fun W (hW : Below (w.alloc (.cells #[.int .i64 6, .int .i64 0, .string ⟨#[]⟩, .slice (some ⟨b, off, none⟩) 1 c] 24)).heap.size (w.alloc (.cells #[.int .i64 6, .int .i64 0, .string ⟨#[]⟩, .slice (some ⟨b, off, none⟩) 1 c] 24)) W) => text_of hA1 lA1 13 N W _ ((x0.under (W1.mono hN)).under (hW.mono (by rw [World.size_alloc]; omega))) (Nat.le_trans hN (Nat.le_trans W1.size hW.size)) (ht.later (W1.then_ hW)))
  have m0 := lnP_plc 13 (bx A1)
  have m0' : lnP (bx A1).2 = lnP (bare A1) := rfl
  rw [m0'] at m0
  unfold lnP at m0 lA1
  have HP : Hid (txP (bare (.mk 6 0 ⟨#[]⟩ [A1])) = 45 :: txP (plc 13 (bx A1))) := Lib.hid (by rw [bare_mk]; show txP (.mk (pMark 6) :: plc 13 (bx A1)) = _; rw [txP_cons]; rfl)
  obtain ⟨t0, ht0⟩ : ∃ T, txP (plc 13 (bx A1)) = T := ⟨_, rfl⟩
  rw [ht0] at T0c m0
  have ml0 : t0.length ≤ 200000010 := by omega
  rw [ht0] at HP
  rw [HP.out]
  clear HP
  show Calls _ _ #[.agg #[.int .i64 6, .int .i64 0, .string ⟨#[]⟩, .slice (some ⟨b, off, none⟩) 1 c]] w _
  obtain ⟨A1o, hA1o⟩ : ∃ x, A1.op = x := ⟨_, rfl⟩
  rw [hA1o] at T0c d00
  obtain ⟨A1n, hA1n⟩ : ∃ x, A1.n = x := ⟨_, rfl⟩
  rw [hA1n] at T0c d01
  obtain ⟨A1s, hA1s⟩ : ∃ x, A1.nm = x := ⟨_, rfl⟩
  rw [hA1s] at T0c d02
  obtain ⟨A1k, hA1k⟩ : ∃ x, A1.args.length = x := ⟨_, rfl⟩
  rw [hA1k] at T0c d03
  obtain ⟨A1p, hA1p⟩ : ∃ x, pl 0 = x := ⟨_, rfl⟩
  rw [hA1p] at T0c d03
  obtain ⟨A1c, hA1c⟩ : ∃ x, cl 0 = x := ⟨_, rfl⟩
  rw [hA1c] at T0c d03
  have e0 := F1.c0
  have e1 := F1.c1
  have e2 := F1.c2
  have e3 := F1.c3
  have HW1 := Lib.hid W1
  have HF1 := Lib.hid F1
  have HT := Lib.hid (ht.later W1)
  have OC : Hid (∀ W, Below (w.alloc (.cells #[.int .i64 6, .int .i64 0, .string ⟨#[]⟩, .slice (some ⟨b, off, none⟩) 1 c] 24)).heap.size (w.alloc (.cells #[.int .i64 6, .int .i64 0, .string ⟨#[]⟩, .slice (some ⟨b, off, none⟩) 1 c] 24)) W → W.cell? ⟨b, off, none⟩ = some (.int .i64 A1o) ∧ W.cell? ⟨b, off + 1, none⟩ = some (.int .i64 A1n) ∧ W.cell? ⟨b, off + 2, none⟩ = some (.string A1s) ∧ W.cell? ⟨b, off + 3, none⟩ = some (.slice A1p A1k A1c)) := Lib.hid (fun W hW => ⟨(hW.cell (p := ⟨b, off, none⟩) (cell_lt d00)).trans d00, (hW.cell (p := ⟨b, off + 1, none⟩) (cell_lt d01)).trans d01, (hW.cell (p := ⟨b, off + 2, none⟩) (cell_lt d02)).trans d02, (hW.cell (p := ⟨b, off + 3, none⟩) (cell_lt d03)).trans d03⟩)
  have PC0 := preFor_yes 6 _ HT.out (by decide)
  have PC : Hid (Calls Tryz.prog 70 #[.int .i64 6] _ fun e w' => e = .returned (.tuple #[.agg #[.string ⟨#[45]⟩, .int .i64 6], .bool true]) ∧ Below _ _ w') := Lib.hid PC0
  clear PC0
  have z0 : ¬ 9223372036854775807 < 1 + t0.length := by omega
  clear hx ha ht hs W1 hA1 lA1 x0 m0 m0' hA1o hA1n hA1s hA1k hA1p hA1c hcell q0 q1 q2 q3
  clear F1 ht0 d00 d01 d02 d03
  go_enter Tryz.func35, Tryz.ntmps35
  go_wp2_with (go_at_call 70; ((with_reducible refine PC.out.mono ?_); rintro e w2 ⟨rfl, hb⟩; have HX := Lib.hid (hb.alloc hb.size (.cells #[.string ⟨#[45]⟩, .int .i64 6] 94)); have D2' := Duo.new w2 (.string ⟨#[45]⟩) (.int .i64 6) 94; have g0 := D2'.c0; have g1 := D2'.c1; have D2 := Lib.hid D2'; clear e0 e1 e2; have e0 := (HF1.out.stay HX.out).c0; clear hb D2'))
  have KK := Lib.hid (fun W (hW : Below (w2.alloc (.cells #[.string ⟨#[45]⟩, .int .i64 6] 94)).heap.size (w2.alloc (.cells #[.string ⟨#[45]⟩, .int .i64 6] 94)) W) => And.intro (D2.out.stay hW).c0 (And.intro ((HF1.out.stay (HX.out.then_ hW)).c3) (OC.out W (HX.out.then_ hW))))
  go_region_held3 (fun w' => w'.cell? ⟨w2.heap.size, 0, none⟩ = some (.string ⟨#[45]⟩) ∧ w'.cell? ⟨w.heap.size, 3, none⟩ = some (.slice (some ⟨b, off, none⟩) 1 c) ∧ w'.cell? ⟨b, off, none⟩ = some (.int .i64 A1o) ∧ w'.cell? ⟨b, off + 1, none⟩ = some (.int .i64 A1n) ∧ w'.cell? ⟨b, off + 2, none⟩ = some (.string A1s) ∧ w'.cell? ⟨b, off + 3, none⟩ = some (.slice A1p A1k A1c)) (first | exact KK.out _ (Below.refl _ _).drew | exact KK.out _ (Below.refl _ _) | exact KK.out _ HB0.out) (first | (go_at_call 17; (with_reducible refine (T0c.out _ ?_).mono ?_); (first | exact HX.out.then_ (Below.refl _ _).drew | exact HX.out.then_ (Below.refl _ _)); rintro e w13 ⟨rfl, hb⟩; have HB0 := Lib.hid (((Below.refl _ _).drew).then_ hb); have KN0 := KK.out _ HB0.out; clear hb))
  all_goals
    go_wp2
    go_ret
    exact tSt_mk (by simp [ByteArray.data_append]) (HW1.out.then_ (HX.out.then_ HB0.out))
set_option maxRecDepth 100000 in
set_option maxHeartbeats 8000000 in
theorem bare_bin0 {o : Int} (h7 : 7 ≤ o) (h21 : o ≤ 21) {A1 A2 : Ex} (hA1 : BareC A1) (lA1 : lnP (bare A1) ≤ 200000000) (hA2 : BareC A2) (lA2 : lnP (bare A2) ≤ 200000000) : BareC (.mk o 0 ⟨#[]⟩ [A1, A2]) := by
  intro N w v hx hN ht
  obtain ⟨p, c, pl, cl, rfl, hs, ha⟩ := hx.form
  simp only [Ex.op, Ex.n, Ex.nm, Ex.args, List.length_cons, List.length_nil, Nat.zero_add, Nat.reduceAdd] at hs ha ⊢
  obtain ⟨b, off, rfl, hbs, hcell⟩ := ha.hp (by simp)
  have W1 : Below w.heap.size w (w.alloc (.cells #[.int .i64 o, .int .i64 0, .string ⟨#[]⟩, .slice (some ⟨b, off, none⟩) 2 c] 24)) := (Below.refl _ _).alloc (Nat.le_refl _) _
  have F1 := Four.new w (.int .i64 o) (.int .i64 0) (.string ⟨#[]⟩) (.slice (some ⟨b, off, none⟩) 2 c) 24
  have x0 := ha.hx 0 A1 rfl
  obtain ⟨q0, q1, q2, q3⟩ := hcell 0 A1 rfl
  have d00 : (w.alloc (.cells #[.int .i64 o, .int .i64 0, .string ⟨#[]⟩, .slice (some ⟨b, off, none⟩) 2 c] 24)).cell? ⟨b, off, none⟩ = some (.int .i64 A1.op) := (W1.cell (p := ⟨b, off, none⟩) (Nat.lt_of_lt_of_le hbs hN)).trans (by simpa [Nat.add_assoc] using q0)
  have d01 : (w.alloc (.cells #[.int .i64 o, .int .i64 0, .string ⟨#[]⟩, .slice (some ⟨b, off, none⟩) 2 c] 24)).cell? ⟨b, off + 1, none⟩ = some (.int .i64 A1.n) := (W1.cell (p := ⟨b, off + 1, none⟩) (Nat.lt_of_lt_of_le hbs hN)).trans (by simpa [Nat.add_assoc] using q1)
  have d02 : (w.alloc (.cells #[.int .i64 o, .int .i64 0, .string ⟨#[]⟩, .slice (some ⟨b, off, none⟩) 2 c] 24)).cell? ⟨b, off + 2, none⟩ = some (.string A1.nm) := (W1.cell (p := ⟨b, off + 2, none⟩) (Nat.lt_of_lt_of_le hbs hN)).trans (by simpa [Nat.add_assoc] using q2)
  have d03 : (w.alloc (.cells #[.int .i64 o, .int .i64 0, .string ⟨#[]⟩, .slice (some ⟨b, off, none⟩) 2 c] 24)).cell? ⟨b, off + 3, none⟩ = some (.slice (pl 0) A1.args.length (cl 0)) := (W1.cell (p := ⟨b, off + 3, none⟩) (Nat.lt_of_lt_of_le hbs hN)).trans (by simpa [Nat.add_assoc] using q3)
  have T0c := Lib.hid (fun W (hW : Below (w.alloc (.cells #[.int .i64 o, .int .i64 0, .string ⟨#[]⟩, .slice (some ⟨b, off, none⟩) 2 c] 24)).heap.size (w.alloc (.cells #[.int .i64 o, .int .i64 0, .string ⟨#[]⟩, .slice (some ⟨b, off, none⟩) 2 c] 24)) W) => text_of hA1 lA1 (lPl o) N W _ ((x0.under (W1.mono hN)).under (hW.mono (by rw [World.size_alloc]; omega))) (Nat.le_trans hN (Nat.le_trans W1.size hW.size)) (ht.later (W1.then_ hW)))
  have m0 := lnP_plc (lPl o) (bx A1)
  have m0' : lnP (bx A1).2 = lnP (bare A1) := rfl
  rw [m0'] at m0
  unfold lnP at m0 lA1
  have x1 := ha.hx 1 A2 rfl
  obtain ⟨q0, q1, q2, q3⟩ := hcell 1 A2 rfl
  have d10 : (w.alloc (.cells #[.int .i64 o, .int .i64 0, .string ⟨#[]⟩, .slice (some ⟨b, off, none⟩) 2 c] 24)).cell? ⟨b, off + 4, none⟩ = some (.int .i64 A2.op) := (W1.cell (p := ⟨b, off + 4, none⟩) (Nat.lt_of_lt_of_le hbs hN)).trans (by simpa [Nat.add_assoc] using q0)
  have d11 : (w.alloc (.cells #[.int .i64 o, .int .i64 0, .string ⟨#[]⟩, .slice (some ⟨b, off, none⟩) 2 c] 24)).cell? ⟨b, off + 5, none⟩ = some (.int .i64 A2.n) := (W1.cell (p := ⟨b, off + 5, none⟩) (Nat.lt_of_lt_of_le hbs hN)).trans (by simpa [Nat.add_assoc] using q1)
  have d12 : (w.alloc (.cells #[.int .i64 o, .int .i64 0, .string ⟨#[]⟩, .slice (some ⟨b, off, none⟩) 2 c] 24)).cell? ⟨b, off + 6, none⟩ = some (.string A2.nm) := (W1.cell (p := ⟨b, off + 6, none⟩) (Nat.lt_of_lt_of_le hbs hN)).trans (by simpa [Nat.add_assoc] using q2)
  have d13 : (w.alloc (.cells #[.int .i64 o, .int .i64 0, .string ⟨#[]⟩, .slice (some ⟨b, off, none⟩) 2 c] 24)).cell? ⟨b, off + 7, none⟩ = some (.slice (pl 1) A2.args.length (cl 1)) := (W1.cell (p := ⟨b, off + 7, none⟩) (Nat.lt_of_lt_of_le hbs hN)).trans (by simpa [Nat.add_assoc] using q3)
  have T1c := Lib.hid (fun W (hW : Below (w.alloc (.cells #[.int .i64 o, .int .i64 0, .string ⟨#[]⟩, .slice (some ⟨b, off, none⟩) 2 c] 24)).heap.size (w.alloc (.cells #[.int .i64 o, .int .i64 0, .string ⟨#[]⟩, .slice (some ⟨b, off, none⟩) 2 c] 24)) W) => text_of hA2 lA2 (rPl o) N W _ ((x1.under (W1.mono hN)).under (hW.mono (by rw [World.size_alloc]; omega))) (Nat.le_trans hN (Nat.le_trans W1.size hW.size)) (ht.later (W1.then_ hW)))
  have m1 := lnP_plc (rPl o) (bx A2)
  have m1' : lnP (bx A2).2 = lnP (bare A2) := rfl
  rw [m1'] at m1
  unfold lnP at m1 lA2
  have HP : Hid (txP (bare (.mk o 0 ⟨#[]⟩ [A1, A2])) = txP (plc (lPl o) (bx A1)) ++ 32 :: (bMark o ++ 32 :: txP (plc (rPl o) (bx A2)))) := Lib.hid (by rw [bare_mk]; show txP (form o 0 _ [bx A1, bx A2]) = _; rw [form_bin h7 h21]; unfold two; rw [txP_app, txP_cons, txP_cons, txP_cons]; rfl)
  obtain ⟨t0, ht0⟩ : ∃ T, txP (plc (lPl o) (bx A1)) = T := ⟨_, rfl⟩
  rw [ht0] at T0c m0
  obtain ⟨t1, ht1⟩ : ∃ T, txP (plc (rPl o) (bx A2)) = T := ⟨_, rfl⟩
  rw [ht1] at T1c m1
  have ml0 : t0.length ≤ 200000010 := by omega
  have ml1 : t1.length ≤ 200000010 := by omega
  rw [ht0] at HP
  rw [ht1] at HP
  rw [HP.out]
  clear HP
  show Calls _ _ #[.agg #[.int .i64 o, .int .i64 0, .string ⟨#[]⟩, .slice (some ⟨b, off, none⟩) 2 c]] w _
  obtain ⟨A1o, hA1o⟩ : ∃ x, A1.op = x := ⟨_, rfl⟩
  rw [hA1o] at T0c d00
  obtain ⟨A1n, hA1n⟩ : ∃ x, A1.n = x := ⟨_, rfl⟩
  rw [hA1n] at T0c d01
  obtain ⟨A1s, hA1s⟩ : ∃ x, A1.nm = x := ⟨_, rfl⟩
  rw [hA1s] at T0c d02
  obtain ⟨A1k, hA1k⟩ : ∃ x, A1.args.length = x := ⟨_, rfl⟩
  rw [hA1k] at T0c d03
  obtain ⟨A1p, hA1p⟩ : ∃ x, pl 0 = x := ⟨_, rfl⟩
  rw [hA1p] at T0c d03
  obtain ⟨A1c, hA1c⟩ : ∃ x, cl 0 = x := ⟨_, rfl⟩
  rw [hA1c] at T0c d03
  obtain ⟨A2o, hA2o⟩ : ∃ x, A2.op = x := ⟨_, rfl⟩
  rw [hA2o] at T1c d10
  obtain ⟨A2n, hA2n⟩ : ∃ x, A2.n = x := ⟨_, rfl⟩
  rw [hA2n] at T1c d11
  obtain ⟨A2s, hA2s⟩ : ∃ x, A2.nm = x := ⟨_, rfl⟩
  rw [hA2s] at T1c d12
  obtain ⟨A2k, hA2k⟩ : ∃ x, A2.args.length = x := ⟨_, rfl⟩
  rw [hA2k] at T1c d13
  obtain ⟨A2p, hA2p⟩ : ∃ x, pl 1 = x := ⟨_, rfl⟩
  rw [hA2p] at T1c d13
  obtain ⟨A2c, hA2c⟩ : ∃ x, cl 1 = x := ⟨_, rfl⟩
  rw [hA2c] at T1c d13
  have e0 := F1.c0
  have e1 := F1.c1
  have e2 := F1.c2
  have e3 := F1.c3
  have HW1 := Lib.hid W1
  have HF1 := Lib.hid F1
  have HT := Lib.hid (ht.later W1)
  have OC : Hid (∀ W, Below (w.alloc (.cells #[.int .i64 o, .int .i64 0, .string ⟨#[]⟩, .slice (some ⟨b, off, none⟩) 2 c] 24)).heap.size (w.alloc (.cells #[.int .i64 o, .int .i64 0, .string ⟨#[]⟩, .slice (some ⟨b, off, none⟩) 2 c] 24)) W → W.cell? ⟨b, off, none⟩ = some (.int .i64 A1o) ∧ W.cell? ⟨b, off + 1, none⟩ = some (.int .i64 A1n) ∧ W.cell? ⟨b, off + 2, none⟩ = some (.string A1s) ∧ W.cell? ⟨b, off + 3, none⟩ = some (.slice A1p A1k A1c) ∧ W.cell? ⟨b, off + 4, none⟩ = some (.int .i64 A2o) ∧ W.cell? ⟨b, off + 5, none⟩ = some (.int .i64 A2n) ∧ W.cell? ⟨b, off + 6, none⟩ = some (.string A2s) ∧ W.cell? ⟨b, off + 7, none⟩ = some (.slice A2p A2k A2c)) := Lib.hid (fun W hW => ⟨(hW.cell (p := ⟨b, off, none⟩) (cell_lt d00)).trans d00, (hW.cell (p := ⟨b, off + 1, none⟩) (cell_lt d01)).trans d01, (hW.cell (p := ⟨b, off + 2, none⟩) (cell_lt d02)).trans d02, (hW.cell (p := ⟨b, off + 3, none⟩) (cell_lt d03)).trans d03, (hW.cell (p := ⟨b, off + 4, none⟩) (cell_lt d10)).trans d10, (hW.cell (p := ⟨b, off + 5, none⟩) (cell_lt d11)).trans d11, (hW.cell (p := ⟨b, off + 6, none⟩) (cell_lt d12)).trans d12, (hW.cell (p := ⟨b, off + 7, none⟩) (cell_lt d13)).trans d13⟩)
  have hbf := (bin_facts h7 h21).2.2.2.2.2
  have hml := mk_len (bMark_mk h7 h21)
  obtain ⟨K, hK⟩ : ∃ K, bLev o = K := ⟨_, rfl⟩
  obtain ⟨B, hB⟩ : ∃ B, bMark o = B := ⟨_, rfl⟩
  obtain ⟨mk, hmk⟩ : ∃ m, bs (bMark o) = m := ⟨_, rfl⟩
  have hms : mk.size = B.length := by rw [← hmk, hB]; rfl
  have hmd : mk.data.toList = B := by rw [← hmk, hB]
  have HMD := Lib.hid hmd
  have hbl : B.length ≤ 2 := by rw [← hB]; rcases hml with g | g <;> omega
  have LC0 := fun W => levels_any K W (by omega) (by omega)
  have hl1 : (if K = 2 then (3 : Int) else K) = lPl o := by rw [← hK]; rfl
  have hl2 : (if K = 2 then (2 : Int) else K + 1) = rPl o := by rw [← hK]; rfl
  rw [hl1, hl2] at LC0
  have LC := Lib.hid LC0
  have PC0 := preFor_no o _ HT.out (by omega)
  have PC := Lib.hid PC0
  have BC00 := (fun W hW => binFor_yes o W (HT.out.later hW) (by rw [hK]; omega))
  unfold tBin at BC00
  dsimp only at BC00
  rw [hK, hmk] at BC00
  have BC0 := Lib.hid BC00
  clear BC00
  rw [hB] at ⊢
  obtain ⟨p1, hp1⟩ : ∃ x, lPl o = x := ⟨_, rfl⟩
  obtain ⟨p2, hp2⟩ : ∃ x, rPl o = x := ⟨_, rfl⟩
  rw [hp1] at T0c LC
  rw [hp2] at T1c LC
  have n1 : (o == 1) = false := by rw [beq_eq_false_iff_ne]; omega
  have n2 : (o == 2) = false := by rw [beq_eq_false_iff_ne]; omega
  have n3 : (o == 3) = false := by rw [beq_eq_false_iff_ne]; omega
  have n4 : (o == 24) = false := by rw [beq_eq_false_iff_ne]; omega
  have n5 : (o == 25) = false := by rw [beq_eq_false_iff_ne]; omega
  have n6 : (o == 22) = false := by rw [beq_eq_false_iff_ne]; omega
  have n7 : (o == 23) = false := by rw [beq_eq_false_iff_ne]; omega
  have z0 : ¬ 9223372036854775807 < t0.length + 1 := by omega
  have z1 : ¬ 9223372036854775807 < t0.length + 1 + mk.size := by omega
  have z2 : ¬ 9223372036854775807 < t0.length + 1 + mk.size + 1 := by omega
  have z3 : ¬ 9223372036854775807 < t0.length + 1 + mk.size + 1 + t1.length := by omega
  clear hbf hml hK hB hmk hms hmd hl1 hl2 LC0 PC0 hp1 hp2 h7 h21
  clear hx ha ht hs W1 hA1 lA1 x0 m0 m0' hA1o hA1n hA1s hA1k hA1p hA1c hA2 lA2 x1 m1 m1' hA2o hA2n hA2s hA2k hA2p hA2c hcell q0 q1 q2 q3
  clear F1 ht0 ht1 d00 d01 d02 d03 d10 d11 d12 d13
  go_enter Tryz.func35, Tryz.ntmps35
  go_wp2_with (first
    | (go_at_call 70; ((with_reducible refine PC.out.mono ?_); rintro e w2 ⟨rfl, hb⟩; have HX1 := Lib.hid (hb.alloc hb.size (.cells #[.string ⟨#[]⟩, .int .i64 0] 94)); have D2 := Lib.hid (Duo.new w2 (.string ⟨#[]⟩) (.int .i64 0) 94); clear e0 e1 e2 e3; have e0 := (HF1.out.stay HX1.out).c0; have BC := Lib.hid (BC0.out _ HX1.out); clear hb))
    | (go_at_call 69; ((with_reducible refine BC.out.mono ?_); rintro e w3 ⟨rfl, hb⟩; have HX2 := Lib.hid (hb.alloc hb.size (.cells #[.string mk, .int .i64 K, .int .i64 o, .bool false] 90)); have G3' := Four.new w3 (.string mk) (.int .i64 K) (.int .i64 o) (.bool false) 90; have HX := Lib.hid (HX1.out.then_ HX2.out); have g0 := G3'.c0; have g1 := G3'.c1; have g2 := G3'.c2; have g3 := G3'.c3; have G3 := Lib.hid G3'; clear hb e0 G3'))
    | (go_at_call 74; ((with_reducible refine (LC.out _).mono ?_); rintro e w4 ⟨rfl, rfl⟩; skip)))
  have KK := Lib.hid (fun W (hW : Below (w3.alloc (.cells #[.string mk, .int .i64 K, .int .i64 o, .bool false] 90)).heap.size (w3.alloc (.cells #[.string mk, .int .i64 K, .int .i64 o, .bool false] 90)) W) => And.intro (G3.out.stay hW).c0 (And.intro ((HF1.out.stay (HX.out.then_ hW)).c3) (OC.out W (HX.out.then_ hW))))
  have v3 := (KK.out _ (Below.refl _ _))
  go_region_held3 (fun w' => w'.cell? ⟨w3.heap.size, 0, none⟩ = some (.string mk) ∧ w'.cell? ⟨w.heap.size, 3, none⟩ = some (.slice (some ⟨b, off, none⟩) 2 c) ∧ w'.cell? ⟨b, off, none⟩ = some (.int .i64 A1o) ∧ w'.cell? ⟨b, off + 1, none⟩ = some (.int .i64 A1n) ∧ w'.cell? ⟨b, off + 2, none⟩ = some (.string A1s) ∧ w'.cell? ⟨b, off + 3, none⟩ = some (.slice A1p A1k A1c) ∧ w'.cell? ⟨b, off + 4, none⟩ = some (.int .i64 A2o) ∧ w'.cell? ⟨b, off + 5, none⟩ = some (.int .i64 A2n) ∧ w'.cell? ⟨b, off + 6, none⟩ = some (.string A2s) ∧ w'.cell? ⟨b, off + 7, none⟩ = some (.slice A2p A2k A2c)) (first | exact KK.out _ (Below.refl _ _).drew | exact KK.out _ (Below.refl _ _) | exact KK.out _ HB0.out | exact KK.out _ HB1.out) (first | (go_at_call 17; (with_reducible refine (T0c.out _ ?_).mono ?_); (first | exact HX.out.then_ (Below.refl _ _).drew | exact HX.out.then_ (Below.refl _ _)); rintro e w13 ⟨rfl, hb⟩; have HB0 := Lib.hid (((Below.refl _ _).drew).then_ hb); have KN0 := KK.out _ HB0.out; clear hb) | (go_at_call 17; (with_reducible refine (T1c.out _ ?_).mono ?_); (first | exact HX.out.then_ HB0.out); rintro e w14 ⟨rfl, hb⟩; have HB1 := Lib.hid ((HB0.out).then_ hb); have KN1 := KK.out _ HB1.out; clear hb))
  all_goals
    go_wp2
    go_ret
    exact tSt_mk (by simp [ByteArray.data_append, HMD.out]) (HW1.out.then_ (HX.out.then_ HB1.out))
end Go.Proofs.YtlnomiiphlbamaaGreatDoor.EtW
namespace Go.Proofs.YtlnomiiphlbamaaGreatDoor.EtW
open Go Go.RowKit Go.Proofs.YtlnomiiphlbamaaGreatDoor.NumM Go.Proofs.YtlnomiiphlbamaaGreatDoor.LexW Go.Proofs.YtlnomiiphlbamaaGreatDoor.LexM Go.Proofs.YtlnomiiphlbamaaGreatDoor.ExM Go.Proofs.YtlnomiiphlbamaaGreatDoor.ExW Go.Proofs.YtlnomiiphlbamaaGreatDoor.EtM

def pairT (a b : Ex) : List UInt8 := txP (plc 1 (bx a)) ++ 32 :: 46 :: 46 :: 32 :: txP (plc 1 (bx b))
def pairs : List Ex → List (List UInt8)
  | a :: b :: r => pairT a b :: pairs r
  | _ => []
theorem pairs_snoc (a b : Ex) : ∀ (n : Nat) (l : List Ex), l.length = 2 * n → pairs (l ++ [a, b]) = pairs l ++ [pairT a b] := by
  intro n
  induction n with
  | zero =>
    intro l h
    obtain rfl : l = [] := List.length_eq_zero_iff.1 (by omega)
    rfl
  | succ n ih =>
    intro l h
    match l, h with
    | x :: y :: r, h =>
      rw [List.cons_append, List.cons_append, pairs, pairs, ih r (by simp only [List.length_cons] at h; omega), List.cons_append]
    | [x], h => simp at h; omega
    | [], h => simp at h
theorem pairs_len : ∀ (n : Nat) (l : List Ex), l.length = 2 * n → (pairs l).length = n := by
  intro n
  induction n with
  | zero =>
    intro l h
    obtain rfl : l = [] := List.length_eq_zero_iff.1 (by omega)
    rfl
  | succ n ih =>
    intro l h
    match l, h with
    | x :: y :: r, h => rw [pairs, List.length_cons, ih r (by simp only [List.length_cons] at h; omega)]
    | [x], h => simp at h; omega
    | [], h => simp at h
theorem join_cc (a b : List UInt8) (l : List (List UInt8)) (s : List UInt8) : Lib.join (a :: b :: l) s = a ++ s ++ Lib.join (b :: l) s := by
  simp [Lib.join, List.intercalate]
theorem join_pairs : ∀ (n : Nat) (l : List Ex), l.length = 2 * n → Lib.join (pairs l) [44, 32] = txP (rgs (l.map bx)) := by
  intro n
  induction n with
  | zero =>
    intro l h
    obtain rfl : l = [] := List.length_eq_zero_iff.1 (by omega)
    rfl
  | succ n ih =>
    intro l h
    match l, h with
    | [x], h => simp at h; omega
    | [], h => simp at h
    | [x, y], _ =>
      show Lib.join [pairT x y] [44, 32] = txP (rgs [bx x, bx y])
      simp [Lib.join, pairT, rgs, txP_app, txP_cons, Pc.tx]
    | x :: y :: z :: r, h =>
      have e : rgs ((x :: y :: z :: r).map bx) = plc 1 (bx x) ++ .sp :: .mk [46, 46] :: .sp :: (plc 1 (bx y) ++ .mk [44] :: .sp :: rgs ((z :: r).map bx)) := by
        rw [List.map_cons, List.map_cons, List.map_cons, rgs]
        intro e; cases e
      have h2 := ih (z :: r) (by simp only [List.length_cons] at h ⊢; omega)
      match r, h, e, h2 with
      | [], h, _, _ => simp at h; omega
      | z' :: r', h, e, h2 =>
        rw [e]
        rw [show pairs (x :: y :: z :: z' :: r') = pairT x y :: pairT z z' :: pairs r' from rfl]
        rw [show pairs (z :: z' :: r') = pairT z z' :: pairs r' from rfl] at h2
        rw [join_cc, h2]
        simp [pairT, txP_app, txP_cons, Pc.tx]
theorem take_pair {r : List Ex} {k : Nat} {a b : Ex} (ha : r[2 * k]? = some a) (hb : r[2 * k + 1]? = some b) : pairs (r.take (2 * (k + 1))) = pairs (r.take (2 * k)) ++ [pairT a b] := by
  have hl := (List.getElem?_eq_some_iff.1 hb).1
  have e : r.take (2 * (k + 1)) = r.take (2 * k) ++ [a, b] := by
    rw [show 2 * (k + 1) = 2 * k + 1 + 1 by omega, List.take_add_one, List.take_add_one, ha, hb]
    simp
  rw [e]
  exact pairs_snoc a b k _ (by rw [List.length_take]; omega)
theorem sumL_le : ∀ (r : List Ex), (∀ a ∈ r, lnP (bare a) ≤ 130000000) → sumL (r.map bx) ≤ r.length * 130000000
  | [], _ => by simp [sumL]
  | a :: r, h => by
    have h1 := h a (by simp)
    have h2 := sumL_le r (fun b hb => h b (by simp [hb]))
    rw [List.map_cons, sumL_cons, List.length_cons, Nat.add_mul, Nat.one_mul]
    show lnP (bare a) + _ ≤ _
    omega
set_option maxRecDepth 100000 in
set_option maxHeartbeats 16000000 in
theorem ranges_any {r : List Ex} {h : Nat} (hB : ∀ a ∈ r, BareC a) (hl : ∀ a ∈ r, lnP (bare a) ≤ 130000000) (hr : r.length = 2 * h) (h1 : 0 < h) (h16 : h ≤ 16) (N : Nat) (w : World) (b off c : Nat) (pl : Nat → Option Addr) (cl : Nat → Nat) (hbs : b < N) (hN : N ≤ w.heap.size) (ht : TabE w)
    (hx : ∀ i a, r[i]? = some a → ExAt N w (xv a.op a.n a.nm (.slice (pl i) a.args.length (cl i))) a)
    (hcell : ∀ i a, r[i]? = some a → w.cell? ⟨b, off + i * 4, none⟩ = some (.int .i64 a.op) ∧ w.cell? ⟨b, off + i * 4 + 1, none⟩ = some (.int .i64 a.n) ∧ w.cell? ⟨b, off + i * 4 + 2, none⟩ = some (.string a.nm) ∧ w.cell? ⟨b, off + i * 4 + 3, none⟩ = some (.slice (pl i) a.args.length (cl i))) :
    Calls Tryz.prog 73 #[.slice (some ⟨b, off, none⟩) r.length c] w (tSt (txP (rgs (r.map bx))) w) := by
  obtain ⟨i0, hi, hz0, hz1, hz2⟩ := info_parts infoS
  obtain ⟨n, hn⟩ : ∃ n, r.length = n := ⟨_, rfl⟩
  have HN := Lib.hid hn
  have HR : Hid (n = 2 * h) := Lib.hid (by rw [← hn]; exact hr)
  have HJ := Lib.hid (join_pairs h r hr)
  have HPL := Lib.hid (pairs_len h r hr)
  have HB0 := Lib.hid hB
  have HL0 := Lib.hid hl
  have HX := Lib.hid hx
  have HC := Lib.hid hcell
  have HT := Lib.hid ht
  rw [hn]
  have hn32 : n ≤ 32 := by omega
  clear hB hl hr hx hcell ht hn
  go_enter Tryz.func73, Tryz.ntmps73
  go_wp2
  go_loopw [3, 4] (fun vo iv wr => ∃ k I : Nat, Hid (I = 2 * k) ∧ I ≤ n ∧ k ≤ 16 ∧ iv = .int .i64 I ∧ Hid (wr.ownsRow w.heap.size 9 1 vo k ((pairs (r.take (2 * k))).map (fun t => Value.string (mb t)))) ∧ Hid (Below w.heap.size w wr)) (fun _ iv _ => n - (intOf iv).toNat)
  case atStart => exact ⟨0, 0, Lib.hid rfl, Nat.zero_le _, by omega, rfl, Lib.hid (by rw [Nat.mul_zero, List.take_zero]; exact World.ownsRow_nil _ _ _ _), Lib.hid (Below.refl _ _)⟩
  case round =>
    obtain ⟨k, I, HI, hI, hk, rfl, OW, BW⟩ := hrel
    obtain ⟨tq, tk, tc, rfl⟩ := own_slice OW.out
    by_cases hlt : I < n
    · have hI1 : I + 1 < n := by have := HI.out; have := HR.out; omega
      obtain ⟨A, hA⟩ : ∃ a, r[I]? = some a := ⟨_, List.getElem?_eq_getElem (by rw [HN.out]; exact hlt)⟩
      obtain ⟨B, hB⟩ : ∃ a, r[I + 1]? = some a := ⟨_, List.getElem?_eq_getElem (by rw [HN.out]; exact hI1)⟩
      have lA := HL0.out A (List.mem_of_getElem? hA)
      have lB := HL0.out B (List.mem_of_getElem? hB)
      have hbw : Below N w wr := BW.out.mono hN
      obtain ⟨q0, q1, q2, q3⟩ := HC.out I A hA
      obtain ⟨u0, u1, u2, u3⟩ := HC.out (I + 1) B hB
      have ca0 := (hbw.cell (p := ⟨b, off + I * 4, none⟩) hbs).trans q0
      have ca1 := (hbw.cell (p := ⟨b, off + I * 4 + 1, none⟩) hbs).trans q1
      have ca2 := (hbw.cell (p := ⟨b, off + I * 4 + 2, none⟩) hbs).trans q2
      have ca3 := (hbw.cell (p := ⟨b, off + I * 4 + 3, none⟩) hbs).trans q3
      have cb0 := (hbw.cell (p := ⟨b, off + (I + 1) * 4, none⟩) hbs).trans u0
      have cb1 := (hbw.cell (p := ⟨b, off + (I + 1) * 4 + 1, none⟩) hbs).trans u1
      have cb2 := (hbw.cell (p := ⟨b, off + (I + 1) * 4 + 2, none⟩) hbs).trans u2
      have cb3 := (hbw.cell (p := ⟨b, off + (I + 1) * 4 + 3, none⟩) hbs).trans u3
      have hsz := BW.out.size
      have T0c := Lib.hid (fun W (hW : Below wr.heap.size wr W) => text_of (HB0.out A (List.mem_of_getElem? hA)) (by omega) 1 N W _ (((HX.out I A hA).under hbw).under (hW.mono (Nat.le_trans hN hsz))) (Nat.le_trans hN (Nat.le_trans hsz hW.size)) (HT.out.later (BW.out.trans (hW.mono hsz))))
      have T1c := Lib.hid (fun W (hW : Below wr.heap.size wr W) => text_of (HB0.out B (List.mem_of_getElem? hB)) (by omega) 1 N W _ (((HX.out (I + 1) B hB).under hbw).under (hW.mono (Nat.le_trans hN hsz))) (Nat.le_trans hN (Nat.le_trans hsz hW.size)) (HT.out.later (BW.out.trans (hW.mono hsz))))
      have m0 := lnP_plc 1 (bx A)
      have m1 := lnP_plc 1 (bx B)
      have mA : lnP (bx A).2 = lnP (bare A) := rfl
      have mB : lnP (bx B).2 = lnP (bare B) := rfl
      rw [mA] at m0
      rw [mB] at m1
      have TP : Hid (pairs (r.take (2 * (k + 1))) = pairs (r.take (2 * k)) ++ [pairT A B]) := Lib.hid (take_pair (by rw [← HI.out]; exact hA) (by rw [← HI.out]; exact hB))
      have HPT : Hid (pairT A B = txP (plc 1 (bx A)) ++ 32 :: 46 :: 46 :: 32 :: txP (plc 1 (bx B))) := Lib.hid rfl
      obtain ⟨P, hP⟩ : ∃ P, pairT A B = P := ⟨_, rfl⟩
      rw [hP] at TP HPT
      obtain ⟨xs, hxs⟩ : ∃ xs, (pairs (r.take (2 * k))).map (fun t => Value.string (mb t)) = xs := ⟨_, rfl⟩
      have HXS := Lib.hid hxs
      rw [hxs] at OW
      unfold lnP at m0 m1 lA lB
      obtain ⟨t0, ht0⟩ : ∃ T, txP (plc 1 (bx A)) = T := ⟨_, rfl⟩
      obtain ⟨t1, ht1⟩ : ∃ T, txP (plc 1 (bx B)) = T := ⟨_, rfl⟩
      rw [ht0] at T0c m0 HPT
      rw [ht1] at T1c m1 HPT
      have z0 : ¬ 9223372036854775807 < t0.length + 4 := by omega
      have z1 : ¬ 9223372036854775807 < t0.length + 4 + t1.length := by omega
      have hli : (I : Int) < (n : Int) := by omega
      have hli1 : (I : Int) + 1 < (n : Int) := by omega
      have hli0 : (0 : Int) ≤ (I : Int) + 1 := by omega
      have s1 : IntKind.i64.wrap ((I : Int) + 1) = (I : Int) + 1 := IntWalk.i64_in _ (by omega)
      have s2 : IntKind.i64.wrap ((I : Int) + 2) = (I : Int) + 2 := IntWalk.i64_in _ (by omega)
      obtain ⟨Ao, hAo⟩ : ∃ x, A.op = x := ⟨_, rfl⟩
      rw [hAo] at T0c ca0
      obtain ⟨An, hAn⟩ : ∃ x, A.n = x := ⟨_, rfl⟩
      rw [hAn] at T0c ca1
      obtain ⟨As, hAs⟩ : ∃ x, A.nm = x := ⟨_, rfl⟩
      rw [hAs] at T0c ca2
      obtain ⟨Ak, hAk⟩ : ∃ x, A.args.length = x := ⟨_, rfl⟩
      rw [hAk] at T0c ca3
      obtain ⟨Ap, hAp⟩ : ∃ x, pl I = x := ⟨_, rfl⟩
      rw [hAp] at T0c ca3
      obtain ⟨Ac, hAc⟩ : ∃ x, cl I = x := ⟨_, rfl⟩
      rw [hAc] at T0c ca3
      obtain ⟨Bo, hBo⟩ : ∃ x, B.op = x := ⟨_, rfl⟩
      rw [hBo] at T1c cb0
      obtain ⟨Bn, hBn⟩ : ∃ x, B.n = x := ⟨_, rfl⟩
      rw [hBn] at T1c cb1
      obtain ⟨Bs, hBs⟩ : ∃ x, B.nm = x := ⟨_, rfl⟩
      rw [hBs] at T1c cb2
      obtain ⟨Bk, hBk⟩ : ∃ x, B.args.length = x := ⟨_, rfl⟩
      rw [hBk] at T1c cb3
      obtain ⟨Bp, hBp⟩ : ∃ x, pl (I + 1) = x := ⟨_, rfl⟩
      rw [hBp] at T1c cb3
      obtain ⟨Bc, hBc⟩ : ∃ x, cl (I + 1) = x := ⟨_, rfl⟩
      rw [hBc] at T1c cb3
      clear hA hB lA lB hbw q0 q1 q2 q3 u0 u1 u2 u3 m0 m1 mA mB hP hxs ht0 ht1 hAo hAn hAs hAk hAp hAc hBo hBn hBs hBk hBp hBc
      go_wp2
      go_region_law (first
        | ((refine step_append_lies _ rfl (.tmp 11) (.tmp 25) 45 rfl w.heap.size 9 i0 (.string ⟨#[]⟩) 1 16 Tryz.underlying45 hi hz0 hz1 hz2 rfl (by decide) (.slice tq tk tc) k xs (by simp [Act.eval]) ((ownsRow_later OW.out HB5.out).alloc _) ⟨w5.heap.size, 0, none⟩ 1 1 [.string (mb t0 ++ ⟨#[32, 46, 46, 32]⟩ ++ mb t1)] (by simp [Act.eval]) rfl (by exact cell_one_at rfl _ _) (by simp [Value.oneCell']) (by omega) (by unfold maxLen; omega) (by omega) (by have := HB5.out.size; simp; omega) _ rfl ?_; intro g7 k7 w7 hown hgr hat hlt2; have HO7 := Lib.hid hown; have HG7 := Lib.hid hgr; clear hown hgr hat hlt2))
        | (go_simp; go_at_call 17; (with_reducible refine (T0c.out _ ?_).mono ?_); (first | exact (Below.refl _ _).drew | exact Below.refl _ _); rintro e w4 ⟨rfl, hb⟩; have hb4 := (Below.refl wr.heap.size wr).drew.then_ hb; have v0 := (hb4.cell (p := ⟨b, off + (I + 1) * 4, none⟩) (cell_lt cb0)).trans cb0; have v1 := (hb4.cell (p := ⟨b, off + (I + 1) * 4 + 1, none⟩) (cell_lt cb1)).trans cb1; have v2 := (hb4.cell (p := ⟨b, off + (I + 1) * 4 + 2, none⟩) (cell_lt cb2)).trans cb2; have v3 := (hb4.cell (p := ⟨b, off + (I + 1) * 4 + 3, none⟩) (cell_lt cb3)).trans cb3; have HB4 := Lib.hid hb4; clear hb hb4)
        | (go_simp; go_at_call 17; (with_reducible refine (T1c.out _ ?_).mono ?_); (first | exact HB4.out); rintro e w5 ⟨rfl, hb⟩; have HB5 := Lib.hid (HB4.out.then_ hb); clear hb))
      all_goals
        go_wp2_with fail
        have eS : (mb t0 ++ ⟨#[32, 46, 46, 32]⟩ ++ mb t1) = mb P := by
          apply bs_inj
          rw [HPT.out]
          simp [ByteArray.data_append]
        have h5 := HB5.out.size
        have hlw := own_lt OW.out
        refine ⟨⟨k + 1, I + 2, Lib.hid (by have := HI.out; omega), by omega, by have := HI.out; omega, by go_num, Lib.hid ?_, Lib.hid ?_⟩, by simp [intOf]; omega⟩
        · rw [TP.out, List.map_append, HXS.out]
          have := HO7.out
          rw [eS] at this
          exact this
        · exact Below.grown (w := w5.alloc _) ((BW.out.trans (HB5.out.mono hsz)).alloc (by omega) _) HG7.out (by rw [World.size_alloc]; omega) (fun q e => (hlw q e).1)
    · obtain rfl : I = n := by omega
      have hkh : k = h := by have := HI.out; have := HR.out; omega
      subst hkh
      have htk : r.take (2 * k) = r := List.take_of_length_le (by rw [HN.out]; have := HR.out; omega)
      have hpl : (pairs r).length = k := HPL.out
      have ow := OW.out
      rw [htk] at ow
      have hjl : (txP (rgs (r.map bx))).length ≤ 5000000000 := by
        have q1 := lnP_rgs _ (r.map bx) (Nat.le_refl _)
        have q2 := sumL_le r HL0.out
        rw [List.length_map, HN.out] at q1
        rw [HN.out] at q2
        unfold lnP at q1
        have : I * 130000000 ≤ 32 * 130000000 := Nat.mul_le_mul_right _ hn32
        omega
      rcases ow.2 with ⟨_, hk0⟩ | ⟨g, cap, cur, hv, hB, hg, hle, _, _, htake⟩
      · omega
      · obtain ⟨rfl, rfl, rfl⟩ : tq = some ⟨g, 0, none⟩ ∧ tk = k ∧ tc = cap := by cases hv; exact ⟨rfl, rfl, rfl⟩
        have SJ : Hid (Calls Tryz.prog 105 #[.slice (some ⟨g, 0, none⟩) tk tc, .string ⟨#[44, 32]⟩] wr fun e w' => e = .returned (.string (mb (txP (rgs (r.map bx))))) ∧ Below wr.heap.size wr w') := Lib.hid (by
          have e1 : ((pairs r).map mb).map (·.data.toList) = pairs r := by rw [List.map_map]; exact List.map_id' _
          have q := Tryz.strings_Join g 0 tc ((pairs r).map mb) ⟨#[44, 32]⟩ wr (fun j x hj => by
            rw [Nat.zero_add, cell_of_row wr g j cur 9 (0, 0) hg]
            have hjn := (List.getElem?_eq_some_iff.1 hj).1
            rw [List.length_map, hpl] at hjn
            have h2 : (cur.toList.take (tk * 1))[j]? = some (.string x) := by
              rw [htake, show ((pairs r).map fun t => Value.string (mb t)) = ((pairs r).map mb).map Value.string from by rw [List.map_map]; rfl, List.getElem?_map, hj]
              rfl
            rw [List.getElem?_take, if_pos (by omega)] at h2
            simpa using h2) (Array.getElem?_eq_some_iff.1 hg).1 (by rw [List.length_map, hpl]; omega) (by rw [List.length_map, hpl]; exact hle) (by rw [e1]; show (Lib.join _ [44, 32]).length ≤ _; rw [HJ.out]; omega)
          rw [List.length_map, hpl, e1] at q
          have e2 : Lib.join (pairs r) (⟨#[44, 32]⟩ : ByteArray).data.toList = txP (rgs (r.map bx)) := HJ.out
          rw [e2] at q
          exact q)
        clear hv hB hg hle htake ow hjl htk hpl
        go_wp2_with (go_at_call 105; ((with_reducible refine SJ.out.mono ?_); rintro e w1 ⟨rfl, hb⟩; have HB9 := Lib.hid hb; clear hb))
        go_ret
        exact ⟨rfl, BW.out.trans (HB9.out.mono BW.out.size)⟩
end Go.Proofs.YtlnomiiphlbamaaGreatDoor.EtW
namespace Go.Proofs.YtlnomiiphlbamaaGreatDoor.EtW
open Go Go.RowKit Go.Proofs.YtlnomiiphlbamaaGreatDoor.NumM Go.Proofs.YtlnomiiphlbamaaGreatDoor.LexW Go.Proofs.YtlnomiiphlbamaaGreatDoor.LexM Go.Proofs.YtlnomiiphlbamaaGreatDoor.ExM Go.Proofs.YtlnomiiphlbamaaGreatDoor.ExW Go.Proofs.YtlnomiiphlbamaaGreatDoor.EtM

set_option maxRecDepth 100000 in
set_option maxHeartbeats 8000000 in
theorem bare_ins {A : Ex} {r : List Ex} (h1 : 2 ≤ r.length) (h2 : r.length ≤ 32) (h3 : r.length % 2 = 0) (hA : BareC A) (lA : lnP (bare A) ≤ 130000000) (hB : ∀ a ∈ r, BareC a) (lB : ∀ a ∈ r, lnP (bare a) ≤ 130000000) : BareC (.mk 23 0 ⟨#[]⟩ (A :: r)) := by
  intro N w v hx hN ht
  obtain ⟨p, c, pl, cl, rfl, hs, ha⟩ := hx.form
  simp only [Ex.op, Ex.n, Ex.nm, Ex.args, List.length_cons] at hs ha ⊢
  obtain ⟨b, off, rfl, hbs, hcell⟩ := ha.hp (by simp)
  have hcap : (A :: r).length ≤ c := ha.hc
  have hxs := ha.hx
  obtain ⟨n, hn⟩ : ∃ n, r.length = n := ⟨_, rfl⟩
  obtain ⟨K, hK⟩ : ∃ K, n + 1 = K := ⟨_, rfl⟩
  rw [List.length_cons, hn, hK] at hcap
  have W1 : Below w.heap.size w (w.alloc (.cells #[.int .i64 23, .int .i64 0, .string ⟨#[]⟩, .slice (some ⟨b, off, none⟩) K c] 24)) := (Below.refl _ _).alloc (Nat.le_refl _) _
  have F1 := Four.new w (.int .i64 23) (.int .i64 0) (.string ⟨#[]⟩) (.slice (some ⟨b, off, none⟩) K c) 24
  have x0 := hxs 0 A rfl
  obtain ⟨q0, q1, q2, q3⟩ := hcell 0 A rfl
  have d00 : (w.alloc (.cells #[.int .i64 23, .int .i64 0, .string ⟨#[]⟩, .slice (some ⟨b, off, none⟩) K c] 24)).cell? ⟨b, off, none⟩ = some (.int .i64 A.op) := (W1.cell (p := ⟨b, off, none⟩) (Nat.lt_of_lt_of_le hbs hN)).trans (by simpa using q0)
  have d01 : (w.alloc (.cells #[.int .i64 23, .int .i64 0, .string ⟨#[]⟩, .slice (some ⟨b, off, none⟩) K c] 24)).cell? ⟨b, off + 1, none⟩ = some (.int .i64 A.n) := (W1.cell (p := ⟨b, off + 1, none⟩) (Nat.lt_of_lt_of_le hbs hN)).trans (by simpa using q1)
  have d02 : (w.alloc (.cells #[.int .i64 23, .int .i64 0, .string ⟨#[]⟩, .slice (some ⟨b, off, none⟩) K c] 24)).cell? ⟨b, off + 2, none⟩ = some (.string A.nm) := (W1.cell (p := ⟨b, off + 2, none⟩) (Nat.lt_of_lt_of_le hbs hN)).trans (by simpa using q2)
  have d03 : (w.alloc (.cells #[.int .i64 23, .int .i64 0, .string ⟨#[]⟩, .slice (some ⟨b, off, none⟩) K c] 24)).cell? ⟨b, off + 3, none⟩ = some (.slice (pl 0) A.args.length (cl 0)) := (W1.cell (p := ⟨b, off + 3, none⟩) (Nat.lt_of_lt_of_le hbs hN)).trans (by simpa using q3)
  have T0c := Lib.hid (fun W (hW : Below (w.alloc (.cells #[.int .i64 23, .int .i64 0, .string ⟨#[]⟩, .slice (some ⟨b, off, none⟩) K c] 24)).heap.size (w.alloc (.cells #[.int .i64 23, .int .i64 0, .string ⟨#[]⟩, .slice (some ⟨b, off, none⟩) K c] 24)) W) => text_of hA (by omega) 9 N W _ ((x0.under (W1.mono hN)).under (hW.mono (by rw [World.size_alloc]; omega))) (Nat.le_trans hN (Nat.le_trans W1.size hW.size)) (ht.later (W1.then_ hW)))
  have T1c := Lib.hid (fun W (hW : Below (w.alloc (.cells #[.int .i64 23, .int .i64 0, .string ⟨#[]⟩, .slice (some ⟨b, off, none⟩) K c] 24)).heap.size (w.alloc (.cells #[.int .i64 23, .int .i64 0, .string ⟨#[]⟩, .slice (some ⟨b, off, none⟩) K c] 24)) W) => by
    have hwW : Below N w W := (W1.then_ hW).mono hN
    have q := ranges_any (r := r) (h := n / 2) hB lB (by omega) (by omega) (by omega) N W b (off + 4) (c - 1) (fun i => pl (i + 1)) (fun i => cl (i + 1)) hbs (Nat.le_trans hN (Nat.le_trans W1.size hW.size)) (ht.later (W1.then_ hW)) (fun i a hi => (hxs (i + 1) a hi).under hwW) (fun i a hi => by
      obtain ⟨u0, u1, u2, u3⟩ := hcell (i + 1) a hi
      rw [show off + 4 + i * 4 = off + (i + 1) * 4 by omega]
      exact ⟨(hwW.cell (p := ⟨b, off + (i + 1) * 4, none⟩) hbs).trans u0, (hwW.cell (p := ⟨b, off + (i + 1) * 4 + 1, none⟩) hbs).trans u1, (hwW.cell (p := ⟨b, off + (i + 1) * 4 + 2, none⟩) hbs).trans u2, (hwW.cell (p := ⟨b, off + (i + 1) * 4 + 3, none⟩) hbs).trans u3⟩)
    rw [hn] at q
    exact q)
  have m0 := lnP_plc 9 (bx A)
  have m0' : lnP (bx A).2 = lnP (bare A) := rfl
  rw [m0'] at m0
  have m1 := lnP_rgs _ (r.map bx) (Nat.le_refl _)
  have m2 := sumL_le r lB
  rw [List.length_map, hn] at m1
  rw [hn] at m2
  have m3 : n * 130000000 ≤ 32 * 130000000 := Nat.mul_le_mul_right _ (by omega)
  unfold lnP at m0 lA m1
  have HP : Hid (txP (bare (.mk 23 0 ⟨#[]⟩ (A :: r))) = txP (plc 9 (bx A)) ++ 32 :: (insW ++ 32 :: 123 :: 32 :: (txP (rgs (r.map bx)) ++ [32, 125]))) := Lib.hid (by rw [bare_mk]; show txP (ins (bx A) (r.map bx)) = _; unfold ins; simp only [txP_app, txP_cons, txP_nil, Pc.tx, List.append_nil]; rfl)
  rw [HP.out, hn, hK]
  clear HP
  obtain ⟨t0, ht0⟩ : ∃ T, txP (plc 9 (bx A)) = T := ⟨_, rfl⟩
  rw [ht0] at T0c m0 ⊢
  obtain ⟨t1, ht1⟩ : ∃ T, txP (rgs (r.map bx)) = T := ⟨_, rfl⟩
  rw [ht1] at T1c m1 ⊢
  show Calls _ _ #[.agg #[.int .i64 23, .int .i64 0, .string ⟨#[]⟩, .slice (some ⟨b, off, none⟩) K c]] w _
  obtain ⟨Ao, hAo⟩ : ∃ x, A.op = x := ⟨_, rfl⟩
  rw [hAo] at T0c d00
  obtain ⟨An, hAn⟩ : ∃ x, A.n = x := ⟨_, rfl⟩
  rw [hAn] at T0c d01
  obtain ⟨As, hAs⟩ : ∃ x, A.nm = x := ⟨_, rfl⟩
  rw [hAs] at T0c d02
  obtain ⟨Ak, hAk⟩ : ∃ x, A.args.length = x := ⟨_, rfl⟩
  rw [hAk] at T0c d03
  obtain ⟨Ap, hAp⟩ : ∃ x, pl 0 = x := ⟨_, rfl⟩
  rw [hAp] at T0c d03
  obtain ⟨Ac, hAc⟩ : ∃ x, cl 0 = x := ⟨_, rfl⟩
  rw [hAc] at T0c d03
  have e0 := F1.c0
  have e1 := F1.c1
  have e2 := F1.c2
  have e3 := F1.c3
  have HW1 := Lib.hid W1
  have KK := Lib.hid (fun W (hW : Below (w.alloc (.cells #[.int .i64 23, .int .i64 0, .string ⟨#[]⟩, .slice (some ⟨b, off, none⟩) K c] 24)).heap.size (w.alloc (.cells #[.int .i64 23, .int .i64 0, .string ⟨#[]⟩, .slice (some ⟨b, off, none⟩) K c] 24)) W) => And.intro (F1.stay hW).c3 (And.intro ((hW.cell (p := ⟨b, off, none⟩) (cell_lt d00)).trans d00) (And.intro ((hW.cell (p := ⟨b, off + 1, none⟩) (cell_lt d01)).trans d01) (And.intro ((hW.cell (p := ⟨b, off + 2, none⟩) (cell_lt d02)).trans d02) ((hW.cell (p := ⟨b, off + 3, none⟩) (cell_lt d03)).trans d03)))))
  have z0 : ¬ 9223372036854775807 < t0.length + 1 := by omega
  have z1 : ¬ 9223372036854775807 < t0.length + 1 + 6 := by omega
  have z2 : ¬ 9223372036854775807 < t0.length + 1 + 6 + 3 := by omega
  have z3 : ¬ 9223372036854775807 < t0.length + 1 + 6 + 3 + t1.length := by omega
  have z4 : ¬ 9223372036854775807 < t0.length + 1 + 6 + 3 + t1.length + 2 := by omega
  have k1 : (1 : Int) ≤ (K : Int) := by omega
  have k2 : (0 : Int) < (K : Int) := by omega
  have k3 : (K : Int) ≤ (c : Int) := by omega
  have k4 : K - 1 = n := by omega
  have k5 : 0 < K := by omega
  have k6 : ¬ c = 1 := by omega
  have k7 : 1 ≤ K := by omega
  clear hx ha hs W1 F1 hcell hxs x0 q0 q1 q2 q3 hA lA hB lB m0 m0' m1 m2 m3 ht ht0 ht1 hn hAo hAn hAs hAk hAp hAc
  go_enter Tryz.func35, Tryz.ntmps35
  go_wp2
  go_region_held3 (fun w' => w'.cell? ⟨w.heap.size, 3, none⟩ = some (.slice (some ⟨b, off, none⟩) K c) ∧ w'.cell? ⟨b, off, none⟩ = some (.int .i64 Ao) ∧ w'.cell? ⟨b, off + 1, none⟩ = some (.int .i64 An) ∧ w'.cell? ⟨b, off + 2, none⟩ = some (.string As) ∧ w'.cell? ⟨b, off + 3, none⟩ = some (.slice Ap Ak Ac)) (first | exact KK.out _ (Below.refl _ _).drew | exact KK.out _ (Below.refl _ _) | exact KK.out _ HB0.out | exact KK.out _ HB1.out) (first
    | (go_at_call 17; (with_reducible refine (T0c.out _ ?_).mono ?_); (first | exact (Below.refl _ _).drew | exact Below.refl _ _); rintro e w3 ⟨rfl, hb⟩; have HB0 := Lib.hid ((Below.refl _ _).drew.then_ hb); have KN0 := KK.out _ HB0.out; clear hb)
    | (go_at_call 73; (with_reducible refine (T1c.out _ ?_).mono ?_); (first | exact HB0.out); rintro e w4 ⟨rfl, hb⟩; have HB1 := Lib.hid (HB0.out.then_ hb); have KN1 := KK.out _ HB1.out; clear hb))
  all_goals
    go_wp2
    go_ret
    exact tSt_mk (by simp [ByteArray.data_append, insW]) (HW1.out.then_ HB1.out)
theorem bare_bin {o : Int} (h7 : 7 ≤ o) (h21 : o ≤ 21) {A1 A2 : Ex} (hA1 : BareC A1) (lA1 : lnP (bare A1) ≤ 200000000) (hA2 : BareC A2) (lA2 : lnP (bare A2) ≤ 200000000) : BareC (.mk o 0 ⟨#[]⟩ [A1, A2]) := bare_bin0 h7 h21 hA1 lA1 hA2 lA2
theorem bare_sh {o n : Int} {s : ByteArray} {ks : List Ex} (h : Sh o n s ks) (hk : ∀ a ∈ ks, BareC a) (lk : ∀ a ∈ ks, lnP (bare a) ≤ 130000000) : BareC (.mk o n s ks) := by
  cases h with
  | con _ h0 h1 => exact bare_con h0 h1
  | var _ h => exact bare_var h
  | sum _ h => exact bare_sum h
  | elm _ a h => exact bare_elm h (hk a (by simp)) (by have := lk a (by simp); omega)
  | ons a => exact bare_ons (hk a (by simp)) (by have := lk a (by simp); omega)
  | pre _ a ho =>
    rcases ho with rfl | rfl | rfl
    · exact bare_pre4 (hk a (by simp)) (by have := lk a (by simp); omega)
    · exact bare_pre5 (hk a (by simp)) (by have := lk a (by simp); omega)
    · exact bare_pre6 (hk a (by simp)) (by have := lk a (by simp); omega)
  | bin _ a b ho ho' => exact bare_bin ho ho' (hk a (by simp)) (by have := lk a (by simp); omega) (hk b (by simp)) (by have := lk b (by simp); omega)
  | iff a b c => exact bare_iff (hk a (by simp)) (by have := lk a (by simp); omega) (hk b (by simp)) (by have := lk b (by simp); omega) (hk c (by simp)) (by have := lk c (by simp); omega)
  | ins a r h1 h2 h3 => exact bare_ins h1 h2 h3 (hk a (by simp)) (lk a (by simp)) (fun b hb => hk b (by simp [hb])) (fun b hb => lk b (by simp [hb]))
theorem bare_all (e : Ex) : Ok e → sz e ≤ 2000000 → BareC e := by
  induction e using Ex.ind with
  | h o n s ks ih =>
    intro h hsz
    obtain ⟨h1, h2⟩ := (ok_mk o n s ks).1 h
    rw [sz_mk] at hsz
    exact bare_sh (EtM.shape h1) (fun a ha => ih a ha (h2 a ha) (by have := sz_mem ha; omega)) (fun a ha => by have := prn_len a (h2 a ha); unfold Bd at this; have := sz_mem ha; omega)
def Rg1 (x : Int) : Prop := x = 0 ∨ 2 ≤ x
theorem rg1_ite {p : Prop} [Decidable p] {a b : Int} (h : Rg1 a) (k : Rg1 b) : Rg1 (if p then a else b) := by split <;> assumption
theorem lvS_pos (o : Int) : 1 ≤ lvS o := by
  have h : Rg1 (bLev o) := by
    unfold bLev
    repeat' (refine rg1_ite ?_ ?_)
    all_goals first | (exact .inr (by decide)) | (exact .inl rfl)
  unfold Rg1 at h
  unfold lvS
  repeat' split
  all_goals omega
/-- What Print returns. -/
def prS (e : Ex) : List UInt8 := if vld e ≠ 0 then [] else prn e
theorem plc_one (e : Ex) : txP (plc 1 (bx e)) = prn e := by
  rw [txP_plc, if_neg (by have := lvS_pos (bx e).1; omega)]
  rfl
set_option maxRecDepth 100000 in
set_option maxHeartbeats 4000000 in
theorem print_any (e : Ex) (v : Value) (w : World) (hx : ExAt w.heap.size w v e) (hsz : sz e ≤ 2000000) (ht : TabE w) : Calls Tryz.prog 7 #[v] w (tSt (prS e) w) := by
  obtain ⟨p, c, pl, cl, rfl, hs, _⟩ := hx.form
  have W1 : Below w.heap.size w (w.alloc (.cells #[.int .i64 e.op, .int .i64 e.n, .string e.nm, .slice p e.args.length c] 24)) := (Below.refl _ _).alloc (Nat.le_refl _) _
  have F1 := Four.new w (.int .i64 e.op) (.int .i64 e.n) (.string e.nm) (.slice p e.args.length c) 24
  have hx1 : ExAt (w.alloc (.cells #[.int .i64 e.op, .int .i64 e.n, .string e.nm, .slice p e.args.length c] 24)).heap.size (w.alloc (.cells #[.int .i64 e.op, .int .i64 e.n, .string e.nm, .slice p e.args.length c] 24)) (xv e.op e.n e.nm (.slice p e.args.length c)) e := hx.later W1
  have VC := Lib.hid (valid_any e _ _ hx1 hsz (ht.base.later W1))
  have TC0 : Hid (vld e = 0 → ∀ W, Below (w.alloc (.cells #[.int .i64 e.op, .int .i64 e.n, .string e.nm, .slice p e.args.length c] 24)).heap.size (w.alloc (.cells #[.int .i64 e.op, .int .i64 e.n, .string e.nm, .slice p e.args.length c] 24)) W → Calls Tryz.prog 17 #[xv e.op e.n e.nm (.slice p e.args.length c), .int .i64 1] W (tSt (prn e) W)) := Lib.hid (fun h0 W hW => by
    have hok := ((vld_zero e).1 h0).1
    have hl := prn_len e hok
    unfold Bd at hl
    have q := text_of (bare_all e hok hsz) (by omega) 1 _ W _ (hx1.under hW) hW.size (ht.later (W1.then_ hW))
    rw [plc_one] at q
    exact q)
  have HPS : Hid (prS e = if vld e ≠ 0 then [] else prn e) := Lib.hid rfl
  rw [HPS.out]
  have HF1 := Lib.hid F1
  have HW1 := Lib.hid W1
  have b0 := F1.c0
  have b1 := F1.c1
  have b2 := F1.c2
  have b3 := F1.c3
  clear hx hx1 W1 F1 hs hsz ht HPS
  obtain ⟨V, hV⟩ : ∃ x, vld e = x := ⟨_, rfl⟩
  obtain ⟨P, hP⟩ : ∃ x, prn e = x := ⟨_, rfl⟩
  rw [hV] at VC TC0 ⊢
  rw [hP] at TC0 ⊢
  clear hV hP
  show Calls _ _ #[.agg #[.int .i64 e.op, .int .i64 e.n, .string e.nm, .slice p e.args.length c]] w _
  generalize e.op = o at *
  generalize e.n = n at *
  generalize e.nm = s at *
  generalize e.args.length = k at *
  by_cases g : V = 0
  · subst g
    rw [if_neg (by decide)]
    have TC0 := Lib.hid (TC0.out rfl)
    go_enter Tryz.func7, Tryz.ntmps7
    go_wp2_with (first
      | (go_at_call 16; ((with_reducible refine VC.out.mono ?_); rintro e w3 ⟨rfl, hb⟩; have F3 := HF1.out.stay hb; clear b0 b1 b2 b3; have b0 := F3.c0; have b1 := F3.c1; have b2 := F3.c2; have b3 := F3.c3; have HB3 := Lib.hid (HW1.out.then_ hb); have TC := Lib.hid (TC0.out _ hb); clear hb F3))
      | (go_at_call 17; ((with_reducible refine TC.out.mono ?_); rintro e w4 ⟨rfl, hb⟩; have HB4 := Lib.hid (HB3.out.then_ hb); clear hb)))
    go_ret
    exact ⟨rfl, HB4.out⟩
  · rw [if_pos g]
    go_enter Tryz.func7, Tryz.ntmps7
    go_wp2_with (go_at_call 16; ((with_reducible refine VC.out.mono ?_); rintro e w3 ⟨rfl, hb⟩; have F3 := HF1.out.stay hb; clear b0 b1 b2 b3; have b0 := F3.c0; have b1 := F3.c1; have b2 := F3.c2; have b3 := F3.c3; have HB3 := Lib.hid (HW1.out.then_ hb); clear hb F3))
    go_ret
    exact ⟨rfl, HB3.out⟩
end Go.Proofs.YtlnomiiphlbamaaGreatDoor.EtW
