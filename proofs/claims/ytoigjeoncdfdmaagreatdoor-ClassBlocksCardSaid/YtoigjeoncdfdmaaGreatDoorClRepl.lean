/-
  What replaced returns; rows of blocks that the call owns.
-/
import Derived.Test.YtoigjeoncdfdmaaGreatDoorClSClone
import Derived.Test.YtoigjeoncdfdmaaGreatDoorClIndex
import Derived.Maps.AppendAt
namespace Go.Proofs.YtoigjeoncdfdmaaGreatDoor.ClW
open Go Go.RowKit Go.Proofs.YtoigjeoncdfdmaaGreatDoor.NumM Go.Proofs.YtoigjeoncdfdmaaGreatDoor.LexW Go.Proofs.YtoigjeoncdfdmaaGreatDoor.LexM Go.Proofs.YtoigjeoncdfdmaaGreatDoor.ClM
open Go.«Sort»

theorem own_set {w : World} {B : Nat} {e : TypeId} {size g n cap : Nat} {xs : List Value} {o : Nat} (h : w.ownsRow B e size (.slice (some ⟨g, 0, none⟩) n cap) n xs) (u : Value) :
    (w.setCell ⟨g, o, none⟩ u).ownsRow B e size (.slice (some ⟨g, 0, none⟩) n cap) n (xs.set o u) := by
  obtain ⟨hl, ⟨hv, _⟩ | ⟨g', cap', cur, hv, hB, hg, h1, h2, h3, h4⟩⟩ := h
  · cases hv
  · cases hv
    refine ⟨by rw [List.length_set]; exact hl, .inr ⟨g, cap, cur.setIfInBounds o u, rfl, hB, ?_, h1, h2, by simpa using h3, ?_⟩⟩
    · simp [World.setCell, Array.getElem?_modify, hg]
    · rw [← h4]
      simp [Array.toList_setIfInBounds, List.take_set]
theorem grown_set (w : World) (g i : Nat) (u : Value) : w.grownBy (w.setCell ⟨g, i, none⟩ u) (some g) :=
  ⟨rfl, rfl, rfl, by rw [setCell_size]; exact Nat.le_refl _, fun k _ hne => Go.Deep.blk_setCell_other _ _ _ _ (fun e => hne (congrArg some e))⟩
theorem grown_below {w w' : World} (h : Below w.heap.size w w') (row : Option Nat) : w.grownBy w' row := ⟨h.os, h.tape, h.output, h.size, fun k hk _ => h.block k hk⟩
theorem below_grown {w w' : World} (h : w.grownBy w' none) : Below w.heap.size w w' := ⟨h.os, h.tape, h.output, h.size, fun k hk => h.block k hk (by simp)⟩
theorem At.grown {N : Nat} {w w' : World} {row : Option Nat} {sh : Sh} {v : Value} {lf : Lf} (h : At (Lo N) w sh v lf) (hg : w.grownBy w' row) (hN : N ≤ w.heap.size) (hr : ∀ b, row = some b → N ≤ b) : At (Lo N) w' sh v lf :=
  h.kept (fun _ h => h) (fun b o hb _ hv => (World.cell?_of_block (w := w) (a := ⟨b, o, none⟩) (hg.block b (Nat.lt_of_lt_of_le hb hN) (fun e => by have := hr b e.symm; have : b < N := hb; omega))).trans hv)
/-- The cells of a row of blocks. -/
structure BkC (N : Nat) (w : World) (bs : List Bk) (xs : List Value) : Prop where
  at_ : ∀ (i : Nat) (b : Bk), bs[i]? = some b → ∃ pi ci, xs[i * 2]? = some (.string b.nm) ∧ xs[i * 2 + 1]? = some (.slice pi b.it.length ci) ∧ b.nm.size ≤ 140737488351232 ∧ At (Lo N) w (.r .items) (.slice pi b.it.length ci) (.row .items b.it)
/-- A row of blocks of the call's own; their constraints lie below block N. -/
def BRow (N B : Nat) (w : World) (v : Value) (bs : List Bk) : Prop := ∃ xs, w.ownsRow B 54 2 v bs.length xs ∧ BkC N w bs xs
theorem BRow.nil (N B : Nat) (w : World) : BRow N B w (.slice none 0 0) [] := ⟨[], World.ownsRow_nil _ _ _ _, ⟨fun i b h => by simp at h⟩⟩
theorem BRow.grown {N B : Nat} {w w' : World} {v : Value} {bs : List Bk} {row : Option Nat} (h : BRow N B w v bs) (hg : w.grownBy w' row) (hN : N ≤ w.heap.size) (hr : ∀ b, row = some b → N ≤ b ∧ v.ownBlock ≠ some b) : BRow N B w' v bs := by
  obtain ⟨xs, ho, hc⟩ := h
  refine ⟨xs, own_grown ho hg (fun b hb e => (hr b e).2 hb), ⟨fun i b hi => ?_⟩⟩
  obtain ⟨pi, ci, h1, h2, h3, h4⟩ := hc.at_ i b hi
  exact ⟨pi, ci, h1, h2, h3, h4.grown hg hN (fun b e => (hr b e).1)⟩
theorem BRow.later {N B : Nat} {w w' : World} {v : Value} {bs : List Bk} (h : BRow N B w v bs) (hb : Below w.heap.size w w') (hN : N ≤ w.heap.size) : BRow N B w' v bs := h.grown (grown_below hb none) hN (fun b e => by cases e)
theorem BRow.far {N B : Nat} {w : World} {v : Value} {bs : List Bk} (h : BRow N B w v bs) (hN : N ≤ w.heap.size) {g i : Nat} (u : Value) (h1 : N ≤ g) (h2 : v.ownBlock ≠ some g) : BRow N B (w.setCell ⟨g, i, none⟩ u) v bs :=
  h.grown (grown_set w g i u) hN (fun b e => by cases e; exact ⟨h1, h2⟩)
theorem BRow.rowA {N B : Nat} {w : World} {v : Value} {bs : List Bk} (h : BRow N B w v bs) (hl : bs.length ≤ 100000) : ∃ p cap G, v = .slice p bs.length cap ∧ RowA (fun b => b < N ∨ (B ≤ b ∧ b < w.heap.size ∧ v.ownBlock = some b)) w .blocks p cap G (bs.map Bk.lf) := by
  obtain ⟨xs, ho, hc⟩ := h
  obtain ⟨p, cap, rfl⟩ := own_len ho
  refine ⟨p, cap, _, rfl, rowA_own (k := .blocks) ho (List.length_map _) (by simp only [byt]; omega) (fun i x hx => ?_) (fun i x j y sh hx hy hsh => ?_) (fun g h1 h2 h3 => .inr ⟨h1, h2, h3⟩)⟩
  · rw [List.getElem?_map] at hx
    obtain ⟨b, _, rfl⟩ := Option.map_eq_some_iff.1 hx
    rfl
  · rw [List.getElem?_map] at hx
    obtain ⟨b, hb, rfl⟩ := Option.map_eq_some_iff.1 hx
    obtain ⟨pi, ci, h1, h2, h3, h4⟩ := hc.at_ i b hb
    match j, hy, hsh with
    | 0, hy, hsh =>
      cases hy
      cases hsh
      have e : xs.getD (i * (shp Kd.blocks).length + 0) undef = .string b.nm := by
        rw [List.getD_eq_getElem?_getD, show i * (shp Kd.blocks).length + 0 = i * 2 from rfl, h1]; rfl
      rw [e]
      exact .s _ h3
    | 1, hy, hsh =>
      cases hy
      cases hsh
      have e : xs.getD (i * (shp Kd.blocks).length + 1) undef = .slice pi b.it.length ci := by
        rw [List.getD_eq_getElem?_getD, show i * (shp Kd.blocks).length + 1 = i * 2 + 1 from rfl, h2]; rfl
      rw [e]
      exact h4.weak (fun b h => .inl h)
    | j + 2, hy, _ => simp [Bk.lf] at hy
theorem BRow.snoc {N B : Nat} {w w' : World} {v v' : Value} {bs : List Bk} {b : Bk} {xs : List Value} {pi : Option Addr} {ci : Nat} (hc : BkC N w bs xs) (hl : xs.length = bs.length * 2) (hs : b.nm.size ≤ 140737488351232) (hat : At (Lo N) w (.r .items) (.slice pi b.it.length ci) (.row .items b.it))
    (ho : w'.ownsRow B 54 2 v' (bs.length + 1) (xs ++ [.string b.nm, .slice pi b.it.length ci])) (hg : w.grownBy w' v.ownBlock) (hN : N ≤ w.heap.size) (hv : ∀ g, v.ownBlock = some g → N ≤ g) : BRow N B w' v' (bs ++ [b]) := by
  refine ⟨_, by rw [List.length_append]; exact ho, ⟨fun i x hi => ?_⟩⟩
  rcases Nat.lt_or_ge i bs.length with h | h
  · rw [List.getElem?_append_left h] at hi
    obtain ⟨p, c, h1, h2, h3, h4⟩ := hc.at_ i x hi
    refine ⟨p, c, ?_, ?_, h3, h4.grown hg hN hv⟩
    · rw [List.getElem?_append_left (by omega)]; exact h1
    · rw [List.getElem?_append_left (by omega)]; exact h2
  · have hil := (List.getElem?_eq_some_iff.1 hi).1
    rw [List.length_append] at hil
    have e : i = bs.length := by simp at hil; omega
    subst e
    rw [List.getElem?_append_right (Nat.le_refl _), Nat.sub_self] at hi
    obtain rfl : b = x := by simpa using hi
    refine ⟨pi, ci, ?_, ?_, hs, hat.grown hg hN hv⟩
    · rw [List.getElem?_append_right (by omega), show bs.length * 2 - xs.length = 0 by omega]; rfl
    · rw [List.getElem?_append_right (by omega), show bs.length * 2 + 1 - xs.length = 1 by omega]; rfl
theorem BRow.put {N B : Nat} {w : World} {g cap i : Nat} {bs : List Bk} {b : Bk} {pi : Option Addr} {ci : Nat} (h : BRow N B w (.slice (some ⟨g, 0, none⟩) bs.length cap) bs) (hi : i < bs.length) (hs : b.nm.size ≤ 140737488351232) (hat : At (Lo N) w (.r .items) (.slice pi b.it.length ci) (.row .items b.it)) (hN : N ≤ w.heap.size) (hg : N ≤ g) :
    BRow N B ((w.setCell ⟨g, i * 2, none⟩ (.string b.nm)).setCell ⟨g, i * 2 + 1, none⟩ (.slice pi b.it.length ci)) (.slice (some ⟨g, 0, none⟩) bs.length cap) (bs.set i b) := by
  obtain ⟨xs, ho, hc⟩ := h
  have hxl : xs.length = bs.length * 2 := ho.1
  have hgr : w.grownBy ((w.setCell ⟨g, i * 2, none⟩ (.string b.nm)).setCell ⟨g, i * 2 + 1, none⟩ (.slice pi b.it.length ci)) (some g) := (grown_set w g (i * 2) (.string b.nm)).trans (grown_set _ g (i * 2 + 1) (.slice pi b.it.length ci))
  refine ⟨(xs.set (i * 2) (.string b.nm)).set (i * 2 + 1) (.slice pi b.it.length ci), by rw [List.length_set]; exact own_set (own_set ho _) _, ⟨fun j x hx => ?_⟩⟩
  rw [List.getElem?_set] at hx
  split at hx
  · rename_i e
    subst e
    obtain rfl : b = x := by simpa [hi] using hx
    refine ⟨pi, ci, ?_, ?_, hs, hat.grown hgr hN (fun b e => by cases e; exact hg)⟩
    · rw [List.getElem?_set, if_neg (by omega), List.getElem?_set, if_pos rfl, if_pos (by omega)]
    · rw [List.getElem?_set, if_pos rfl, List.length_set, if_pos (by omega)]
  · rename_i e
    obtain ⟨p, c, h1, h2, h3, h4⟩ := hc.at_ j x hx
    refine ⟨p, c, ?_, ?_, h3, h4.grown hgr hN (fun b e => by cases e; exact hg)⟩
    · rw [List.getElem?_set, if_neg (by omega), List.getElem?_set, if_neg (by omega)]; exact h1
    · rw [List.getElem?_set, if_neg (by omega), List.getElem?_set, if_neg (by omega)]; exact h2
theorem repl1_any (nm x : ByteArray) (v : Value) (a : Nat) (w : World) (hx : w.cell? ⟨a, 0, none⟩ = some (.string x)) : Calls Tryz.prog 106 #[bv nm v, .pointer (some ⟨a, 0, none⟩)] w (tBool (same nm x) w) := by
  have F0 := Blk.new w [.string nm, v] 54
  have c0 := F0.c 0 _ rfl
  have ha := World.block_lt_of_cell? w ⟨a, 0, none⟩ hx
  have HB := Lib.hid (ba w (.cells #[.string nm, v] 54))
  have hx2 : (w.alloc (.cells #[.string nm, v] 54)).cell? ⟨a, 0, none⟩ = some (.string x) := (HB.out.cell (p := ⟨a, 0, none⟩) ha).trans hx
  clear F0
  obtain ⟨q, hq⟩ : ∃ q, same nm x = q := ⟨_, rfl⟩
  have e1 := same_walk hq
  rw [hq]
  clear hq ha
  go_enter Tryz.func106, Tryz.ntmps106
  go_wp2
  go_ret
  exact ⟨rfl, HB.out⟩
def tRep (N B : Nat) (bs : List Bk) (row : Option Nat) (w : World) (e : Ending) (w' : World) : Prop := ∃ v', e = .returned v' ∧ BRow N B w' v' bs ∧ w.grownBy w' row ∧ ∀ k, v'.ownBlock = some k → row = some k ∨ w.heap.size ≤ k
theorem addB_some {bs : List Bk} {b : Bk} {i : Nat} (h : plc bs b.nm = some i) : addB bs b = bs.set i b := by unfold addB; rw [h]
theorem addB_none {bs : List Bk} {b : Bk} (h : plc bs b.nm = none) : addB bs b = bs ++ [b] := by unfold addB; rw [h]
theorem plc_lt {bs : List Bk} {x : ByteArray} {i : Nat} (h : plc bs x = some i) : i < bs.length := by
  unfold plc at h
  exact (List.findIdx?_eq_some_iff_getElem.1 h).1
theorem infoBk : (Tryz.prog.info? 54).map (fun i => (i.zero, i.size, i.bytes)) = some (some (.agg #[.string ⟨#[]⟩, .slice none 0 0]), 2, 40) := infoBlocks
set_option maxRecDepth 100000 in
set_option maxHeartbeats 8000000 in
theorem replaced_any (bs : List Bk) (b : Bk) (v : Value) (pi : Option Addr) (ci N B : Nat) (w : World) (hr : BRow N B w v bs) (hNB : N ≤ B) (hBw : B ≤ w.heap.size) (hl : bs.length ≤ 10000) (hs : b.nm.size ≤ 140737488351232) (hat : At (Lo N) w (.r .items) (.slice pi b.it.length ci) (.row .items b.it)) :
    Calls Tryz.prog 91 #[v, bv b.nm (.slice pi b.it.length ci)] w (tRep N B (addB bs b) v.ownBlock w) := by
  obtain ⟨i0, hi, hz0, hz1, hz2⟩ := info_parts infoBk
  have hb1 : Below w.heap.size w (w.alloc (.cells #[.string b.nm, .slice pi b.it.length ci] 54)) := ba w _
  have FB := Blk.new w [.string b.nm, .slice pi b.it.length ci] 54
  have hr1 := hr.later hb1 (by omega)
  obtain ⟨p, cap, G, hv, ra⟩ := hr1.rowA (by omega)
  have IC := repl_ix bs (fun a => same a.nm b.nm) p cap G w.heap.size _ (ra.kept (S' := Lo w.heap.size) (fun x hx => by
      rcases hx with hx | ⟨h1, h2, h3⟩
      · exact Nat.lt_of_lt_of_le hx (by omega)
      · obtain ⟨xs, ho, _⟩ := hr
        exact (ho.lt x h3).2) (fun _ _ _ _ h => h)) (by simp) w.heap.size (fun c hc W v' hW => repl1_any c.nm b.nm v' w.heap.size W ((hW.cell (p := ⟨w.heap.size, 0, none⟩) (by simp)).trans (FB.c 0 _ rfl)))
  have HIC := Lib.hid IC
  have HR := Lib.hid hr1
  have HAT := Lib.hid (hat.under (hb1.mono (by omega)))
  have HB1 := Lib.hid hb1
  have HF := Lib.hid FB
  have c0 := FB.c 0 _ rfl
  have c1 := FB.c 1 _ rfl
  have hK : ∃ K, bs.length = K := ⟨_, rfl⟩
  cases hp : plc bs b.nm with
  | none =>
    have hix : idxI (bs.findIdx? (fun a => same a.nm b.nm)) = -1 := by
      have : bs.findIdx? (fun a => same a.nm b.nm) = none := hp
      rw [this]; rfl
    rw [hix] at HIC
    have EA := Lib.hid (addB_none hp)
    subst hv
    clear hix hp IC FB hr hat hr1 ra hb1 hK
    go_enter Tryz.func91, Tryz.ntmps91
    go_wp2_with (first
      | (go_at_call 105; ((with_reducible refine HIC.out.mono ?_); rintro e w2 ⟨rfl, hb2⟩; have HB2 := Lib.hid hb2; have F2 := HF.out.stay hb2; have HR2 := Lib.hid (HR.out.later hb2 (by simp; omega)); have HAT2 := Lib.hid (HAT.out.under (hb2.mono (by simp; omega))); clear c0 c1; have c0 := F2.c 0 _ rfl; have c1 := F2.c 1 _ rfl; have hz2' := hb2.size; clear hb2 F2; obtain ⟨xs, ho, hc⟩ := HR2.out; have HO := Lib.hid (ho.alloc (.cells #[.string b.nm, .slice pi b.it.length ci] 54)); have HC := Lib.hid hc; clear ho hc))
      | (at_builtin; go_loud (refine wpList_append_lies _ rfl _ _ 23 rfl B 54 i0 (.agg #[.string ⟨#[]⟩, .slice none 0 0]) 2 40 Tryz.underlying23 hi hz0 hz1 hz2 rfl (by decide) _ bs.length xs rfl HO.out ⟨w2.heap.size, 0, none⟩ 1 1 [.string b.nm, .slice pi b.it.length ci] rfl rfl (cells_at rfl [.string b.nm, .slice pi b.it.length ci] _) (by intro u hu; simp only [List.mem_cons, List.not_mem_nil, or_false] at hu; rcases hu with rfl | rfl <;> rfl) (by omega) (by unfold maxLen; omega) (by omega) (by simp at hz2' ⊢; omega) _ rfl ?_); go_loud (intro g7 k7 w3 hown' hgrow hat7 _; have HO3 := Lib.hid hown'; have HG3 := Lib.hid hgrow; have HT3 := Lib.hid hat7; clear hown' hgrow hat7)))
    go_ret
    have g2 : w.grownBy w2 (Value.slice p bs.length cap).ownBlock := (grown_below HB1.out _).trans (grown_below HB2.out _)
    have ga : w.grownBy (w2.alloc (.cells #[.string b.nm, .slice pi b.it.length ci] 54)) (Value.slice p bs.length cap).ownBlock := g2.trans (grown_below (ba _ _) _)
    have hsz : w.heap.size + 1 ≤ w2.heap.size := by have := HB2.out.size; simp at this; omega
    rw [EA.out]
    refine ⟨_, rfl, BRow.snoc (v := .slice p bs.length cap) (w := w2.alloc (.cells #[.string b.nm, .slice pi b.it.length ci] 54)) ⟨fun i x h => ?_⟩ HO.out.1 hs (HAT2.out.under ((ba _ _).mono (by omega))) HO3.out HG3.out (by simp; omega) (fun g e => Nat.le_trans hNB (HO.out.lt g e).1), ga.trans HG3.out, fun k e => ?_⟩
    · obtain ⟨p', c', q1, q2, q3, q4⟩ := HC.out.at_ i x h
      exact ⟨p', c', q1, q2, q3, q4.under ((ba _ _).mono (by omega))⟩
    · have e' : g7 = k := by simpa [Value.ownBlock] using e
      subst e'
      rcases HT3.out with h | h
      · exact .inl h
      · exact .inr (by rw [h]; simp; omega)
  | some k =>
    have hix : idxI (bs.findIdx? (fun a => same a.nm b.nm)) = (k : Int) := by
      have : bs.findIdx? (fun a => same a.nm b.nm) = some k := hp
      rw [this]; rfl
    have hkl := plc_lt hp
    rw [hix] at HIC
    have EA := Lib.hid (addB_some hp)
    obtain ⟨g, rfl, hgB, hgl⟩ : ∃ g, p = some ⟨g, 0, none⟩ ∧ B ≤ g ∧ g < w.heap.size := by
      obtain ⟨xs, ho, _⟩ := hr
      rw [hv] at ho
      obtain ⟨g, e, h1, h2, _⟩ := own_cells ho (by omega)
      exact ⟨g, e, h1, h2⟩
    subst hv
    clear hix hp IC FB hr hat hr1 ra hb1 hK
    go_enter Tryz.func91, Tryz.ntmps91
    go_wp2_with (first
      | (go_at_call 105; ((with_reducible refine HIC.out.mono ?_); rintro e w2 ⟨rfl, hb2⟩; have HB2 := Lib.hid hb2; have F2 := HF.out.stay hb2; have HR2 := Lib.hid (HR.out.later hb2 (by simp; omega)); have HAT2 := Lib.hid (HAT.out.under (hb2.mono (by simp; omega))); clear c0 c1; have c0 := F2.c 0 _ rfl; have c1 := F2.c 1 _ rfl; have hz2' := hb2.size; have hgl2 : g < w2.heap.size := (by simp at hz2'; omega); obtain ⟨xs, ho, hc⟩ := HR2.out; obtain ⟨_, e2, _, _, hcl⟩ := own_cells ho (by omega); cases e2; have k0 := hcl (k * 2) (by omega); have k1 := hcl (k * 2 + 1) (by omega); rw [Nat.zero_add] at k0 k1; obtain ⟨hol, ⟨hh, _⟩ | ⟨g', cap', cur, hh, hBB, hgg, hrest⟩⟩ := ho; cases hh; cases hh; have f0 : w2.frozen? ⟨g, k * 2, none⟩ = false := (by simp only [World.frozen?, hgg]; simp); have f1 : w2.frozen? ⟨g, k * 2 + 1, none⟩ = false := (by simp only [World.frozen?, hgg]; simp); clear hb2 F2 hc hcl hgg hrest hol)))
    go_ret
    have g2 : w.grownBy w2 (some g) := (grown_below HB1.out _).trans (grown_below HB2.out _)
    rw [EA.out]
    exact ⟨_, rfl, BRow.put HR2.out hkl hs HAT2.out (by simp at hz2'; omega) (by omega), (g2.trans (grown_set w2 g (k * 2) (.string b.nm))).trans (grown_set _ g (k * 2 + 1) (.slice pi b.it.length ci)), fun k e => .inl e⟩
end Go.Proofs.YtoigjeoncdfdmaaGreatDoor.ClW
