/-
  The chapter's example: what pair and awake return.
-/
import Derived.Test.YtoigjeoncdfdmaaGreatDoorClLaid
import Derived.Test.YtoigjeoncdfdmaaGreatDoorClCheck
import Derived.Test.YtoigjeoncdfdmaaGreatDoorClVars
import Derived.Test.YtoigjeoncdfdmaaGreatDoorClSame
namespace Go.Proofs.YtoigjeoncdfdmaaGreatDoor.ClW
open Go Go.RowKit Go.Proofs.YtoigjeoncdfdmaaGreatDoor.NumM Go.Proofs.YtoigjeoncdfdmaaGreatDoor.LexW Go.Proofs.YtoigjeoncdfdmaaGreatDoor.LexM Go.Proofs.YtoigjeoncdfdmaaGreatDoor.ClM

theorem flat_get {α : Type} {k : Nat} : ∀ {vss : List (List α)}, (∀ vs ∈ vss, vs.length = k) → ∀ {i j : Nat} {vs : List α}, j < k → vss[i]? = some vs → vss.flatten[i * k + j]? = vs[j]?
  | [], _, i, j, vs, _, h => by simp at h
  | a :: r, hl, 0, j, vs, hj, h => by
    have e : a = vs := by simpa using h
    subst e
    rw [List.flatten_cons, Nat.zero_mul, Nat.zero_add, List.getElem?_append_left (by rw [hl a (List.mem_cons_self ..)]; exact hj)]
  | a :: r, hl, i + 1, j, vs, hj, h => by
    have h1 := hl a (List.mem_cons_self ..)
    rw [List.flatten_cons, List.getElem?_append_right (by rw [h1, Nat.succ_mul]; omega), h1, show (i + 1) * k + j - k = i * k + j by rw [Nat.succ_mul]; omega]
    exact flat_get (fun vs hvs => hl vs (List.mem_cons_of_mem _ hvs)) hj (by simpa using h)
/-- A block whose cells are these elements. -/
theorem row_blk {S : Nat → Prop} {W : World} {kd : Kd} {g : Nat} {n : Nat} {vss : List (List Value)} {l : List (List Lf)} (hb : Blk W g vss.flatten) (hS : S g) (hl : l.length = n) (hv : vss.length = n) (hn : n ≤ 1000)
    (hz : ∀ (i : Nat) (vs : List Value) (ls : List Lf), vss[i]? = some vs → l[i]? = some ls → Fz S W (shp kd) vs ls) : At S W (.r kd) (.slice (some ⟨g, 0, none⟩) n n) (.row kd l) := by
  have get : ∀ i, i < n → ∃ vs ls, vss[i]? = some vs ∧ l[i]? = some ls := fun i hi => ⟨_, _, List.getElem?_eq_getElem (by omega), List.getElem?_eq_getElem (by omega)⟩
  have hlen : ∀ vs ∈ vss, vs.length = (shp kd).length := fun vs hvs => by
    obtain ⟨i, hi⟩ := List.getElem?_of_mem hvs
    have hil := (List.getElem?_eq_some_iff.1 hi).1
    exact (hz i vs _ hi (List.getElem?_eq_getElem (by omega))).len.1
  subst hl
  have r : RowA S W kd (some ⟨g, 0, none⟩) l.length (fun i j => ((vss[i]?).getD []).getD j undef) l := by
    refine ⟨?_, Nat.le_refl _, fun _ => ⟨g, 0, rfl, hS, fun i j hi hj => ?_⟩, fun i x hx => ?_, fun i x j y sh hx hy hsh => ?_⟩
    · have : byt kd ≤ 216 := by cases kd <;> decide
      have h2 : l.length * byt kd ≤ 1000 * 216 := Nat.mul_le_mul hn this
      omega
    · obtain ⟨vs, ls, h1, h2⟩ := get i hi
      have hf := hz i vs ls h1 h2
      have hj2 : j < vs.length := by rw [hf.len.1]; exact hj
      refine hb.c _ _ ?_
      rw [Nat.zero_add, flat_get hlen hj h1, h1, Option.getD_some, List.getD_eq_getElem?_getD, List.getElem?_eq_getElem hj2]
      rfl
    · obtain ⟨vs, ls, h1, h2⟩ := get i (List.getElem?_eq_some_iff.1 hx).1
      rw [hx] at h2
      cases h2
      exact (hz i vs x h1 hx).len.2
    · obtain ⟨vs, ls, h1, h2⟩ := get i (List.getElem?_eq_some_iff.1 hx).1
      rw [hx] at h2
      cases h2
      have hf := hz i vs x h1 hx
      have hj2 : j < vs.length := by rw [hf.len.1]; exact (List.getElem?_eq_some_iff.1 hsh).1
      simp only [h1, Option.getD_some]
      rw [List.getD_eq_getElem?_getD, List.getElem?_eq_getElem hj2]
      exact hf.at_ j _ y sh (List.getElem?_eq_getElem hj2) hy hsh
  exact r.at_
abbrev subS : ByteArray := ⟨#[115, 117, 98]⟩
abbrev baseS : ByteArray := ⟨#[98, 97, 115, 101]⟩
/-- The example's constraint. -/
def oneL : List Lf := [.n 1, .n 1, .n 1, .s ⟨#[]⟩, .row .exprs [], .s ⟨#[]⟩, .s ⟨#[]⟩, .row .weights [], .row .items [], .row .items [], .row .strs [], .row .strs []]
def subC : Cl := ⟨subS, baseS, [⟨⟨#[98]⟩, 2, 2, 1, 0⟩], [⟨⟨#[113]⟩, [oneL]⟩, ⟨⟨#[114]⟩, []⟩]⟩
def baseC : Cl := ⟨baseS, ⟨#[]⟩, [⟨⟨#[97]⟩, 1, 0, 0, 0⟩], [⟨⟨#[112]⟩, []⟩, ⟨⟨#[113]⟩, []⟩]⟩
def flatC : Cl := ⟨subS, ⟨#[]⟩, [⟨⟨#[97]⟩, 1, 0, 0, 0⟩, ⟨⟨#[98]⟩, 2, 2, 1, 0⟩], [⟨⟨#[112]⟩, []⟩, ⟨⟨#[113]⟩, [oneL]⟩, ⟨⟨#[114]⟩, []⟩]⟩
theorem pair_flat : flatE [subC, baseC] subS = (flatC, 0) := by kernel_rfl
theorem pair_line : ((lineE [subC, baseC] subS).1.map Cl.nm, (lineE [subC, baseC] subS).2) = ([subS, baseS], 0) := by kernel_rfl
theorem flat_vars : varsL flatC = [⟨⟨#[97]⟩, 1, 0, 0⟩, ⟨⟨#[98, 91, 48, 93]⟩, 2, 1, 0⟩, ⟨⟨#[98, 91, 49, 93]⟩, 2, 1, 0⟩] := by kernel_rfl
theorem one_check : checkE [subC] = 7 := by kernel_rfl
theorem z47 {t : ByteArray} (h : t.size ≤ 100) : t.size ≤ 140737488351232 := by omega
set_option maxRecDepth 100000 in
/-- The example in memory. -/
theorem pair_row {W : World} {g : Nat} (h0 : Blk W g [.int .i64 1, .int .i64 1, .int .i64 1, .string ⟨#[]⟩, .slice none 0 0, .string ⟨#[]⟩, .string ⟨#[]⟩, .slice none 0 0, .slice none 0 0, .slice none 0 0, .slice none 0 0, .slice none 0 0])
    (h1 : Blk W (g + 1) [.string ⟨#[97]⟩, .int .i64 1, .int .i64 0, .int .i64 0, .int .i64 0]) (h2 : Blk W (g + 2) [.string ⟨#[112]⟩, .slice none 0 0, .string ⟨#[113]⟩, .slice none 0 0])
    (h4 : Blk W (g + 4) [.string ⟨#[98]⟩, .int .i64 2, .int .i64 2, .int .i64 1, .int .i64 0]) (h5 : Blk W (g + 5) [.string ⟨#[113]⟩, .slice (some ⟨g, 0, none⟩) 1 1, .string ⟨#[114]⟩, .slice none 0 0])
    (h7 : Blk W (g + 7) [.string subS, .string baseS, .slice (some ⟨g + 4, 0, none⟩) 1 1, .slice (some ⟨g + 5, 0, none⟩) 2 2, .string baseS, .string ⟨#[]⟩, .slice (some ⟨g + 1, 0, none⟩) 1 1, .slice (some ⟨g + 2, 0, none⟩) 2 2]) :
    ∃ G, RowA (Lo W.heap.size) W .classes (some ⟨g + 7, 0, none⟩) 2 G ([subC, baseC].map Cl.lf) := by
  have i0 : At (Lo W.heap.size) W (.r .items) (.slice (some ⟨g, 0, none⟩) 1 1) (.row .items [oneL]) := row_blk (vss := [[.int .i64 1, .int .i64 1, .int .i64 1, .string ⟨#[]⟩, .slice none 0 0, .string ⟨#[]⟩, .string ⟨#[]⟩, .slice none 0 0, .slice none 0 0, .slice none 0 0, .slice none 0 0, .slice none 0 0]]) h0 h0.lt rfl rfl (by decide) (fun i vs ls hv hl => by
    have := (List.getElem?_eq_some_iff.1 hv).1
    match i, this with
    | 0, _ =>
      cases hv
      cases hl
      exact .cons (.n _) (.cons (.n _) (.cons (.n _) (.cons (.s _ (by decide)) (.cons (.nilRow _ _ _) (.cons (.s _ (by decide)) (.cons (.s _ (by decide)) (.cons (.nilRow _ _ _) (.cons (.nilRow _ _ _) (.cons (.nilRow _ _ _) (.cons (.nilRow _ _ _) (.cons (.nilRow _ _ _) .nil))))))))))))
  have f1 : At (Lo W.heap.size) W (.r .fields) (.slice (some ⟨g + 1, 0, none⟩) 1 1) (.row .fields (baseC.fs.map Fld.lf)) := row_blk (vss := [[.string ⟨#[97]⟩, .int .i64 1, .int .i64 0, .int .i64 0, .int .i64 0]]) h1 h1.lt rfl rfl (by decide) (fun i vs ls hv hl => by
    have := (List.getElem?_eq_some_iff.1 hv).1
    match i, this with
    | 0, _ =>
      cases hv
      cases hl
      exact .cons (.s _ (by decide)) (.cons (.n _) (.cons (.n _) (.cons (.n _) (.cons (.n _) .nil)))))
  have f4 : At (Lo W.heap.size) W (.r .fields) (.slice (some ⟨g + 4, 0, none⟩) 1 1) (.row .fields (subC.fs.map Fld.lf)) := row_blk (vss := [[.string ⟨#[98]⟩, .int .i64 2, .int .i64 2, .int .i64 1, .int .i64 0]]) h4 h4.lt rfl rfl (by decide) (fun i vs ls hv hl => by
    have := (List.getElem?_eq_some_iff.1 hv).1
    match i, this with
    | 0, _ =>
      cases hv
      cases hl
      exact .cons (.s _ (by decide)) (.cons (.n _) (.cons (.n _) (.cons (.n _) (.cons (.n _) .nil)))))
  have b2 : At (Lo W.heap.size) W (.r .blocks) (.slice (some ⟨g + 2, 0, none⟩) 2 2) (.row .blocks (baseC.bs.map Bk.lf)) := row_blk (vss := [[.string ⟨#[112]⟩, .slice none 0 0], [.string ⟨#[113]⟩, .slice none 0 0]]) h2 h2.lt rfl rfl (by decide) (fun i vs ls hv hl => by
    have := (List.getElem?_eq_some_iff.1 hv).1
    match i, this with
    | 0, _ =>
      cases hv
      cases hl
      exact .cons (.s _ (by decide)) (.cons (.nilRow _ _ _) .nil)
    | 1, _ =>
      cases hv
      cases hl
      exact .cons (.s _ (by decide)) (.cons (.nilRow _ _ _) .nil))
  have b5 : At (Lo W.heap.size) W (.r .blocks) (.slice (some ⟨g + 5, 0, none⟩) 2 2) (.row .blocks (subC.bs.map Bk.lf)) := row_blk (vss := [[.string ⟨#[113]⟩, .slice (some ⟨g, 0, none⟩) 1 1], [.string ⟨#[114]⟩, .slice none 0 0]]) h5 h5.lt rfl rfl (by decide) (fun i vs ls hv hl => by
    have := (List.getElem?_eq_some_iff.1 hv).1
    match i, this with
    | 0, _ =>
      cases hv
      cases hl
      exact .cons (.s _ (by decide)) (.cons i0 .nil)
    | 1, _ =>
      cases hv
      cases hl
      exact .cons (.s _ (by decide)) (.cons (.nilRow _ _ _) .nil))
  have c7 : At (Lo W.heap.size) W (.r .classes) (.slice (some ⟨g + 7, 0, none⟩) 2 2) (.row .classes ([subC, baseC].map Cl.lf)) := row_blk (vss := [[.string subS, .string baseS, .slice (some ⟨g + 4, 0, none⟩) 1 1, .slice (some ⟨g + 5, 0, none⟩) 2 2], [.string baseS, .string ⟨#[]⟩, .slice (some ⟨g + 1, 0, none⟩) 1 1, .slice (some ⟨g + 2, 0, none⟩) 2 2]]) h7 h7.lt rfl rfl (by decide) (fun i vs ls hv hl => by
    have := (List.getElem?_eq_some_iff.1 hv).1
    match i, this with
    | 0, _ =>
      cases hv
      cases hl
      exact .cons (.s _ (by decide)) (.cons (.s _ (by decide)) (.cons f4 (.cons b5 .nil)))
    | 1, _ =>
      cases hv
      cases hl
      exact .cons (.s _ (by decide)) (.cons (.s _ (by decide)) (.cons f1 (.cons b2 .nil))))
  obtain ⟨p, cap, G, e, r⟩ := c7.rowOf
  cases e
  exact ⟨G, r⟩
def tPair (w : World) (e : Ending) (w' : World) : Prop := ∃ p cap G, e = .returned (.slice p 2 cap) ∧ RowA (Lo w'.heap.size) w' .classes p cap G ([subC, baseC].map Cl.lf) ∧ Below w.heap.size w w'
abbrev pw0 (w : World) : World := (w).alloc (.cells #[.int .i64 1, .int .i64 1, .int .i64 1, .string ⟨#[]⟩, .slice none 0 0, .string ⟨#[]⟩, .string ⟨#[]⟩, .slice none 0 0, .slice none 0 0, .slice none 0 0, .slice none 0 0, .slice none 0 0] 85)
theorem pw0_size (w : World) : (pw0 w).heap.size = w.heap.size + 1 := by simp
abbrev pw1 (w : World) : World := (pw0 w).alloc (.cells #[.string ⟨#[97]⟩, .int .i64 1, .int .i64 0, .int .i64 0, .int .i64 0] 27)
theorem pw1_size (w : World) : (pw1 w).heap.size = w.heap.size + 2 := by simp
abbrev pw2 (w : World) : World := (pw1 w).alloc (.cells #[.string ⟨#[112]⟩, .slice none 0 0, .string ⟨#[113]⟩, .slice none 0 0] 54)
theorem pw2_size (w : World) : (pw2 w).heap.size = w.heap.size + 3 := by simp
abbrev pw3 (w : World) : World := (pw2 w).alloc (.cells #[.string baseS, .string ⟨#[]⟩, .slice (some ⟨w.heap.size + 1, 0, none⟩) 1 1, .slice (some ⟨w.heap.size + 2, 0, none⟩) 2 2] 25)
theorem pw3_size (w : World) : (pw3 w).heap.size = w.heap.size + 4 := by simp
abbrev pw4 (w : World) : World := (pw3 w).alloc (.cells #[.string ⟨#[98]⟩, .int .i64 2, .int .i64 2, .int .i64 1, .int .i64 0] 27)
theorem pw4_size (w : World) : (pw4 w).heap.size = w.heap.size + 5 := by simp
abbrev pw5 (w : World) : World := (pw4 w).alloc (.cells #[.string ⟨#[113]⟩, .slice (some ⟨w.heap.size, 0, none⟩) 1 1, .string ⟨#[114]⟩, .slice none 0 0] 54)
theorem pw5_size (w : World) : (pw5 w).heap.size = w.heap.size + 6 := by simp
abbrev pw6 (w : World) : World := (pw5 w).alloc (.cells #[.string subS, .string baseS, .slice (some ⟨w.heap.size + 4, 0, none⟩) 1 1, .slice (some ⟨w.heap.size + 5, 0, none⟩) 2 2] 25)
theorem pw6_size (w : World) : (pw6 w).heap.size = w.heap.size + 7 := by simp
abbrev pw7 (w : World) : World := (pw6 w).alloc (.cells #[.string subS, .string baseS, .slice (some ⟨w.heap.size + 4, 0, none⟩) 1 1, .slice (some ⟨w.heap.size + 5, 0, none⟩) 2 2, .string baseS, .string ⟨#[]⟩, .slice (some ⟨w.heap.size + 1, 0, none⟩) 1 1, .slice (some ⟨w.heap.size + 2, 0, none⟩) 2 2] 25)
theorem pw7_size (w : World) : (pw7 w).heap.size = w.heap.size + 8 := by simp
theorem pair_end (w : World) : tPair w (.returned (.slice (some ⟨w.heap.size + 7, 0, none⟩) 2 2)) (pw7 w) := by
  obtain ⟨G, r⟩ := pair_row (W := pw7 w) (g := w.heap.size) ((((((((Blk.new w _ _).alloc _).alloc _).alloc _).alloc _).alloc _).alloc _).alloc _) (((((((Blk.at_ (pw0_size w) _ _).alloc _).alloc _).alloc _).alloc _).alloc _).alloc _) ((((((Blk.at_ (pw1_size w) _ _).alloc _).alloc _).alloc _).alloc _).alloc _) ((((Blk.at_ (pw3_size w) _ _).alloc _).alloc _).alloc _) (((Blk.at_ (pw4_size w) _ _).alloc _).alloc _) (Blk.at_ (pw6_size w) _ _)
  exact ⟨_, _, G, rfl, r, (((((((ba w _).then_ (ba _ _)).then_ (ba _ _)).then_ (ba _ _)).then_ (ba _ _)).then_ (ba _ _)).then_ (ba _ _)).then_ (ba _ _)⟩
set_option maxRecDepth 100000 in
set_option maxHeartbeats 4000000 in
theorem pair_any (w : World) : Calls Tryz.prog 30 #[] w (tPair w) := by
  go_enter Tryz.func30, Tryz.ntmps30
  go_wp2
  go_ret
  exact pair_end w
theorem pflat_any (p : Option Addr) (cap : Nat) (G : Nat → Nat → Value) (w : World) (ha : RowA (Lo w.heap.size) w .classes p cap G ([subC, baseC].map Cl.lf)) (ht : Tab w) :
    Calls Tryz.prog 25 #[.slice p 2 cap, .string subS] w fun e w' => ∃ pf cf pb cb, e = .returned (.tuple #[.agg #[.string subS, .string ⟨#[]⟩, .slice pf 2 cf, .slice pb 3 cb], .int .i64 0]) ∧ CV (Lo w'.heap.size) w' pf cf pb cb flatC ∧ Below w.heap.size w w' := by
  have := flatten_any [subC, baseC] subS p cap G w.heap.size w ha (Nat.le_refl _) ht
  rw [pair_flat] at this
  exact this
theorem pline_any (p : Option Addr) (cap : Nat) (G : Nat → Nat → Value) (w : World) (ha : RowA (Lo w.heap.size) w .classes p cap G ([subC, baseC].map Cl.lf)) (ht : Tab w) :
    Calls Tryz.prog 23 #[.slice p 2 cap, .string subS] w fun e w' => ∃ p cap G, e = .returned (.tuple #[.slice p 2 cap, .int .i64 0]) ∧ RowA (Lo w'.heap.size) w' .strs p cap G (SL [subS, baseS]) ∧ Below w.heap.size w w' := by
  have := line_any [subC, baseC] subS p cap G w.heap.size w ha (Nat.le_refl _) ht
  obtain ⟨h1, h2⟩ := Prod.mk.inj pair_line
  rw [h1, h2] at this
  exact this
theorem pvars_any (pf : Option Addr) (cf : Nat) (pb : Option Addr) (cb N : Nat) (w : World) (hv : CV (Lo N) w pf cf pb cb flatC) (hN : N ≤ w.heap.size) (ht : Tab w) :
    Calls Tryz.prog 11 #[.agg #[.string subS, .string ⟨#[]⟩, .slice pf 2 cf, .slice pb 3 cb]] w fun e w' => ∃ g cap, e = .returned (.slice (some ⟨g, 0, none⟩) 3 cap) ∧ g < w'.heap.size ∧ w'.cell? ⟨g, 8, none⟩ = some (.string ⟨#[98, 91, 49, 93]⟩) ∧ w'.cell? ⟨g, 9, none⟩ = some (.int .i64 2) ∧ w'.cell? ⟨g, 10, none⟩ = some (.int .i64 1) ∧ w'.cell? ⟨g, 11, none⟩ = some (.int .i64 0) ∧ Below w.heap.size w w' := by
  have := vars_any flatC pf cf pb cb N w hv hN ht
  rw [flat_vars] at this
  refine this.mono fun e w' ⟨v, e1, ho, hb⟩ => ?_
  obtain ⟨p, cap, rfl⟩ := own_len ho
  obtain ⟨g, rfl, _, hg, hc⟩ := own_cells ho (by decide)
  exact ⟨g, cap, e1, hg, hc 8 (by decide), hc 9 (by decide), hc 10 (by decide), hc 11 (by decide), hb⟩
theorem pcheck_any (p : Option Addr) (cap : Nat) (G : Nat → Nat → Value) (w : World) (ha : RowA (Lo w.heap.size) w .classes p cap G ([subC, baseC].map Cl.lf)) (ht : Tab w) :
    Calls Tryz.prog 20 #[.slice p 1 cap] w (tInt 7 w) := by
  have h1 : RowA (Lo w.heap.size) w .classes p cap G ([subC].map Cl.lf) := ha.take 1 (by decide)
  have := check_any [subC] p cap G w.heap.size w h1 (Nat.le_refl _) ht
  rw [one_check] at this
  exact this
theorem run_var_eq (W : World) (s : ByteArray) (a b c : Int) : (binOp .eql 33 (.agg #[.string s, .int .i64 a, .int .i64 b, .int .i64 c]) (.agg #[.string s, .int .i64 a, .int .i64 b, .int .i64 c])).run Tryz.prog W = .ok (.bool true) W := by
  simp [go_sem]
set_option maxRecDepth 100000 in
set_option maxHeartbeats 8000000 in
theorem awake_any (w : World) (ht : Tab w) : Calls Tryz.prog 10 #[] w (tBool true w) := by
  have HT : Hid (∀ W, Below w.heap.size w W → Tab W) := Lib.hid fun W hW => ht.later hW
  have heq := run_var_eq
  clear ht
  go_enter Tryz.func10, Tryz.ntmps10
  go_wp2_with (first
    | (go_at_call 30; ((with_reducible refine (pair_any w).mono ?_); rintro e w1 ⟨p1, k1, G1, rfl, r1, hb1⟩; have HB1 := Lib.hid hb1; have FC := Lib.hid (pflat_any p1 k1 G1 w1 r1 (HT.out w1 hb1)); clear hb1 r1))
    | (go_at_call 25; ((with_reducible refine FC.out.mono ?_); rintro e w2 ⟨pf, cf, pb, cb, rfl, hcv, hb2⟩; have HB2 := Lib.hid (HB1.out.then_ hb2); have HCV := Lib.hid hcv; obtain ⟨_, _, Gf, ef, rf⟩ := hcv.fs.rowOf; rw [List.length_map] at ef; cases ef; obtain ⟨b1, o1, rfl, hlb1, fc0, _⟩ := rf.fd (i := 0) (f := ⟨⟨#[97]⟩, 1, 0, 0, 0⟩) rfl; obtain ⟨_, _, Gb, eb, rb⟩ := hcv.bs.rowOf; rw [List.length_map] at eb; cases eb; obtain ⟨g1, o2, pi, ci, rfl, hlg1, _, bc1, _⟩ := rb.bk (i := 1) (b := ⟨⟨#[113]⟩, [oneL]⟩) rfl; rw [Nat.zero_mul, Nat.add_zero] at fc0; have Y2 := Blk.new w2 [.string subS, .string ⟨#[]⟩, .slice (some ⟨b1, o1, none⟩) 2 cf, .slice (some ⟨g1, o2, none⟩) 3 cb] 25; have KK : Hid (∀ W, Below (w2.alloc (.cells #[.string subS, .string ⟨#[]⟩, .slice (some ⟨b1, o1, none⟩) 2 cf, .slice (some ⟨g1, o2, none⟩) 3 cb] 25)).heap.size (w2.alloc (.cells #[.string subS, .string ⟨#[]⟩, .slice (some ⟨b1, o1, none⟩) 2 cf, .slice (some ⟨g1, o2, none⟩) 3 cb] 25)) W → Blk W w2.heap.size [.string subS, .string ⟨#[]⟩, .slice (some ⟨b1, o1, none⟩) 2 cf, .slice (some ⟨g1, o2, none⟩) 3 cb] ∧ W.cell? ⟨b1, o1, none⟩ = some (.string ⟨#[97]⟩) ∧ W.cell? ⟨g1, o2 + 1 * 2 + 1, none⟩ = some (.slice pi 1 ci)) := Lib.hid (fun W hW => ⟨Y2.stay hW, (((ba w2 _).then_ hW).cell (p := ⟨b1, o1, none⟩) hlb1).trans fc0, (((ba w2 _).then_ hW).cell (p := ⟨g1, o2 + 1 * 2 + 1, none⟩) hlg1).trans bc1⟩); have HB2A := Lib.hid (HB2.out.then_ (ba w2 (.cells #[.string subS, .string ⟨#[]⟩, .slice (some ⟨b1, o1, none⟩) 2 cf, .slice (some ⟨g1, o2, none⟩) 3 cb] 25))); clear hb2 hcv rf rb hlb1 fc0 hlg1 bc1 Y2))
    | (go_at_call 30; ((with_reducible refine (pair_any (w2.alloc (.cells #[.string subS, .string ⟨#[]⟩, .slice (some ⟨b1, o1, none⟩) 2 cf, .slice (some ⟨g1, o2, none⟩) 3 cb] 25))).mono ?_); rintro e w3 ⟨p3, k3, G3, rfl, r3, hb3⟩; have HB3 := Lib.hid (HB2A.out.then_ hb3); have HK3 := Lib.hid hb3; have LC := Lib.hid (pline_any p3 k3 G3 w3 r3 (HT.out w3 HB3.out)); clear hb3 r3))
    | (go_at_call 23; ((with_reducible refine LC.out.mono ?_); rintro e w4 ⟨p4, k4, G4, rfl, r4, hb4⟩; have HB4 := Lib.hid (HB3.out.then_ hb4); have HK4 := Lib.hid (HK3.out.then_ hb4); obtain ⟨b4, o4, rfl, hlb4, lc1, _⟩ := r4.stS (i := 1) (s := baseS) rfl; obtain ⟨Y4, _, _⟩ := KK.out w4 HK4.out; have c0 := Y4.c 0 _ rfl; have c1 := Y4.c 1 _ rfl; have c2 := Y4.c 2 _ rfl; have c3 := Y4.c 3 _ rfl; have VC := Lib.hid (pvars_any (some ⟨b1, o1, none⟩) cf (some ⟨g1, o2, none⟩) cb w2.heap.size w4 (HCV.out.under ((ba w2 _).then_ HK4.out)) (Nat.le_trans (ba w2 _).size HK4.out.size) (HT.out w4 HB4.out)); have HL4 := Lib.hid lc1; have HL4b := Lib.hid hlb4; clear hb4 r4 lc1 hlb4 Y4))
    | (go_at_call 11; ((with_reducible refine VC.out.mono ?_); rintro e w5 ⟨g5, k5, rfl, hg5, e8, e9, e10, e11, hb5⟩; have HB5 := Lib.hid (HB4.out.then_ hb5); have HK5 := Lib.hid (HK4.out.then_ hb5); obtain ⟨Y5, fa, fb⟩ := KK.out w5 HK5.out; clear c0 c1 c2 c3; have c2 := Y5.c 2 _ rfl; have c3 := Y5.c 3 _ rfl; have lc1 : w5.cell? ⟨b4, o4 + 1, none⟩ = some (.string baseS) := (hb5.cell (p := ⟨b4, o4 + 1, none⟩) HL4b.out).trans HL4.out; clear hb5 Y5))
    | (go_at_call 30; ((with_reducible refine (pair_any w5).mono ?_); rintro e w6 ⟨p6, k6, G6, rfl, r6, hb6⟩; have HB6 := Lib.hid (HB5.out.then_ hb6); have CC := Lib.hid (pcheck_any p6 k6 G6 w6 r6 (HT.out w6 HB6.out)); have hk6 : 2 ≤ k6 := r6.hc; clear hb6 r6))
    | (go_at_call 20; ((with_reducible refine CC.out.mono ?_); rintro e w7 ⟨rfl, hb7⟩; have HB7 := Lib.hid (HB6.out.then_ hb7); clear hb7)))
  go_ret
  exact ⟨rfl, HB7.out⟩
end Go.Proofs.YtoigjeoncdfdmaaGreatDoor.ClW
