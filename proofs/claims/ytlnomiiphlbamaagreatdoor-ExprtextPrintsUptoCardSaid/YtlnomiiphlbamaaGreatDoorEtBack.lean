/-
  The parser without fuel; what is printed is parsed to the expression that was printed; lines do not matter; parentheses around the whole change nothing.
-/
import Derived.Test.YtlnomiiphlbamaaGreatDoorEtParse
namespace Go.Proofs.YtlnomiiphlbamaaGreatDoor.EtM
open Go Go.Proofs.YtlnomiiphlbamaaGreatDoor.NumM Go.Proofs.YtlnomiiphlbamaaGreatDoor.LexM Go.Proofs.YtlnomiiphlbamaaGreatDoor.ExM

theorem need_mk (m : List UInt8) (l : List Tk) (g : List Tk → Rs) : need m (⟨4, 0, m, 1⟩ :: l) g = g l := by
  unfold need; rw [if_pos (show tx (⟨4, 0, m, 1⟩ :: l) = m from rfl)]; rfl
theorem ro {f : Nat} {j : Jb} {l : List Tk} (h : run f j l ≠ .out) : res j l = run f j l := (res_of h).symm
theorem res_ch (l : List Tk) : res .ch l = (res (.op 2) l).bind fun c r => if tx r = [63] then (res .ch r.tail).bind fun a r2 => need [58] r2 fun r3 => (res .ch r3).bind fun b r4 => .ok (nod 22 [c, a, b]) r4 else .ok c r := by
  have h : run (8 * l.length + 6 + 1) .ch l ≠ .out := res_ne .ch l
  symm
  show _ = run (8 * l.length + 6 + 1) .ch l
  rw [run] at h
  conv => rhs; rw [run]
  refine bind_mono h ro fun c r hg => ?_
  split
  · rename_i q
    rw [if_pos q] at hg
    exact bind_mono hg ro fun a r2 h2 => need_mono h2 fun r3 h3 => bind_mono h3 ro fun _ _ _ => rfl
  · rfl
theorem res_op (lv : Int) (l : List Tk) : res (.op lv) l = (res .pf l).bind fun e r => res (.lp lv 13 e) r := by
  have h : run (8 * l.length + 5 + 1) (.op lv) l ≠ .out := res_ne (.op lv) l
  symm
  show _ = run (8 * l.length + 5 + 1) (.op lv) l
  rw [run] at h
  conv => rhs; rw [run]
  exact bind_mono h ro fun e r h2 => ro h2
theorem res_lp (lv rc : Int) (e : Ex) (l : List Tk) : res (.lp lv rc e) l =
    if (bT (tx l)).1 ≠ 0 ∧ lv ≤ (bT (tx l)).1 ∧ (bT (tx l)).1 ≤ rc then (res (.jn (bT (tx l)).1 (bT (tx l)).2.1 (bT (tx l)).2.2 e) l.tail).bind fun e2 r => res (.lp lv (bT (tx l)).1 e2) r
    else if lv ≤ 9 ∧ tx l = insW then (res (.rg e) l.tail).bind fun e2 r => res (.lp lv 9 e2) r
    else .ok e l := by
  have h : run (8 * l.length + 1 + 1) (.lp lv rc e) l ≠ .out := res_ne (.lp lv rc e) l
  symm
  show _ = run (8 * l.length + 1 + 1) (.lp lv rc e) l
  rw [run] at h
  conv => rhs; rw [run]
  split
  · rename_i q
    rw [if_pos q] at h
    exact bind_mono h ro fun e2 r h2 => ro h2
  · rename_i q
    rw [if_neg q] at h
    split
    · rename_i q2
      rw [if_pos q2] at h
      exact bind_mono h ro fun e2 r h2 => ro h2
    · rfl
theorem res_jn (k o : Int) (sw : Bool) (e : Ex) (l : List Tk) : res (.jn k o sw e) l = (res (.op (if k = 2 then 2 else k + 1)) l).bind fun b r => .ok (nod o (if sw then [b, e] else [e, b])) r := by
  have h : run (8 * l.length + 6 + 1) (.jn k o sw e) l ≠ .out := res_ne (.jn k o sw e) l
  symm
  show _ = run (8 * l.length + 6 + 1) (.jn k o sw e) l
  rw [run] at h
  conv => rhs; rw [run]
  exact bind_mono h ro fun _ _ _ => rfl
theorem res_rg (e : Ex) (l : List Tk) : res (.rg e) l = need [123] l fun r => res (.rl [e]) r := by
  have h : run (8 * l.length + 0 + 1) (.rg e) l ≠ .out := res_ne (.rg e) l
  symm
  show _ = run (8 * l.length + 0 + 1) (.rg e) l
  rw [run] at h
  conv => rhs; rw [run]
  exact need_mono h fun r h2 => ro h2
theorem res_rl (acc : List Ex) (l : List Tk) : res (.rl acc) l =
    (res .ch l).bind fun a r => need [46, 46] r fun r2 => (res .ch r2).bind fun b r3 => if tx r3 = [44] then res (.rl (acc ++ [a, b])) r3.tail else need [125] r3 fun r4 => .ok (nod 23 (acc ++ [a, b])) r4 := by
  have h : run (8 * l.length + 7 + 1) (.rl acc) l ≠ .out := res_ne (.rl acc) l
  symm
  show _ = run (8 * l.length + 7 + 1) (.rl acc) l
  rw [run] at h
  conv => rhs; rw [run]
  refine bind_mono h ro fun a r h2 => need_mono h2 fun r2 h3 => bind_mono h3 ro fun b r3 h4 => ?_
  split
  · rename_i q
    rw [if_pos q] at h4
    exact ro h4
  · rfl
theorem res_pf (l : List Tk) : res .pf l = if pT (tx l) ≠ 0 then (res .pf l.tail).bind fun a r => .ok (nod (pT (tx l)) [a]) r else res .pr l := by
  have h : run (8 * l.length + 4 + 1) .pf l ≠ .out := res_ne .pf l
  symm
  show _ = run (8 * l.length + 4 + 1) .pf l
  rw [run] at h
  conv => rhs; rw [run]
  split
  · rename_i q
    rw [if_pos q] at h
    exact bind_mono h ro fun _ _ _ => rfl
  · rename_i q
    rw [if_neg q] at h
    exact ro h
theorem res_pr (l : List Tk) : res .pr l = if kd l = 3 then numR l fun n r => .ok (.mk 1 n ⟨#[]⟩ []) r else if kd l = 1 then res (.nm (tx l)) l.tail else need [40] l fun r => (res .ch r).bind fun e r2 => need [41] r2 fun r3 => .ok e r3 := by
  have h : run (8 * l.length + 3 + 1) .pr l ≠ .out := res_ne .pr l
  symm
  show _ = run (8 * l.length + 3 + 1) .pr l
  rw [run] at h
  conv => rhs; rw [run]
  split
  · rfl
  · rename_i q
    rw [if_neg q] at h
    split
    · rename_i q2
      rw [if_pos q2] at h
      exact ro h
    · rename_i q2
      rw [if_neg q2] at h
      exact need_mono h fun r h2 => bind_mono h2 ro fun _ _ _ => rfl
theorem res_nm (s : List UInt8) (l : List Tk) : res (.nm s) l =
    if s = sumW ∧ tx l = [40] then nameR l.tail fun m r => need [41] r fun r2 => .ok (.mk 24 0 (mb m) []) r2
    else if s = onesW ∧ tx l = [40] then (res .ch l.tail).bind fun a r => need [41] r fun r2 => .ok (nod 25 [a]) r2
    else if tx l = [91] then (res .ch l.tail).bind fun a r => need [93] r fun r2 => .ok (.mk 3 0 (mb s) [a]) r2
    else if tx l = [64] then numR l.tail fun n r => .ok (.mk 2 0 (mb (elN s n)) []) r
    else .ok (.mk 2 0 (mb s) []) l := by
  have h : run (8 * l.length + 2 + 1) (.nm s) l ≠ .out := res_ne (.nm s) l
  symm
  show _ = run (8 * l.length + 2 + 1) (.nm s) l
  rw [run] at h
  conv => rhs; rw [run]
  split
  · rfl
  · rename_i q
    rw [if_neg q] at h
    split
    · rename_i q2
      rw [if_pos q2] at h
      exact bind_mono h ro fun _ _ _ => rfl
    · rename_i q2
      rw [if_neg q2] at h
      split
      · rename_i q3
        rw [if_pos q3] at h
        exact bind_mono h ro fun _ _ _ => rfl
      · rfl

/-! What is printed is parsed. -/
/-- What follows continues no operand of a level below k. -/
structure Fol (k : Int) (r : List Tk) : Prop where
  lev : (bT (tx r)).1 < k
  ins : tx r = insW → 9 < k
  par : tx r ≠ [40]
  brk : tx r ≠ [91]
  att : tx r ≠ [64]
theorem Fol.mono {k k' : Int} {r : List Tk} (h : Fol k r) (hk : k ≤ k') : Fol k' r := ⟨by have := h.lev; omega, fun g => by have := h.ins g; omega, h.par, h.brk, h.att⟩
structure Stop (r : List Tk) : Prop where
  fol : Fol 1 r
  ask : tx r ≠ [63]
theorem stop_mark {m : List UInt8} {r : List Tk} {t : Tk} (ht : t.text = m) (h1 : (bT m).1 < 1) (h2 : m ≠ insW) (h3 : m ≠ [40]) (h4 : m ≠ [91]) (h5 : m ≠ [64]) (h6 : m ≠ [63]) : Stop (t :: r) := by
  subst ht
  exact ⟨⟨h1, fun g => absurd g h2, h3, h4, h5⟩, h6⟩
theorem fol_mark {m : List UInt8} {r : List Tk} {t : Tk} {k : Int} (ht : t.text = m) (h1 : (bT m).1 < k) (h2 : m ≠ insW) (h3 : m ≠ [40]) (h4 : m ≠ [91]) (h5 : m ≠ [64]) : Fol k (t :: r) := by
  subst ht
  exact ⟨h1, fun g => absurd g h2, h3, h4, h5⟩
theorem stop_nil : Stop [] := ⟨⟨by decide, (fun g => by cases g), by decide, by decide, by decide⟩, by decide⟩
/-- Behind an operand the loop ends. -/
theorem lp_end {lv rc : Int} {e : Ex} {r : List Tk} (h : Fol lv r) : res (.lp lv rc e) r = .ok e r := by
  rw [res_lp, if_neg (fun g => by have := h.lev; omega), if_neg (fun g => by have := h.ins g.2; omega)]
theorem bok (e : Ex) (r : List Tk) (g : Ex → List Tk → Rs) : (Rs.ok e r).bind g = g e r := rfl
abbrev T (e : Ex) : List Tk := toks (bare e)
abbrev mkT (m : List UInt8) : Tk := ⟨4, 0, m, 1⟩
abbrev wdT (k n : Int) (x : List UInt8) : Tk := ⟨k, n, x, 1⟩
/-- What holds of an expression's tokens. -/
structure Back (e : Ex) : Prop where
  pf : 13 ≤ lvS e.op → ∀ r, tx r ≠ [40] → tx r ≠ [91] → tx r ≠ [64] → res .pf (T e ++ r) = .ok e r
  op : 2 ≤ lvS e.op → ∀ lv r, lv ≤ lvS e.op → Fol (if lvS e.op = 2 then 2 else lvS e.op + 1) r → res (.op lv) (T e ++ r) = res (.lp lv (min 13 (lvS e.op)) e) r
  ch : ∀ r, Stop r → res .ch (T e ++ r) = .ok e r
theorem pT_word {x : List UInt8} (h : x.all wrd = true) : pT x = 0 := by
  unfold pT
  rw [if_neg (fun e => by rw [e] at h; revert h; decide), if_neg (fun e => by rw [e] at h; revert h; decide), if_neg (fun e => by rw [e] at h; revert h; decide)]
theorem tx_cons (t : Tk) (l : List Tk) : tx (t :: l) = t.text := rfl
theorem kd_cons (t : Tk) (l : List Tk) : kd (t :: l) = t.kind := rfl
theorem nmr_cons (t : Tk) (l : List Tk) : nmr (t :: l) = t.n := rfl
theorem need_yes {t : Tk} {m : List UInt8} {l : List Tk} {g : List Tk → Rs} (h : t.text = m) : need m (t :: l) g = g l := by
  unfold need; rw [if_pos (show tx (t :: l) = m from h)]; rfl
/-- In parentheses. -/
theorem paren {e : Ex} (h : Back e) (r : List Tk) : res .pf (mkT [40] :: (T e ++ mkT [41] :: r)) = .ok e r := by
  rw [res_pf, if_neg (by rw [tx_cons]; decide), res_pr, if_neg (by rw [kd_cons]; decide), if_neg (by rw [kd_cons]; decide), need_mk]
  rw [h.ch _ (stop_mark rfl (by decide) (by decide) (by decide) (by decide) (by decide) (by decide))]
  rw [bok]
  rw [need_mk]
theorem tx_mkT (m : List UInt8) (l : List Tk) : tx (mkT m :: l) = m := rfl
theorem kd_wdT (k n : Int) (x : List UInt8) (l : List Tk) : kd (wdT k n x :: l) = k := rfl
theorem tx_wdT (k n : Int) (x : List UInt8) (l : List Tk) : tx (wdT k n x :: l) = x := rfl
theorem nmr_wdT (k n : Int) (x : List UInt8) (l : List Tk) : nmr (wdT k n x :: l) = n := rfl
theorem lev_bx (e : Ex) : lvS (bx e).1 = lvS e.op := rfl
/-- An operand in a place of level 13. -/
theorem plc_pf {e : Ex} (h : Back e) (r : List Tk) (h1 : tx r ≠ [40]) (h2 : tx r ≠ [91]) (h3 : tx r ≠ [64]) : res .pf (toks (plc 13 (bx e)) ++ r) = .ok e r := by
  rw [toks_plc]
  split
  · rw [List.cons_append, List.append_assoc]; exact paren h r
  · rename_i g
    exact h.pf (by rw [lev_bx] at g; omega) r h1 h2 h3
/-- An operand in a place of a level from 2 to 12. -/
theorem plc_bk {e : Ex} (h : Back e) {p lv : Int} (hp : 2 ≤ p) (hp2 : p ≤ 13) (hl : lv ≤ p) (r : List Tk) (hr : Fol (if p = 2 then 2 else p + 1) r) : ∃ rc, p ≤ rc ∧ res (.op lv) (toks (plc p (bx e)) ++ r) = res (.lp lv rc e) r := by
  rw [toks_plc]
  split
  · refine ⟨13, hp2, ?_⟩
    rw [List.cons_append, List.append_assoc, res_op]
    show (res .pf (mkT [40] :: (T e ++ mkT [41] :: r))).bind _ = _
    rw [paren h]; rfl
  · rename_i g
    rw [lev_bx] at g
    refine ⟨min 13 (lvS e.op), by omega, h.op (by omega) lv r (by omega) (hr.mono ?_)⟩
    split <;> split <;> omega
theorem plc_one {e : Ex} (h : Back e) (r : List Tk) (hr : Stop r) : res .ch (toks (plc 1 (bx e)) ++ r) = .ok e r := by
  rw [toks_plc]
  split
  · rename_i g
    rw [lev_bx] at g
    exfalso
    unfold lvS at g
    split at g
    · omega
    · split at g
      · omega
      · split at g
        · rename_i q
          have : bLev e.op = 0 ∨ 1 < bLev e.op := by
            unfold bLev
            repeat' split
            all_goals omega
          omega
        · split at g <;> omega
  · exact h.ch r hr
theorem bin_facts {o : Int} (h : 7 ≤ o) (h' : o ≤ 21) : bT (bMark o) = (bLev o, o, false) ∧ bMark o ≠ insW ∧ bMark o ≠ [40] ∧ bMark o ≠ [91] ∧ bMark o ≠ [64] ∧ 2 ≤ bLev o ∧ bLev o ≤ 12 ∧ lvS o = bLev o := by
  have : o = 7 ∨ o = 8 ∨ o = 9 ∨ o = 10 ∨ o = 11 ∨ o = 12 ∨ o = 13 ∨ o = 14 ∨ o = 15 ∨ o = 16 ∨ o = 17 ∨ o = 18 ∨ o = 19 ∨ o = 20 ∨ o = 21 := by omega
  rcases this with rfl | rfl | rfl | rfl | rfl | rfl | rfl | rfl | rfl | rfl | rfl | rfl | rfl | rfl | rfl <;> decide
/-- Whatever follows a primary: no '(', '[' or '@'. -/
structure Pr (o : Int) (e : Ex) : Prop where
  lev : 13 ≤ lvS o
  run : ∀ r, tx r ≠ [40] → tx r ≠ [91] → tx r ≠ [64] → res .pf (T e ++ r) = .ok e r
theorem back_pr {e : Ex} (h : Pr e.op e) : Back e := by
  have hop : ∀ lv r, tx r ≠ [40] → tx r ≠ [91] → tx r ≠ [64] → res (.op lv) (T e ++ r) = res (.lp lv 13 e) r := fun lv r h1 h2 h3 => by
    rw [res_op, h.run r h1 h2 h3]; rfl
  have hl := h.lev
  refine ⟨fun _ => h.run, fun _ lv r _ hf => ?_, fun r hr => ?_⟩
  · rw [hop lv r hf.par hf.brk hf.att, show min 13 (lvS e.op) = 13 by omega]
  · rw [res_ch, hop 2 r hr.fol.par hr.fol.brk hr.fol.att, lp_end (hr.fol.mono (by decide))]
    rw [bok]
    rw [if_neg hr.ask]
/-- From the operations to the choice. -/
theorem back_op {e : Ex} (h1 : 2 ≤ lvS e.op) (h2 : lvS e.op ≤ 12) (h : ∀ lv r, lv ≤ lvS e.op → Fol (if lvS e.op = 2 then 2 else lvS e.op + 1) r → res (.op lv) (T e ++ r) = res (.lp lv (lvS e.op) e) r) : Back e := by
  refine ⟨fun g => by omega, fun _ lv r hl hf => ?_, fun r hr => ?_⟩
  · rw [h lv r hl hf, show min 13 (lvS e.op) = lvS e.op by omega]
  · rw [res_ch, h 2 r (by omega) (hr.fol.mono (by split <;> omega)), lp_end (hr.fol.mono (by decide))]
    rw [bok]
    rw [if_neg hr.ask]
theorem toks_mk (m : List UInt8) (l : List Pc) : toks (.mk m :: l) = mkT m :: toks l := rfl
theorem toks_wd (k n : Int) (x : List UInt8) (l : List Pc) : toks (.wd k n x :: l) = wdT k n x :: toks l := rfl
theorem toks_sp (l : List Pc) : toks (.sp :: l) = toks l := rfl
theorem mb_data (s : ByteArray) : mb s.data.toList = s := rfl
theorem nm_res (s : List UInt8) (r : List Tk) (h1 : tx r ≠ [40]) (h2 : tx r ≠ [91]) (h3 : tx r ≠ [64]) : res (.nm s) r = .ok (.mk 2 0 (mb s) []) r := by
  rw [res_nm, if_neg (fun g => h1 g.2), if_neg (fun g => h1 g.2), if_neg h2, if_neg h3]
/-- A primary that begins with a name. -/
theorem nm_first {s : List UInt8} (ha : s.all wrd = true) (l : List Tk) : res .pf (wdT 1 0 s :: l) = res (.nm s) l := by
  rw [res_pf, if_neg (fun g => g (pT_word ha)), res_pr, if_neg (show ¬ kd (wdT 1 0 s :: l) = 3 from (by decide : ¬ (1 : Int) = 3)), if_pos (show kd (wdT 1 0 s :: l) = 1 from rfl)]; rfl
theorem rl_back : ∀ (n : Nat) (xs : List Ex) (acc : List Ex) (r : List Tk), xs.length ≤ n → 2 ≤ xs.length → xs.length % 2 = 0 → (∀ x ∈ xs, Back x) → res (.rl acc) (toks (rgs (xs.map bx)) ++ mkT [125] :: r) = .ok (nod 23 (acc ++ xs)) r
  | 0, xs, _, _, h, h2, _, _ => by omega
  | n + 1, xs, acc, r, h, h2, h3, hx => by
    match xs, h, h2, h3, hx with
    | [], _, h2, _, _ => simp at h2
    | [_], _, h2, _, _ => simp at h2
    | a :: b :: q, h, h2, h3, hx =>
      have ha := hx a (by simp)
      have hb := hx b (by simp)
      cases q with
      | nil =>
        simp only [List.map_cons, List.map_nil]
        rw [rgs]
        rw [toks_app, toks_sp, toks_mk, toks_sp, toks_app, toks_nil, List.append_nil, List.append_assoc, List.cons_append, res_rl, plc_one ha _ (stop_mark rfl (by decide) (by decide) (by decide) (by decide) (by decide) (by decide))]
        rw [bok]
        rw [need_mk, plc_one hb _ (stop_mark rfl (by decide) (by decide) (by decide) (by decide) (by decide) (by decide))]
        rw [bok]
        rw [if_neg (by rw [tx_cons]; decide), need_mk]
      | cons c q =>
        have hr := rl_back n (c :: q) (acc ++ [a, b]) r (by simp at h ⊢; omega) (by simp at h3 ⊢; omega) (by simp at h3 ⊢; omega) (fun x hxq => hx x (List.mem_cons_of_mem _ (List.mem_cons_of_mem _ hxq)))
        simp only [List.map_cons] at hr ⊢
        rw [rgs]
        · rw [toks_app, toks_sp, toks_mk, toks_sp, toks_app, toks_mk, toks_sp, List.append_assoc, List.cons_append, List.append_assoc, List.cons_append, res_rl, plc_one ha _ (stop_mark rfl (by decide) (by decide) (by decide) (by decide) (by decide) (by decide))]
          rw [bok]
          rw [need_mk, plc_one hb _ (stop_mark rfl (by decide) (by decide) (by decide) (by decide) (by decide) (by decide))]
          rw [bok]
          rw [tx_mkT, if_pos rfl, List.tail_cons, hr, List.append_assoc]
          rfl
        · simp
theorem back_form {o n : Int} {s : ByteArray} {ks : List Ex} (h : Sh o n s ks) (hk : ∀ a ∈ ks, Back a) : Back (.mk o n s ks) := by
  have hT : T (.mk o n s ks) = toks (form o n s.data.toList (ks.map bx)) := by rw [T, bare_mk]
  cases h with
  | con _ h0 h1 =>
    refine back_pr ⟨(by decide : (13 : Int) ≤ lvS 1), fun r _ _ _ => ?_⟩
    rw [hT, show toks (form 1 n (ByteArray.mk #[]).data.toList (List.map bx [])) = [wdT 3 n (Lib.itoa n)] from rfl]
    rw [List.cons_append, List.nil_append, res_pf, if_neg (fun g => g (pT_word (itoa_parts h0 h1).2.1)), res_pr, kd_wdT, if_pos rfl]
    unfold numR
    rw [kd_wdT, if_pos rfl, nmr_wdT, if_neg (by omega)]
    rfl
  | var _ h =>
    refine back_pr ⟨(by decide : (13 : Int) ≤ lvS 2), fun r h1 h2 h3 => ?_⟩
    rw [hT, show form 2 0 s.data.toList (List.map bx []) = varP s.data.toList from rfl]
    by_cases he : elmB s.data.toList = true
    · obtain ⟨q, d, e, hq, d1, d2⟩ := elm_parts he
      rw [varP_elm e he, toks_wd, toks_mk, toks_wd, toks_nil, List.cons_append, nm_first (nm_parts hq).2.1]
      rw [res_nm, if_neg (fun g => by simp [tx_cons] at g), if_neg (fun g => by simp [tx_cons] at g), if_neg (by rw [List.cons_append, tx_cons]; decide), List.cons_append, tx_mkT, if_pos rfl]
      unfold numR
      rw [List.tail_cons, List.cons_append, List.nil_append, kd_wdT, if_pos rfl, nmr_wdT, if_neg (by omega), List.tail_cons]
      have : elN q ((d.toNat : Int) - 48) = s.data.toList := by unfold elN; rw [dig_itoa d1 (by omega), e]; rfl
      show Rs.ok (.mk 2 0 (mb (elN q ((d.toNat : Int) - 48))) []) r = _
      rw [this]
    · have hs : nmB s.data.toList = true := by
        unfold varB at h
        cases e : nmB s.data.toList
        · rw [e] at h; simp at h; exact absurd h he
        · rfl
      unfold varP
      rw [if_neg he, toks_wd, toks_nil, List.cons_append, nm_first (nm_parts hs).2.1, List.nil_append, nm_res _ r h1 h2 h3]
  | sum _ h =>
    refine back_pr ⟨(by decide : (13 : Int) ≤ lvS 24), fun r h1 h2 h3 => ?_⟩
    rw [hT, show toks (form 24 0 s.data.toList (List.map bx [])) = [wdT 1 0 sumW, mkT [40], wdT 1 0 s.data.toList, mkT [41]] from rfl]
    rw [List.cons_append, nm_first (by decide), res_nm, if_pos ⟨rfl, rfl⟩]
    unfold nameR
    rw [List.cons_append, List.tail_cons, List.cons_append, kd_wdT, if_pos rfl, List.tail_cons, List.cons_append, List.nil_append]
    show need [41] (mkT [41] :: r) _ = _
    rw [need_mk]
    rfl
  | elm _ a h =>
    have ha := hk a (by simp)
    refine back_pr ⟨(by decide : (13 : Int) ≤ lvS 3), fun r h1 h2 h3 => ?_⟩
    rw [hT, show form 3 0 s.data.toList (List.map bx [a]) = .wd 1 0 s.data.toList :: .mk [91] :: (plc 1 (bx a) ++ [.mk [93]]) from rfl]
    rw [toks_wd, toks_mk, toks_app, toks_mk, toks_nil, List.cons_append, nm_first (nm_parts h).2.1, List.cons_append, List.append_assoc, List.singleton_append]
    rw [res_nm, if_neg (fun g => by simp [tx_cons] at g), if_neg (fun g => by simp [tx_cons] at g), tx_mkT, if_pos rfl, List.tail_cons]
    rw [plc_one ha _ (stop_mark rfl (by decide) (by decide) (by decide) (by decide) (by decide) (by decide))]
    rw [bok, need_mk]
  | ons a =>
    have ha := hk a (by simp)
    refine back_pr ⟨(by decide : (13 : Int) ≤ lvS 25), fun r h1 h2 h3 => ?_⟩
    rw [hT, show form 25 0 (ByteArray.mk #[]).data.toList (List.map bx [a]) = .wd 1 0 onesW :: .mk [40] :: (plc 1 (bx a) ++ [.mk [41]]) from rfl]
    rw [toks_wd, toks_mk, toks_app, toks_mk, toks_nil, List.cons_append, nm_first (by decide), List.cons_append, List.append_assoc, List.singleton_append]
    rw [res_nm, if_neg (fun g => by have := g.1; revert this; decide), if_pos ⟨rfl, rfl⟩, List.tail_cons]
    rw [plc_one ha _ (stop_mark rfl (by decide) (by decide) (by decide) (by decide) (by decide) (by decide))]
    rw [bok, need_mk]
    rfl
  | pre _ a h =>
    have ha := hk a (by simp)
    have hm : pT (pMark o) = o := by rcases h with rfl | rfl | rfl <;> decide
    refine back_pr ⟨(by rcases h with rfl | rfl | rfl <;> decide : (13 : Int) ≤ lvS o), fun r h1 h2 h3 => ?_⟩
    rw [hT, List.map_cons, List.map_nil, form_pre h, toks_mk, List.cons_append, res_pf, if_pos (by rw [tx_cons, hm]; omega), List.tail_cons, plc_pf ha r h1 h2 h3]
    rw [bok]
    rw [tx_cons, hm]
    rfl
  | bin _ a b h h' =>
    have ha := hk a (by simp)
    have hb := hk b (by simp)
    obtain ⟨f1, f2, f3, f4, f5, f6, f7, f8⟩ := bin_facts h h'
    have e8 : lvS (Ex.mk o 0 ⟨#[]⟩ [a, b]).op = bLev o := f8
    refine back_op (by rw [e8]; exact f6) (by rw [e8]; exact f7) fun lv r hl hf => ?_
    rw [e8] at hl hf ⊢
    rw [hT, List.map_cons, List.map_cons, List.map_nil, form_bin h h']
    unfold two
    rw [toks_app, toks_sp, toks_mk, toks_sp, List.append_assoc, List.cons_append]
    obtain ⟨rc, hrc, e1⟩ := plc_bk ha (p := lPl o) (lv := lv) (by unfold lPl; split <;> omega) (by unfold lPl; split <;> omega) (by unfold lPl; split <;> omega) (mkT (bMark o) :: (toks (plc (rPl o) (bx b)) ++ r))
      (fol_mark rfl (by rw [f1]; unfold lPl; dsimp only; split <;> (try split) <;> omega) f2 f3 f4 f5)
    have hlp : bLev o ≤ rc := by unfold lPl at hrc; split at hrc <;> omega
    rw [e1, res_lp, tx_cons, show (mkT (bMark o)).text = bMark o from rfl, f1, if_pos ⟨by show bLev o ≠ 0; omega, hl, hlp⟩, List.tail_cons, res_jn]
    have er : (if bLev o = 2 then (2 : Int) else bLev o + 1) = rPl o := rfl
    rw [er] at hf
    dsimp only
    rw [er]
    obtain ⟨rc2, hrc2, e2⟩ := plc_bk hb (p := rPl o) (lv := rPl o) (by unfold rPl; split <;> omega) (by unfold rPl; split <;> omega) (Int.le_refl _) r (hf.mono (by split <;> omega))
    rw [e2, lp_end hf]
    rfl
  | iff a b c =>
    have ha := hk a (by simp)
    have hb := hk b (by simp)
    have hc := hk c (by simp)
    refine ⟨fun g => absurd (show (13 : Int) ≤ 1 from g) (by decide), fun g => absurd (show (2 : Int) ≤ 1 from g) (by decide), fun r hr => ?_⟩
    rw [hT, show form 22 0 (ByteArray.mk #[]).data.toList (List.map bx [a, b, c]) = thr (bx a) (bx b) (bx c) from rfl]
    unfold thr
    rw [toks_app, toks_sp, toks_mk, toks_sp, toks_app, toks_sp, toks_mk, toks_sp, List.append_assoc, List.cons_append, List.append_assoc, List.cons_append, res_ch]
    obtain ⟨rc, _, e1⟩ := plc_bk ha (p := 2) (lv := 2) (by decide) (by decide) (by decide) (mkT [63] :: (toks (plc 1 (bx b)) ++ mkT [58] :: (toks (plc 1 (bx c)) ++ r)))
      (fol_mark rfl (by decide) (by decide) (by decide) (by decide) (by decide))
    rw [e1, lp_end (fol_mark rfl (by decide) (by decide) (by decide) (by decide) (by decide))]
    rw [bok]
    rw [tx_mkT, if_pos rfl, List.tail_cons, plc_one hb _ (stop_mark rfl (by decide) (by decide) (by decide) (by decide) (by decide) (by decide))]
    rw [bok]
    rw [need_mk, plc_one hc r hr]
    rfl
  | ins a q h1 h2 h3 =>
    have ha := hk a (by simp)
    refine back_op (e := .mk 23 0 ⟨#[]⟩ (a :: q)) (by show (2 : Int) ≤ 9; decide) (by show (9 : Int) ≤ 12; decide) fun lv r hl hf => ?_
    have hl9 : lv ≤ 9 := hl
    rw [hT, show form 23 0 (ByteArray.mk #[]).data.toList (List.map bx (a :: q)) = EtM.ins (bx a) (q.map bx) from rfl]
    unfold EtM.ins
    rw [toks_app, toks_sp, toks_wd, toks_sp, toks_mk, toks_sp, toks_app, toks_sp, toks_mk, toks_nil, List.append_assoc, List.cons_append, List.cons_append, List.append_assoc, List.cons_append, List.nil_append]
    obtain ⟨rc, _, e1⟩ := plc_bk ha (p := 9) (lv := lv) (by decide) (by decide) hl9 (wdT 2 0 insW :: mkT [123] :: (toks (rgs (q.map bx)) ++ mkT [125] :: r))
      ⟨by rw [tx_cons]; decide, fun _ => by decide, by rw [tx_cons]; decide, by rw [tx_cons]; decide, by rw [tx_cons]; decide⟩
    rw [e1, res_lp, if_neg (fun g => g.1 (by rw [tx_cons]; decide)), if_pos ⟨hl9, rfl⟩, List.tail_cons, res_rg, need_mk, rl_back _ q [a] r (Nat.le_refl _) h1 h3 (fun x hx => hk x (by simp [hx]))]
    rfl
theorem back (e : Ex) : Ok e → Back e := by
  induction e using Ex.ind with
  | h o n s ks ih =>
    intro h
    obtain ⟨h1, h2⟩ := (ok_mk o n s ks).1 h
    exact back_form (shape h1) (fun a ha => ih a ha (h2 a ha))
theorem parse_prn {e : Ex} (h : Ok e) : res .ch (T e) = .ok e [] := by
  have := (back e h).ch [] stop_nil
  rwa [List.append_nil] at this

/-! Only texts, kinds and numbers matter. -/
def Rs.map (g : List Tk → List Tk) : Rs → Rs
  | .ok e r => .ok e (g r)
  | .bad x k => .bad x k
  | .out => .out
def rl1 (t : Tk) : Tk := ⟨t.kind, t.n, t.text, 0⟩
abbrev st (l : List Tk) : List Tk := l.map rl1
theorem tx_st (l : List Tk) : tx (st l) = tx l := by cases l <;> rfl
theorem kd_st (l : List Tk) : kd (st l) = kd l := by cases l <;> rfl
theorem nmr_st (l : List Tk) : nmr (st l) = nmr l := by cases l <;> rfl
theorem tail_st (l : List Tk) : (st l).tail = st l.tail := by cases l <;> rfl
theorem flt_st (l : List Tk) : flt (st l) = (flt l).map st := by unfold flt; rw [List.length_map]; rfl
theorem bind_st {x y : Rs} {g k : Ex → List Tk → Rs} (hx : y = x.map st) (hg : ∀ e r, k e (st r) = (g e r).map st) : y.bind k = (x.bind g).map st := by
  subst hx
  cases x with
  | ok e r => exact hg e r
  | bad _ _ => rfl
  | out => rfl
theorem need_st {m : List UInt8} {l : List Tk} {g k : List Tk → Rs} (hg : ∀ r, k (st r) = (g r).map st) : need m (st l) k = (need m l g).map st := by
  unfold need
  rw [tx_st, tail_st]
  split
  · exact hg _
  · exact flt_st l
theorem numR_st {l : List Tk} {g k : Int → List Tk → Rs} (hg : ∀ n r, k n (st r) = (g n r).map st) : numR (st l) k = (numR l g).map st := by
  unfold numR
  rw [kd_st, nmr_st, tail_st, List.length_map]
  split
  · split
    · rfl
    · exact hg _ _
  · exact flt_st l
theorem nameR_st {l : List Tk} {g k : List UInt8 → List Tk → Rs} (hg : ∀ n r, k n (st r) = (g n r).map st) : nameR (st l) k = (nameR l g).map st := by
  unfold nameR
  rw [kd_st, tx_st, tail_st]
  split
  · exact hg _ _
  · exact flt_st l
theorem run_st : ∀ (f : Nat) (j : Jb) (l : List Tk), run f j (st l) = (run f j l).map st := by
  intro f
  induction f with
  | zero => intro j l; rfl
  | succ f ih =>
    intro j l
    cases j with
    | ch =>
      rw [run, run]
      refine bind_st (ih _ _) fun c r => ?_
      rw [tx_st, tail_st]
      split
      · exact bind_st (ih _ _) fun a r2 => need_st fun r3 => bind_st (ih _ _) fun _ _ => rfl
      · rfl
    | op lv =>
      rw [run, run]
      exact bind_st (ih _ _) fun e r => ih _ _
    | lp lv rc e =>
      rw [run, run, tx_st, tail_st]
      split
      · exact bind_st (ih _ _) fun e r => ih _ _
      · split
        · exact bind_st (ih _ _) fun e r => ih _ _
        · rfl
    | jn k o sw e =>
      rw [run, run]
      exact bind_st (ih _ _) fun _ _ => rfl
    | rg e =>
      rw [run, run]
      exact need_st fun r => ih _ _
    | rl acc =>
      rw [run, run]
      refine bind_st (ih _ _) fun a r => need_st fun r2 => bind_st (ih _ _) fun b r3 => ?_
      rw [tx_st, tail_st]
      split
      · exact ih _ _
      · exact need_st fun _ => rfl
    | pf =>
      rw [run, run, tx_st, tail_st]
      split
      · exact bind_st (ih _ _) fun _ _ => rfl
      · exact ih _ _
    | pr =>
      rw [run, run, kd_st, tx_st, tail_st]
      split
      · exact numR_st fun _ _ => rfl
      · split
        · exact ih _ _
        · exact need_st fun r => bind_st (ih _ _) fun e r2 => need_st fun _ => rfl
    | nm s =>
      rw [run, run, tx_st, tail_st]
      split
      · exact nameR_st fun _ _ => need_st fun _ => rfl
      · split
        · exact bind_st (ih _ _) fun _ _ => need_st fun _ => rfl
        · split
          · exact bind_st (ih _ _) fun _ _ => need_st fun _ => rfl
          · split
            · exact numR_st fun _ _ => rfl
            · rfl
theorem res_st (j : Jb) (l : List Tk) : res j (st l) = (res j l).map st := by
  unfold res
  rw [List.length_map]
  exact run_st _ _ _
/-- Lists that differ in lines alone. -/
theorem st_at (l : List Tk) (ln : Int) : st (l.map (·.at ln)) = st l := by
  rw [st, List.map_map]; rfl
theorem res_same {j : Jb} {l k : List Tk} (h : st l = st k) : (res j l).map st = (res j k).map st := by rw [← res_st, ← res_st, h]

/-! A ')' behind -/
theorem bind_add {x y : Rs} {g k : Ex → List Tk → Rs} {s : List Tk} {e : Ex} {r : List Tk} (hx : ∀ e1 r1, x = .ok e1 r1 → y = .ok e1 (r1 ++ s)) (hg : ∀ e1 r1, g e1 r1 = .ok e r → k e1 (r1 ++ s) = .ok e (r ++ s)) (h : x.bind g = .ok e r) : y.bind k = .ok e (r ++ s) := by
  obtain ⟨e1, r1, h1, h2⟩ := bind_ok h
  rw [hx _ _ h1]
  exact hg _ _ h2
/-- A token that continues nothing and ends nothing else. -/
structure Shut (s : List Tk) : Prop where
  b : (bT (tx s)).1 = 0
  p : pT (tx s) = 0
  k1 : kd s ≠ 1
  k3 : kd s ≠ 3
  i : tx s ≠ insW
  m : tx s ≠ [63] ∧ tx s ≠ [44] ∧ tx s ≠ [40] ∧ tx s ≠ [91] ∧ tx s ≠ [64]
theorem need_add {m : List UInt8} {l s : List Tk} {g k : List Tk → Rs} {e : Ex} {r : List Tk} (hm : m ≠ []) (hg : g l.tail = .ok e r → k (l.tail ++ s) = .ok e (r ++ s)) (h : need m l g = .ok e r) : need m (l ++ s) k = .ok e (r ++ s) := by
  obtain ⟨h1, h2⟩ := need_ok h
  cases l with
  | nil => exact absurd h1.symm hm
  | cons t q =>
    unfold need
    rw [if_pos (show tx (t :: q ++ s) = m from h1)]
    exact hg h2
theorem numR_add {l s : List Tk} {g k : Int → List Tk → Rs} {e : Ex} {r : List Tk} (hg : ∀ n, g n l.tail = .ok e r → k n (l.tail ++ s) = .ok e (r ++ s)) (h : numR l g = .ok e r) : numR (l ++ s) k = .ok e (r ++ s) := by
  obtain ⟨h1, h2, h3⟩ := numR_ok h
  cases l with
  | nil => cases h1
  | cons t q =>
    unfold numR
    rw [if_pos (show kd (t :: q ++ s) = 3 from h1), if_neg (show ¬ 65535 < nmr (t :: q ++ s) by have : nmr (t :: q ++ s) = nmr (t :: q) := rfl; omega)]
    exact hg _ h3
theorem nameR_add {l s : List Tk} {g k : List UInt8 → List Tk → Rs} {e : Ex} {r : List Tk} (hg : ∀ n, g n l.tail = .ok e r → k n (l.tail ++ s) = .ok e (r ++ s)) (h : nameR l g = .ok e r) : nameR (l ++ s) k = .ok e (r ++ s) := by
  obtain ⟨h1, h3⟩ := nameR_ok h
  cases l with
  | nil => cases h1
  | cons t q =>
    unfold nameR
    rw [if_pos (show kd (t :: q ++ s) = 1 from h1)]
    exact hg _ h3
/-- A test on the next token's text. -/
theorem tx_add {l s : List Tk} {m : List UInt8} (hm : m ≠ []) (hs : tx s ≠ m) : (tx (l ++ s) = m ↔ tx l = m) ∧ (tx l = m → (l ++ s).tail = l.tail ++ s) := by
  cases l with
  | nil => exact ⟨⟨fun h => absurd h hs, fun h => absurd h.symm hm⟩, fun h => absurd h.symm hm⟩
  | cons t q => exact ⟨Iff.rfl, fun _ => rfl⟩
theorem run_add {s : List Tk} (hs : Shut s) : ∀ (f : Nat) (j : Jb) (l : List Tk) (e : Ex) (r : List Tk), run f j l = .ok e r → run f j (l ++ s) = .ok e (r ++ s) := by
  intro f
  induction f with
  | zero => intro j l e r h; cases h
  | succ f ih =>
    intro j l e r h
    obtain ⟨m1, m2, m3, m4, m5⟩ := hs.m
    cases j with
    | ch =>
      rw [run] at h ⊢
      refine bind_add (fun _ _ q => ih _ _ _ _ q) (fun c r1 h1 => ?_) h
      obtain ⟨t1, t2⟩ := tx_add (l := r1) (m := [63]) (by decide) m1
      by_cases q : tx r1 = [63]
      · rw [if_pos q] at h1
        rw [if_pos (t1.2 q), t2 q]
        exact bind_add (fun _ _ q => ih _ _ _ _ q) (fun _ _ h2 => need_add (by decide) (fun h3 => bind_add (fun _ _ q => ih _ _ _ _ q) (fun _ _ h4 => by cases h4; rfl) h3) h2) h1
      · rw [if_neg q] at h1
        rw [if_neg (fun g => q (t1.1 g))]
        cases h1; rfl
    | op lv =>
      rw [run] at h ⊢
      exact bind_add (fun _ _ q => ih _ _ _ _ q) (fun _ _ h1 => ih _ _ _ _ h1) h
    | lp lv rc e0 =>
      rw [run] at h ⊢
      cases l with
      | nil =>
        rw [if_neg (fun g => g.1 rfl), if_neg (fun g => by cases g.2)] at h
        rw [List.nil_append, if_neg (fun g => g.1 hs.b), if_neg (fun g => hs.i g.2)]
        cases h; rfl
      | cons t q =>
        rw [List.cons_append, tx_cons]
        rw [tx_cons] at h
        split
        · rename_i g
          rw [if_pos g] at h
          exact bind_add (fun _ _ q => ih _ _ _ _ q) (fun _ _ h1 => ih _ _ _ _ h1) h
        · rename_i g
          rw [if_neg g] at h
          split
          · rename_i g2
            rw [if_pos g2] at h
            exact bind_add (fun _ _ q => ih _ _ _ _ q) (fun _ _ h1 => ih _ _ _ _ h1) h
          · rename_i g2
            rw [if_neg g2] at h
            cases h; rfl
    | jn k o sw e0 =>
      rw [run] at h ⊢
      exact bind_add (fun _ _ q => ih _ _ _ _ q) (fun _ _ h1 => by cases h1; rfl) h
    | rg e0 =>
      rw [run] at h ⊢
      exact need_add (by decide) (fun h1 => ih _ _ _ _ h1) h
    | rl acc =>
      rw [run] at h ⊢
      refine bind_add (fun _ _ q => ih _ _ _ _ q) (fun a r1 h1 => need_add (by decide) (fun h2 => bind_add (fun _ _ q => ih _ _ _ _ q) (fun b r3 h3 => ?_) h2) h1) h
      obtain ⟨t1, t2⟩ := tx_add (l := r3) (m := [44]) (by decide) m2
      by_cases q : tx r3 = [44]
      · rw [if_pos q] at h3
        rw [if_pos (t1.2 q), t2 q]
        exact ih _ _ _ _ h3
      · rw [if_neg q] at h3
        rw [if_neg (fun g => q (t1.1 g))]
        exact need_add (by decide) (fun h4 => by cases h4; rfl) h3
    | pf =>
      rw [run] at h ⊢
      cases l with
      | nil =>
        rw [if_neg (fun g => g rfl)] at h
        rw [List.nil_append, if_neg (fun g => g hs.p)]
        exact ih _ [] _ _ h
      | cons t q =>
        rw [List.cons_append, tx_cons]
        rw [tx_cons] at h
        split
        · rename_i g
          rw [if_pos g] at h
          exact bind_add (fun _ _ q => ih _ _ _ _ q) (fun _ _ h1 => by cases h1; rfl) h
        · rename_i g
          rw [if_neg g] at h
          exact ih _ (t :: q) _ _ h
    | pr =>
      rw [run] at h ⊢
      cases l with
      | nil =>
        rw [if_neg (by decide), if_neg (by decide)] at h
        obtain ⟨g, _⟩ := need_ok h
        cases g
      | cons t q =>
        rw [List.cons_append, kd_cons, tx_cons]
        rw [kd_cons, tx_cons] at h
        split
        · rename_i g
          rw [if_pos g] at h
          exact numR_add (l := t :: q) (fun _ h1 => by cases h1; rfl) h
        · rename_i g
          rw [if_neg g] at h
          split
          · rename_i g2
            rw [if_pos g2] at h
            exact ih _ _ _ _ h
          · rename_i g2
            rw [if_neg g2] at h
            exact need_add (l := t :: q) (by decide) (fun h1 => bind_add (fun _ _ q => ih _ _ _ _ q) (fun _ _ h2 => need_add (by decide) (fun h3 => by cases h3; rfl) h2) h1) h
    | nm x =>
      rw [run] at h ⊢
      cases l with
      | nil =>
        rw [if_neg (fun g => by cases g.2), if_neg (fun g => by cases g.2), if_neg (by decide), if_neg (by decide)] at h
        rw [List.nil_append, if_neg (fun g => m3 g.2), if_neg (fun g => m3 g.2), if_neg m4, if_neg m5]
        cases h; rfl
      | cons t q =>
        rw [List.cons_append, tx_cons]
        rw [tx_cons] at h
        split
        · rename_i g
          rw [if_pos g] at h
          exact nameR_add (fun _ h1 => need_add (by decide) (fun h2 => by cases h2; rfl) h1) h
        · rename_i g
          rw [if_neg g] at h
          split
          · rename_i g2
            rw [if_pos g2] at h
            exact bind_add (fun _ _ q => ih _ _ _ _ q) (fun _ _ h1 => need_add (by decide) (fun h2 => by cases h2; rfl) h1) h
          · rename_i g2
            rw [if_neg g2] at h
            split
            · rename_i g3
              rw [if_pos g3] at h
              exact bind_add (fun _ _ q => ih _ _ _ _ q) (fun _ _ h1 => need_add (by decide) (fun h2 => by cases h2; rfl) h1) h
            · rename_i g3
              rw [if_neg g3] at h
              split
              · rename_i g4
                rw [if_pos g4] at h
                exact numR_add (fun _ h1 => by cases h1; rfl) h
              · rename_i g4
                rw [if_neg g4] at h
                cases h; rfl
/-- Parentheses around the whole. -/
theorem res_paren {l : List Tk} {e : Ex} {t u : Tk} (ht : t.kind = 4 ∧ t.text = [40]) (hu : u.kind = 4 ∧ u.text = [41]) (h : res .ch l = .ok e []) : res .ch (t :: (l ++ [u])) = .ok e [] := by
  have hs : Shut [u] := by
    have e1 : tx [u] = [41] := hu.2
    have e2 : kd [u] = 4 := hu.1
    exact ⟨by rw [e1]; decide, by rw [e1]; decide, by rw [e2]; decide, by rw [e2]; decide, by rw [e1]; decide, by rw [e1]; decide⟩
  have h1 := run_add hs _ _ _ _ _ h
  have h2 : res .ch (l ++ [u]) = .ok e ([] ++ [u]) := by rw [← res_of (by rw [h1]; exact ok_ne), h1]
  have ep : res .pf (t :: (l ++ [u])) = .ok e [] := by
    rw [res_pf, if_neg (by rw [tx_cons, ht.2]; decide), res_pr, if_neg (by rw [kd_cons, ht.1]; decide), if_neg (by rw [kd_cons, ht.1]; decide), need_yes ht.2, h2]
    rw [bok]
    rw [List.nil_append, need_yes hu.2]
  have eo : res (.op 2) (t :: (l ++ [u])) = .ok e [] := by
    rw [res_op, ep]
    exact lp_end (stop_nil.fol.mono (by decide))
  rw [res_ch, eo]
  rfl
end Go.Proofs.YtlnomiiphlbamaaGreatDoor.EtM
