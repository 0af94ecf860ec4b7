/-
  Plain: the longest mark out of the table; a name by its bytes; a valid token by its kind.
-/
import Derived.Test.YtoigjeoncdfdmaaGreatDoorLexMath
namespace Go.Proofs.YtoigjeoncdfdmaaGreatDoor.LexM
open Go Go.RowKit Go.Proofs.YtoigjeoncdfdmaaGreatDoor.NumM

def preB (l t : List UInt8) : Bool := decide (l.take t.length = t)
def better (l b m : List UInt8) : List UInt8 := if preB l m && decide (b.length < m.length) then m else b
def bestK (ys : List (List UInt8)) (l : List UInt8) (k : Nat) : List UInt8 := (ys.take k).foldl (better l) []
theorem bestK_zero (ys : List (List UInt8)) (l : List UInt8) : bestK ys l 0 = [] := rfl
theorem bestK_next {ys : List (List UInt8)} {l m : List UInt8} {k : Nat} (h : ys[k]? = some m) : bestK ys l (k + 1) = better l (bestK ys l k) m := by
  obtain ⟨hk, he⟩ := List.getElem?_eq_some_iff.1 h
  unfold bestK
  rw [List.take_succ_eq_append_getElem hk, List.foldl_append, he]; rfl
theorem fold_best (l : List UInt8) : ∀ (ys : List (List UInt8)) (b0 : List UInt8), (ys.foldl (better l) b0 = b0 ∨ (ys.foldl (better l) b0 ∈ ys ∧ preB l (ys.foldl (better l) b0) = true)) ∧ b0.length ≤ (ys.foldl (better l) b0).length ∧ ∀ m ∈ ys, preB l m = true → m.length ≤ (ys.foldl (better l) b0).length
  | [], b0 => ⟨.inl rfl, Nat.le_refl _, fun m hm => by cases hm⟩
  | y :: r, b0 => by
    obtain ⟨h1, h2, h3⟩ := fold_best l r (better l b0 y)
    rw [List.foldl_cons]
    have hb : (better l b0 y = b0 ∧ (preB l y = true → y.length ≤ b0.length)) ∨ (better l b0 y = y ∧ preB l y = true ∧ b0.length < y.length) := by
      unfold better
      by_cases g : (preB l y && decide (b0.length < y.length)) = true
      · rw [if_pos g]
        simp only [Bool.and_eq_true, decide_eq_true_eq] at g
        exact .inr ⟨rfl, g.1, g.2⟩
      · rw [if_neg g]
        simp only [Bool.and_eq_true, decide_eq_true_eq, not_and] at g
        exact .inl ⟨rfl, fun x => by have := g x; omega⟩
    rcases hb with ⟨e, hp⟩ | ⟨e, hp, hlt⟩
    · rw [e] at h1 h2 h3 ⊢
      refine ⟨?_, h2, fun m hm hpm => ?_⟩
      · rcases h1 with h1 | ⟨h1, h1'⟩
        · exact .inl h1
        · exact .inr ⟨List.mem_cons_of_mem _ h1, h1'⟩
      · rcases List.mem_cons.1 hm with rfl | hm
        · exact Nat.le_trans (hp hpm) h2
        · exact h3 m hm hpm
    · rw [e] at h1 h2 h3 ⊢
      refine ⟨.inr ?_, by omega, fun m hm hpm => ?_⟩
      · rcases h1 with h1 | ⟨h1, h1'⟩
        · rw [h1]; exact ⟨by simp, hp⟩
        · exact ⟨List.mem_cons_of_mem _ h1, h1'⟩
      · rcases List.mem_cons.1 hm with rfl | hm
        · exact h2
        · exact h3 m hm hpm
theorem take_min (l : List UInt8) {i j : Nat} (h : min j l.length ≤ i) (h2 : i ≤ j) : l.take i = l.take j := by
  by_cases e : j ≤ l.length
  · rw [show i = j by omega]
  · rw [List.take_of_length_le (by omega), List.take_of_length_le (by omega)]
theorem pre_take (l : List UInt8) (j : Nat) : preB l (l.take j) = true := by
  unfold preB
  rw [decide_eq_true_eq, List.length_take]
  by_cases e : j ≤ l.length
  · rw [Nat.min_eq_left e]
  · rw [Nat.min_eq_right (by omega), List.take_of_length_le (by omega), List.take_of_length_le (by omega)]
theorem best_mark (l : List UInt8) : markT l = if bestK mks l mks.length = [] then (zTk, 5) else (⟨4, 0, bestK mks l mks.length, 0⟩, 0) := by
  have e : bestK mks l mks.length = mks.foldl (better l) [] := by unfold bestK; rw [List.take_length]
  rw [e]
  obtain ⟨h1, _, h3⟩ := fold_best l mks []
  obtain ⟨b, hb⟩ : ∃ b, mks.foldl (better l) [] = b := ⟨_, rfl⟩
  rw [hb] at h1 h3 ⊢
  have hpre : b ≠ [] → b ∈ mks ∧ b = l.take b.length ∧ 1 ≤ b.length ∧ b.length ≤ 2 := fun hne => by
    rcases h1 with h1 | ⟨h1, hp⟩
    · exact absurd h1 hne
    · exact ⟨h1, (of_decide_eq_true hp).symm, List.length_pos_iff.2 hne, (mk_facts b h1).2.1⟩
  have big : ∀ j, isMk (l.take j) = true → min j l.length ≤ b.length := fun j hj => by
    have := h3 (l.take j) (of_decide_eq_true hj) (pre_take l j)
    rwa [List.length_take] at this
  have posl : ∀ j, isMk (l.take j) = true → 1 ≤ min j l.length := fun j hj => by
    have := List.length_pos_iff.2 (mk_facts _ (of_decide_eq_true hj)).1
    rwa [List.length_take] at this
  unfold markT
  by_cases c2 : isMk (l.take 2) = true
  · have g := big 2 c2
    have g0 := posl 2 c2
    have hne : b ≠ [] := by intro x; have : b.length = 0 := (by rw [x]; rfl); omega
    obtain ⟨_, p1, _, p3⟩ := hpre hne
    rw [if_pos c2, if_neg hne]
    have : b = l.take 2 := by rw [p1]; exact take_min l g p3
    rw [← this]
  · rw [if_neg c2]
    by_cases c1 : isMk (l.take 1) = true
    · have g := big 1 c1
      have g0 := posl 1 c1
      have hne : b ≠ [] := by intro x; have : b.length = 0 := (by rw [x]; rfl); omega
      obtain ⟨p0, p1, p2, p3⟩ := hpre hne
      rw [if_pos c1, if_neg hne]
      have hlen : b.length = 1 := by
        by_cases x : b.length = 2
        · rw [x] at p1
          exact absurd (by unfold isMk; rw [decide_eq_true_eq, ← p1]; exact p0) c2
        · omega
      rw [hlen] at p1
      rw [← p1]
    · rw [if_neg c1]
      by_cases hne : b = []
      · rw [if_pos hne]
      · obtain ⟨p0, p1, p2, p3⟩ := hpre hne
        have hm : isMk (l.take b.length) = true := by unfold isMk; rw [decide_eq_true_eq, ← p1]; exact p0
        by_cases x : b.length = 2
        · rw [x] at hm; exact absurd hm c2
        · rw [show b.length = 1 by omega] at hm; exact absurd hm c1

/-! Names and valid tokens, as the reference has them -/
def nmB (l : List UInt8) : Bool := match l with | [] => false | c :: r => decide (r.length + 1 ≤ 16) && (sml c && (!isKw (c :: r) && (c :: r).all wrd))
theorem wordS_all {l : List UInt8} (h : l.all wrd = true) : wordS l = l := by
  have := List.takeWhile_append_of_pos (p := wrd) (l₁ := l) (l₂ := []) (fun a ha => List.all_eq_true.1 h a ha)
  simpa [wordS] using this
theorem name_iff (l : List UInt8) : validS ⟨1, 0, l, 0⟩ = nmB l := by
  rw [Bool.eq_iff_iff, valid_iff]
  constructor
  · intro h
    have h0 : (firstS l).2 = 0 := by show (firstS (Tk.text ⟨1, 0, l, 0⟩)).2 = 0; rw [h]
    have hf : firstS l = (⟨1, 0, l, 0⟩, 0) := h
    rcases hw : wordS l with _ | ⟨c, r⟩
    · rw [first_mark hw] at hf
      unfold markT at hf
      split at hf
      · simp at hf
      · split at hf
        · simp at hf
        · simp at hf
    · rw [first_word hw] at hf
      by_cases hs : sml c = true
      · rw [if_pos hs] at hf
        unfold nameT at hf
        by_cases h16 : 16 < (c :: r).length
        · rw [if_pos h16] at hf; simp at hf
        · rw [if_neg h16] at hf
          have ht : c :: r = l := by have := congrArg (fun x => x.1.text) hf; exact this
          have hk : isKw (c :: r) = false := by
            have := congrArg (fun x => x.1.kind) hf
            cases e : isKw (c :: r)
            · rfl
            · rw [e] at this; simp at this
          have hall : (c :: r).all wrd = true := by
            rw [List.all_eq_true]
            intro x hx
            rw [← hw] at hx
            exact word_all l x hx
          rw [← ht]
          simp only [nmB, hs, hk, hall, Bool.not_false, Bool.and_true]
          simp at h16 ⊢; omega
      · rw [if_neg hs] at hf
        unfold numT at hf
        split at hf
        · split at hf
          · split at hf
            · simp at hf
            · simp at hf
          · have := congrArg (fun x => x.1.kind) hf; simp [zTk] at this
        · simp at hf
  · intro h
    cases l with
    | nil => cases h
    | cons c r =>
      simp only [nmB, Bool.and_eq_true, decide_eq_true_eq, Bool.not_eq_true'] at h
      obtain ⟨h1, h2, h3, h4⟩ := h
      have hw : wordS (c :: r) = c :: r := wordS_all h4
      show firstS (c :: r) = _
      rw [first_word hw, if_pos h2, nameT, if_neg (by rw [List.length_cons]; omega), h3]
      rfl
theorem small_all {k : List UInt8} (h : k.all sml = true) : k.all wrd = true := by
  rw [List.all_eq_true] at h ⊢
  intro c hc
  exact wrd_sml (h c hc)
theorem kw_first {l : List UInt8} (h : isKw l = true) : firstS l = (⟨2, 0, l, 0⟩, 0) := by
  obtain ⟨h1, h2, h3⟩ := kw_byte h
  have hw := wordS_all (small_all h3)
  cases l with
  | nil => exact absurd rfl h1
  | cons c r =>
    have hc : sml c = true := List.all_eq_true.1 h3 c (by simp)
    rw [first_word hw, if_pos hc, nameT, if_neg (by omega), h]
    rfl
theorem mk_first {l : List UInt8} (h : isMk l = true) : firstS l = (⟨4, 0, l, 0⟩, 0) := by
  have f := mk_facts l (of_decide_eq_true h)
  have hw : wordS l = [] := by
    cases l with
    | nil => rfl
    | cons c r =>
      have hc := (mk_byte h (c := c) (by simp)).1
      unfold wordS
      rw [List.takeWhile_cons, hc]; rfl
  have e : l.take 2 = l := List.take_of_length_le f.2.1
  rw [first_mark hw, markT, e, if_pos h]
theorem kind_iff {l : List UInt8} {k n : Int} {t : List UInt8} {ln : Int} (h : firstS l = (⟨k, n, t, ln⟩, 0)) :
    (k = 1 ∧ n = 0) ∨ (k = 2 ∧ n = 0 ∧ isKw t = true) ∨ (k = 3 ∧ 0 ≤ n ∧ n ≤ 2147483647 ∧ parseS t = (n, 0) ∧ ∃ c r, t = c :: r ∧ dgt c = true) ∨ (k = 4 ∧ n = 0 ∧ isMk t = true) := by
  rcases hw : wordS l with _ | ⟨c, r⟩
  · rw [first_mark hw] at h
    unfold markT at h
    split at h
    · rename_i g
      simp only [Prod.mk.injEq, Tk.mk.injEq] at h
      obtain ⟨⟨rfl, rfl, rfl, _⟩, _⟩ := h
      exact .inr (.inr (.inr ⟨rfl, rfl, g⟩))
    · split at h
      · rename_i g
        simp only [Prod.mk.injEq, Tk.mk.injEq] at h
        obtain ⟨⟨rfl, rfl, rfl, _⟩, _⟩ := h
        exact .inr (.inr (.inr ⟨rfl, rfl, g⟩))
      · simp at h
  · rw [first_word hw] at h
    by_cases hs : sml c = true
    · rw [if_pos hs] at h
      unfold nameT at h
      split at h
      · simp at h
      · simp only [Prod.mk.injEq, Tk.mk.injEq] at h
        obtain ⟨⟨rfl, rfl, rfl, _⟩, _⟩ := h
        cases e : isKw (c :: r)
        · exact .inl ⟨by simp, rfl⟩
        · exact .inr (.inl ⟨by simp, rfl, rfl⟩)
    · rw [if_neg hs] at h
      by_cases hd : dgt c = true
      · rw [if_pos hd] at h
        unfold numT at h
        split at h
        · rename_i g
          split at h
          · simp at h
          · rename_i g2
            simp only [Prod.mk.injEq, Tk.mk.injEq] at h
            obtain ⟨⟨rfl, rfl, rfl, _⟩, _⟩ := h
            refine .inr (.inr (.inl ⟨rfl, ?_, by omega, by rw [← g], c, r, rfl, hd⟩))
            have hm : minus (c :: r) = false := by
              have := dgt_iff.1 hd
              rw [minus, beq_eq_false_iff_ne, List.head?_cons]
              intro e
              rw [Option.some.inj e] at this
              exact absurd this (by decide)
            unfold parseS lim
            split
            · split
              · rw [valS, hm]; simp
              · simp
            · simp
        · rename_i g
          simp only [Prod.mk.injEq] at h
          exact absurd h.2 g
      · rw [if_neg hd] at h; simp at h
/-- As the reference says it. -/
def validR (t : Tk) : Bool :=
  if t.kind = 1 then decide (t.n = 0) && nmB t.text
  else if t.kind = 2 then decide (t.n = 0) && isKw t.text
  else if t.kind = 3 then (decide (0 ≤ t.n) && decide (t.n ≤ 2147483647)) && decide (t.text = Lib.itoa t.n)
  else if t.kind = 4 then decide (t.n = 0) && isMk t.text
  else false
theorem parse_back {l : List UInt8} {n : Int} (h : parseS l = (n, 0)) : l = Lib.itoa n := by
  unfold parseS at h
  by_cases hd : isDec l = true
  · rw [if_pos hd] at h
    cases g : okI (valS l)
    · rw [lim_no g] at h; simp at h
    · rw [lim_ok g] at h
      have : valS l = n := by simpa using h
      rw [← this]; exact (itoa_back hd).symm
  · rw [if_neg hd] at h; simp at h
theorem itoa_first {n : Int} (h0 : 0 ≤ n) (h1 : n ≤ 2147483647) : firstS (Lib.itoa n) = (⟨3, n, Lib.itoa n, 0⟩, 0) := by
  obtain ⟨hd, hv⟩ := itoa_dec n
  have hp : parseS (Lib.itoa n) = (n, 0) := by rw [parseS, if_pos hd, hv, lim_ok (okI_iff.2 (by omega))]
  have hi : Lib.itoa n = Lib.decDigits n.toNat := by unfold Lib.itoa; rw [if_neg (by omega)]
  obtain ⟨i1, i2, _, _, _⟩ := dec_spec n.toNat
  rw [← hi] at i1 i2
  have hall : (Lib.itoa n).all wrd = true := by
    rw [List.all_eq_true] at i1 ⊢
    intro c hc
    exact wrd_dgt (i1 c hc)
  have hw := wordS_all hall
  rcases he : Lib.itoa n with _ | ⟨c, r⟩
  · exact absurd he i2
  · rw [he] at hw i1 hp
    have hc : dgt c = true := List.all_eq_true.1 i1 c (by simp)
    have hs : sml c = false := by
      have := dgt_iff.1 hc
      simp [sml]; omega
    rw [first_word hw, hs, if_neg (by decide), if_pos hc, numT, hp, if_pos rfl, if_neg (by simp only; omega)]
theorem validR_eq (t : Tk) : validR t = validS t := by
  rw [Bool.eq_iff_iff, valid_iff]
  unfold validR
  constructor
  · intro h
    by_cases k1 : t.kind = 1
    · rw [if_pos k1, Bool.and_eq_true, decide_eq_true_eq] at h
      have := h.2
      rw [← name_iff, valid_iff] at this
      rw [k1, h.1]; exact this
    rw [if_neg k1] at h
    by_cases k2 : t.kind = 2
    · rw [if_pos k2, Bool.and_eq_true, decide_eq_true_eq] at h
      rw [k2, h.1]; exact kw_first h.2
    rw [if_neg k2] at h
    by_cases k3 : t.kind = 3
    · rw [if_pos k3, Bool.and_eq_true, Bool.and_eq_true, decide_eq_true_eq, decide_eq_true_eq, decide_eq_true_eq] at h
      rw [k3, h.2]; exact itoa_first h.1.1 h.1.2
    rw [if_neg k3] at h
    by_cases k4 : t.kind = 4
    · rw [if_pos k4, Bool.and_eq_true, decide_eq_true_eq] at h
      rw [k4, h.1]; exact mk_first h.2
    rw [if_neg k4] at h
    cases h
  · intro h
    rcases kind_iff h with ⟨k, n⟩ | ⟨k, n, g⟩ | ⟨k, n0, n1, g, _⟩ | ⟨k, n, g⟩
    · rw [if_pos k, n]
      rw [k, n] at h
      have : validS ⟨1, 0, t.text, 0⟩ = true := valid_iff.2 h
      rw [name_iff] at this
      rw [this]; rfl
    · rw [if_neg (by omega), if_pos k, n, g]; rfl
    · rw [if_neg (by omega), if_neg (by omega), if_pos k, decide_eq_true n0, decide_eq_true n1, decide_eq_true (parse_back g)]; rfl
    · rw [if_neg (by omega), if_neg (by omega), if_neg (by omega), if_pos k, n, g]; rfl
end Go.Proofs.YtoigjeoncdfdmaaGreatDoor.LexM
