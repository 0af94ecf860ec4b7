/-
  Plain: a source read by places; what a rune is to its bytes; lists of tokens as cells.
-/
import Derived.Test.YtlnomiiphlbamaaGreatDoorLexValid
import Derived.Lib.OthersKept
namespace Go.Proofs.YtlnomiiphlbamaaGreatDoor.LexW
open Go Go.RowKit Go.Proofs.YtlnomiiphlbamaaGreatDoor.NumM Go.Proofs.YtlnomiiphlbamaaGreatDoor.LexM

def dr (s : ByteArray) (k : Nat) : List UInt8 := s.data.toList.drop k
theorem dr_cons (s : ByteArray) (k : Nat) (h : k < s.size) : dr s k = s[k] :: dr s (k + 1) := drop_cons s k h
theorem dr_end (s : ByteArray) (k : Nat) (h : s.size ≤ k) : dr s k = [] := List.drop_eq_nil_of_le (by rw [len_data]; exact h)
theorem dr_dr (s : ByteArray) (k j : Nat) : (dr s k).drop j = dr s (k + j) := List.drop_drop
theorem dr_zero (s : ByteArray) : dr s 0 = s.data.toList := rfl
theorem dr_len (s : ByteArray) (k : Nat) : (dr s k).length = s.size - k := by rw [dr, List.length_drop, len_data]
theorem ext_dr (s : ByteArray) (k : Nat) : (s.extract k s.size).data.toList = dr s k := by
  rw [ext_data, List.take_of_length_le (by rw [List.length_drop, len_data]; exact Nat.le_refl _)]; rfl
theorem skip_drop (l : List UInt8) : skipC l = l.drop (cmtS l).length := by
  induction l with
  | nil => rfl
  | cons c r ih =>
    by_cases h : c.toNat = 10
    · rw [skipC_stop r h]; simp [cmtS, noNl, h]
    · rw [skipC_cons r h, ih]; simp [cmtS, noNl, h]
theorem skip_end (l : List UInt8) : skipC l = [] ∨ ∃ c r, skipC l = c :: r ∧ c.toNat = 10 := by
  induction l with
  | nil => exact .inl rfl
  | cons c r ih =>
    by_cases h : c.toNat = 10
    · exact .inr ⟨c, r, skipC_stop r h, h⟩
    · rw [skipC_cons r h]; exact ih
theorem cmtS_le (l : List UInt8) : (cmtS l).length ≤ l.length := (List.takeWhile_prefix noNl).length_le
/-- No rune of the string passes over the place en. -/
def Cutp (s : ByteArray) (pos en : Nat) : Prop := (∀ i (h : i < s.size), pos ≤ i → i < en → s[i].toNat < 128) ∨ en = s.size ∨ ∃ h : en < s.size, s[en].toNat < 128
theorem cut_none (s : ByteArray) (pos en : Nat) (h : en ≤ pos) : Cutp s pos en := .inl fun i _ h1 h2 => by omega
theorem cut_step {s : ByteArray} {pos en : Nat} (hp : pos < s.size) (hlt : pos < en) (h : Cutp s pos en) :
    pos + (Utf8.decode s pos).2 ≤ en ∧ 1 ≤ (Utf8.decode s pos).2 ∧ Cutp s (pos + (Utf8.decode s pos).2) en := by
  have hw : 1 ≤ (Utf8.decode s pos).2 := by
    by_cases ha : s[pos].toNat < 128
    · rw [decode_ascii s pos hp ha]; exact Nat.le_refl _
    · exact (decode_high s pos hp (by omega)).2
  by_cases ha : s[pos].toNat < 128
  · rw [decode_ascii s pos hp ha]
    refine ⟨by simp only; omega, Nat.le_refl _, ?_⟩
    rcases h with h | h
    · exact .inl fun i hi h1 h2 => h i hi (by simp only at h1; omega) h2
    · exact .inr h
  · obtain ⟨h1, h2⟩ := rune_bytes s pos hp (by omega)
    refine ⟨?_, hw, ?_⟩
    · rcases h with h | h | ⟨he2, h⟩
      · exact absurd (h pos hp (Nat.le_refl _) hlt) (by omega)
      · omega
      · rcases Nat.lt_or_ge en (pos + (Utf8.decode s pos).2) with g | g
        · obtain ⟨_, h3⟩ := h2 en (by omega) g
          omega
        · exact g
    · rcases h with h | h
      · exact .inl fun i hi h1 h2 => h i hi (by omega) h2
      · exact .inr h
theorem cut_cmt {s : ByteArray} {pos : Nat} : Cutp s (pos + 1) (pos + (cmtS (dr s pos)).length) := by
  rcases skip_end (dr s pos) with h | ⟨c, r, h, hc⟩
  · rw [skip_drop, dr_dr] at h
    have := congrArg List.length h
    rw [dr_len] at this
    have l1 := cmtS_le (dr s pos)
    rw [dr_len] at l1
    by_cases hp : pos ≤ s.size
    · exact .inr (.inl (by simp at this; omega))
    · exact .inl fun i hi h1 h2 => by omega
  · rw [skip_drop, dr_dr] at h
    have hlt : pos + (cmtS (dr s pos)).length < s.size := by
      rcases Nat.lt_or_ge (pos + (cmtS (dr s pos)).length) s.size with g | g
      · exact g
      · rw [dr_end s _ g] at h; cases h
    rw [dr_cons s _ hlt] at h
    have e : s[pos + (cmtS (dr s pos)).length] = c := (List.cons.inj h).1
    exact .inr (.inr ⟨hlt, by rw [e]; omega⟩)
theorem cut_tok {s : ByteArray} {pos : Nat} {t : Tk} (hg : LexM.Good (dr s pos) t) : Cutp s (pos + 1) (pos + t.text.length) := by
  refine .inl fun i hi h1 h2 => ?_
  have e : s[i] ∈ t.text := by
    rw [hg.pre]
    have hl : i - pos < ((dr s pos).take t.text.length).length := by rw [List.length_take, dr_len]; omega
    have := List.getElem_mem hl
    rw [List.getElem_take] at this
    have e2 : (dr s pos)[i - pos]'(by rw [dr_len]; omega) = s[i] := by
      have : (dr s pos)[i - pos]'(by rw [dr_len]; omega) = s.data.toList[pos + (i - pos)]'(by rw [len_data]; omega) := List.getElem_drop ..
      rw [this]
      have e3 : pos + (i - pos) = i := by omega
      simp only [e3]
      rfl
    rw [e2] at this
    exact this
  exact (hg.byte _ e).2.2.2
theorem first_high {l : List UInt8} {c : UInt8} {r : List UInt8} (h : l = c :: r) (hc : 128 ≤ c.toNat) : firstS l = (zTk, 5) := by
  subst h
  have hw : wrd c = false := by
    cases e : wrd c
    · rfl
    · have := wrd_facts e; omega
  have e : wordS (c :: r) = [] := by unfold wordS; rw [List.takeWhile_cons, hw]; rfl
  rw [first_mark e, markT, not_mk (c := c) (by cases r <;> simp) (by omega), not_mk (c := c) (by simp) (by omega)]
  rfl
theorem cmt_no {c : UInt8} {r : List UInt8} (hc : c.toNat ≠ 47) : cmt (c :: r) = false := by
  cases e : cmt (c :: r)
  · rfl
  · exact absurd (cmt_head e) hc
theorem prefix_cmt (l : List UInt8) : Lib.hasPrefix l [47, 47] = cmt l := by
  unfold Lib.hasPrefix cmt
  match l with
  | [] => rfl
  | [a] => simp [List.isPrefixOf]
  | a :: b :: r =>
    rw [Bool.eq_iff_iff]
    simp
    constructor <;> rintro ⟨h1, h2⟩ <;> exact ⟨h1.symm, h2.symm⟩
/-! Lists of tokens as cells -/
def tkCells (l : List Tk) : List Value := l.flatMap fun t => [.int .i64 t.kind, .int .i64 t.n, .string (bs t.text), .int .i64 t.line]
theorem tkCells_snoc (l : List Tk) (t : Tk) : tkCells (l ++ [t]) = tkCells l ++ [.int .i64 t.kind, .int .i64 t.n, .string (bs t.text), .int .i64 t.line] := by
  unfold tkCells; rw [List.flatMap_append]; simp
theorem tkCells_len (l : List Tk) : (tkCells l).length = l.length * 4 := by
  induction l with
  | nil => rfl
  | cons t r ih =>
    have : tkCells (t :: r) = [.int .i64 t.kind, .int .i64 t.n, .string (bs t.text), .int .i64 t.line] ++ tkCells r := by unfold tkCells; rw [List.flatMap_cons]
    rw [this, List.length_append, ih, List.length_cons]; simp; omega
theorem ownsRow_later {w w' : World} {B : Nat} {e : TypeId} {size : Nat} {v : Value} {n : Nat} {xs : List Value} (h : w.ownsRow B e size v n xs) (hb : Below w.heap.size w w') : w'.ownsRow B e size v n xs := by
  obtain ⟨hl, h | ⟨g, cap, cur, hv, hB, hg, h1, h2, h3, h4⟩⟩ := h
  · exact ⟨hl, .inl h⟩
  · exact ⟨hl, .inr ⟨g, cap, cur, hv, hB, (hb.block g (Array.getElem?_eq_some_iff.1 hg).1).trans hg, h1, h2, h3, h4⟩⟩
theorem own_iter {w : World} {B : Nat} {e : TypeId} {size : Nat} {v : Value} {n : Nat} {xs : List Value} {k : Nat} {s : ByteArray} {p : Nat} (h : w.ownsRow B e size v n xs) (hk : w.heap[k]? = some (.stringIter s p)) (p' : Nat) : (w.iterAt k s p').ownsRow B e size v n xs := by
  obtain ⟨hl, h | ⟨g, cap, cur, hv, hB, hg, h1, h2, h3, h4⟩⟩ := h
  · exact ⟨hl, .inl h⟩
  · refine ⟨hl, .inr ⟨g, cap, cur, hv, hB, ?_, h1, h2, h3, h4⟩⟩
    rw [Lib.iterAt_other _ _ _ _ _ (by rintro rfl; rw [hk] at hg; cases hg)]
    exact hg
theorem own_far {w : World} {B : Nat} {e : TypeId} {size : Nat} {v : Value} {n : Nat} {xs : List Value} {k : Nat} {s : ByteArray} {p : Nat} (h : w.ownsRow B e size v n xs) (hk : w.heap[k]? = some (.stringIter s p)) : some k ≠ v.ownBlock := by
  obtain ⟨_, ⟨hv, _⟩ | ⟨g, cap, cur, hv, _, hg, _⟩⟩ := h
  · rw [hv]; simp [Value.ownBlock]
  · rw [hv]
    intro e
    cases e
    rw [hk] at hg
    cases hg
theorem own_block {w : World} {B : Nat} {e : TypeId} {size : Nat} {v : Value} {n : Nat} {xs : List Value} (h : w.ownsRow B e size v n xs) : ∀ k, v.ownBlock = some k → B ≤ k := by
  obtain ⟨_, ⟨hv, _⟩ | ⟨g, cap, _, hv, hB, _⟩⟩ := h
  · intro k hk; rw [hv] at hk; cases hk
  · intro k hk; rw [hv] at hk; cases hk; exact hB
theorem own_new {w : World} {B : Nat} {e : TypeId} {size : Nat} {v : Value} {n : Nat} {xs : List Value} (h : w.ownsRow B e size v n xs) : some w.heap.size ≠ v.ownBlock := by
  obtain ⟨_, ⟨hv, _⟩ | ⟨g, cap, cur, hv, _, hg, _⟩⟩ := h
  · rw [hv]; simp [Value.ownBlock]
  · rw [hv]
    intro e
    cases e
    exact absurd (Array.getElem?_eq_some_iff.1 hg).1 (Nat.lt_irrefl _)
theorem infoTok : (Tryz.prog.info? 41).map (fun i => (i.zero, i.size, i.bytes)) = some (some (.agg #[.int .i64 0, .int .i64 0, .string ⟨#[]⟩, .int .i64 0]), 4, 40) := by kernel_rfl
theorem cell_four (w : World) (x0 x1 x2 x3 : Value) (t : TypeId) : ∀ j u, [x0, x1, x2, x3][j]? = some u → (w.alloc (.cells #[x0, x1, x2, x3] t)).cell? ((⟨w.heap.size, 0, none⟩ : Addr).add j) = some u := by
  intro j u hj
  match j, hj with
  | 0, hj => simp at hj; subst hj; simp [Addr.add]
  | 1, hj => simp at hj; subst hj; simp [Addr.add]
  | 2, hj => simp at hj; subst hj; simp [Addr.add]
  | 3, hj => simp at hj; subst hj; simp [Addr.add]
  | (j + 4), hj => simp at hj
theorem cell_four_at {w : World} {g : Nat} (hg : w.heap.size = g) (x0 x1 x2 x3 : Value) (t : TypeId) : ∀ j u, [x0, x1, x2, x3][j]? = some u → (w.alloc (.cells #[x0, x1, x2, x3] t)).cell? ((⟨g, 0, none⟩ : Addr).add j) = some u := by
  subst hg; exact cell_four w x0 x1 x2 x3 t
theorem one_tok (k n : Int) (x : ByteArray) (l : Int) : ∀ u ∈ [Value.int .i64 k, .int .i64 n, .string x, .int .i64 l], u.oneCell' = true := by
  intro u hu
  simp only [List.mem_cons, List.not_mem_nil, or_false] at hu
  rcases hu with rfl | rfl | rfl | rfl <;> rfl
/-- The outcome of a source is returned. -/
def tLex (w : World) (r : List Tk × Int × Int) (e : Ending) (w' : World) : Prop := ∃ v, e = .returned (.tuple #[v, .int .i64 r.2.1, .int .i64 r.2.2]) ∧ w'.ownsRow w.heap.size 41 4 v r.1.length (tkCells r.1) ∧ Below w.heap.size w w'
theorem own_nil (w : World) (B : Nat) : w.ownsRow B 41 4 (.slice none 0 0) 0 (tkCells []) := ⟨rfl, .inl ⟨rfl, rfl⟩⟩
theorem tLex_err {w w' : World} {r : List Tk × Int × Int} {ln er : Int} (h : r = ([], ln, er)) (hb : Below w.heap.size w w') : tLex w r (.returned (.tuple #[.slice none 0 0, .int .i64 ln, .int .i64 er])) w' := by
  subst h; exact ⟨_, rfl, own_nil _ _, hb⟩
theorem tLex_ok {w w' : World} {r : List Tk × Int × Int} {v : Value} {acc : List Tk} (h : r = (acc, 0, 0)) (ho : w'.ownsRow w.heap.size 41 4 v acc.length (tkCells acc)) (hb : Below w.heap.size w w') : tLex w r (.returned (.tuple #[v, .int .i64 0, .int .i64 0])) w' := by
  subst h; exact ⟨_, rfl, ho, hb⟩
/-- The tokens of a source. -/
def tokS (l : List UInt8) : List Tk × Int × Int := if 16384 < l.length then ([], 0, 2) else lex l 1 []
end Go.Proofs.YtlnomiiphlbamaaGreatDoor.LexW
