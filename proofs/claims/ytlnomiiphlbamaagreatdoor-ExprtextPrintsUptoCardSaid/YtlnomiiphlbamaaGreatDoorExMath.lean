/-
  Expressions with no Go in sight: their nodes in order, faults, names, values, folding, replacing.
-/
import Derived.Test.YtlnomiiphlbamaaGreatDoorWordMath
import Derived.Test.YtlnomiiphlbamaaGreatDoorLexBest
namespace Go.Proofs.YtlnomiiphlbamaaGreatDoor.ExM
open Go Go.Proofs.YtlnomiiphlbamaaGreatDoor.WordM Go.Proofs.YtlnomiiphlbamaaGreatDoor.LexM

inductive Ex where
  | mk (op n : Int) (nm : ByteArray) (args : List Ex)
def Ex.op : Ex → Int | .mk o _ _ _ => o
def Ex.n : Ex → Int | .mk _ n _ _ => n
def Ex.nm : Ex → ByteArray | .mk _ _ s _ => s
def Ex.args : Ex → List Ex | .mk _ _ _ l => l
theorem Ex.eta : ∀ e : Ex, e = .mk e.op e.n e.nm e.args | .mk _ _ _ _ => rfl
theorem Ex.ind {P : Ex → Prop} (h : ∀ o n s l, (∀ a ∈ l, P a) → P (.mk o n s l)) (e : Ex) : P e :=
  Ex.rec (motive_1 := P) (motive_2 := fun l => ∀ a ∈ l, P a) (fun o n s l ih => h o n s l ih) (fun _ ha => nomatch ha)
    (fun _ _ hb hr a ha => (List.mem_cons.1 ha).elim (fun e => e ▸ hb) (fun g => hr a g)) e
/-- What a node shows: its level, its operator, its number, its name, how many operands it has. -/
structure In where
  lv : Nat
  op : Int
  n : Int
  nm : ByteArray
  k : Nat
mutual
def pre (l : Nat) : Ex → List In
  | .mk o n s ks => ⟨l, o, n, s, ks.length⟩ :: pres (l + 1) ks
def pres (l : Nat) : List Ex → List In
  | [] => []
  | a :: r => pre l a ++ pres l r
end
theorem pre_mk (l : Nat) (o n : Int) (s : ByteArray) (ks : List Ex) : pre l (.mk o n s ks) = ⟨l, o, n, s, ks.length⟩ :: pres (l + 1) ks := by rw [pre]
theorem pres_nil (l : Nat) : pres l [] = [] := by rw [pres]
theorem pres_cons (l : Nat) (a : Ex) (r : List Ex) : pres l (a :: r) = pre l a ++ pres l r := by rw [pres]
theorem pres_append (l : Nat) (a b : List Ex) : pres l (a ++ b) = pres l a ++ pres l b := by
  induction a with
  | nil => simp [pres_nil]
  | cons x r ih => rw [List.cons_append, pres_cons, pres_cons, ih, List.append_assoc]
theorem pres_take {l k : Nat} {ks : List Ex} {a : Ex} (h : ks[k]? = some a) : pres l (ks.take (k + 1)) = pres l (ks.take k) ++ pre l a := by
  obtain ⟨hk, he⟩ := List.getElem?_eq_some_iff.1 h
  rw [List.take_succ_eq_append_getElem hk, pres_append, he, pres_cons, pres_nil, List.append_nil]
theorem mem_pres {l : Nat} {ks : List Ex} {x : In} : x ∈ pres l ks ↔ ∃ a ∈ ks, x ∈ pre l a := by
  induction ks with
  | nil => simp [pres_nil]
  | cons b r ih => rw [pres_cons, List.mem_append, ih]; simp
mutual
def sz : Ex → Nat
  | .mk _ _ _ ks => szs ks + 1
def szs : List Ex → Nat
  | [] => 0
  | a :: r => sz a + szs r
def dep : Ex → Nat
  | .mk _ _ _ ks => deps ks + 1
def deps : List Ex → Nat
  | [] => 0
  | a :: r => max (dep a) (deps r)
end
theorem sz_mk (o n : Int) (s : ByteArray) (ks : List Ex) : sz (.mk o n s ks) = szs ks + 1 := by rw [sz]
theorem szs_nil : szs [] = 0 := by rw [szs]
theorem szs_cons (a : Ex) (r : List Ex) : szs (a :: r) = sz a + szs r := by rw [szs]
theorem dep_mk (o n : Int) (s : ByteArray) (ks : List Ex) : dep (.mk o n s ks) = deps ks + 1 := by rw [dep]
theorem deps_nil : deps [] = 0 := by rw [deps]
theorem deps_cons (a : Ex) (r : List Ex) : deps (a :: r) = max (dep a) (deps r) := by rw [deps]
theorem sz_pos (e : Ex) : 0 < sz e := by cases e; rw [sz_mk]; omega
theorem szs_append (a b : List Ex) : szs (a ++ b) = szs a + szs b := by
  induction a with
  | nil => simp [szs_nil]
  | cons x r ih => rw [List.cons_append, szs_cons, szs_cons, ih]; omega
theorem szs_take {k : Nat} {ks : List Ex} {a : Ex} (h : ks[k]? = some a) : szs (ks.take (k + 1)) = szs (ks.take k) + sz a := by
  obtain ⟨hk, he⟩ := List.getElem?_eq_some_iff.1 h
  rw [List.take_succ_eq_append_getElem hk, szs_append, he, szs_cons, szs_nil]; omega
theorem szs_take_le (k : Nat) (ks : List Ex) : szs (ks.take k) ≤ szs ks := by
  have := szs_append (ks.take k) (ks.drop k)
  rw [List.take_append_drop] at this; omega
theorem len_szs (ks : List Ex) : ks.length ≤ szs ks := by
  induction ks with
  | nil => simp
  | cons a r ih => rw [szs_cons]; have := sz_pos a; simp; omega
theorem sz_mem {ks : List Ex} {a : Ex} (h : a ∈ ks) : sz a ≤ szs ks := by
  induction ks with
  | nil => cases h
  | cons b r ih =>
    rw [szs_cons]
    rcases List.mem_cons.1 h with rfl | h
    · omega
    · have := ih h; omega
theorem dep_mem {ks : List Ex} {a : Ex} (h : a ∈ ks) : dep a ≤ deps ks := by
  induction ks with
  | nil => cases h
  | cons b r ih =>
    rw [deps_cons]
    rcases List.mem_cons.1 h with rfl | h
    · omega
    · have := ih h; omega
theorem pres_len {l : Nat} {ks : List Ex} (h : ∀ a ∈ ks, (pre l a).length = sz a) : (pres l ks).length = szs ks := by
  induction ks with
  | nil => rw [pres_nil, szs_nil]; rfl
  | cons b r ih => rw [pres_cons, szs_cons, List.length_append, h b (by simp), ih (fun a ha => h a (by simp [ha]))]
theorem pre_len (e : Ex) : ∀ l, (pre l e).length = sz e := by
  induction e using Ex.ind with
  | h o n s ks ih => intro l; rw [pre_mk, sz_mk, List.length_cons, pres_len (fun a ha => ih a ha _)]
/-- The deepest level. -/
def mxL (L : List In) : Nat := L.foldl (fun d x => max d x.lv) 0
theorem mx_fold (L : List In) : ∀ d, L.foldl (fun d x => max d x.lv) d = max d (mxL L) := by
  unfold mxL
  induction L with
  | nil => intro d; simp
  | cons x r ih => intro d; rw [List.foldl_cons, List.foldl_cons, ih, ih (max 0 x.lv)]; omega
theorem mx_append (A B : List In) : mxL (A ++ B) = max (mxL A) (mxL B) := by
  unfold mxL; rw [List.foldl_append, mx_fold B]; rfl
theorem mx_one (x : In) : mxL [x] = x.lv := by simp [mxL]
theorem mx_cons (x : In) (A : List In) : mxL (x :: A) = max x.lv (mxL A) := by
  rw [show x :: A = [x] ++ A from rfl, mx_append, mx_one]
theorem mx_nil : mxL [] = 0 := rfl
theorem pres_mx {l : Nat} {ks : List Ex} (hl : 0 < ks.length) (h : ∀ a ∈ ks, mxL (pre l a) + 1 = l + dep a) : mxL (pres l ks) + 1 = l + deps ks := by
  induction ks with
  | nil => simp at hl
  | cons b r ih =>
    rw [pres_cons, deps_cons, mx_append]
    have hb := h b (by simp)
    cases r with
    | nil => rw [pres_nil, deps_nil, mx_nil]; omega
    | cons c r => have := ih (by simp) (fun a ha => h a (by simp [ha])); omega
theorem pre_mx (e : Ex) : ∀ l, mxL (pre l e) + 1 = l + dep e := by
  induction e using Ex.ind with
  | h o n s ks ih =>
    intro l
    rw [pre_mk, dep_mk, mx_cons]
    cases ks with
    | nil => rw [pres_nil, deps_nil, mx_nil]; simp
    | cons b r => have := pres_mx (l := l + 1) (ks := b :: r) (by simp) (fun a ha => ih a ha _); simp only; omega

open Classical in
noncomputable def addN (l : List ByteArray) (s : ByteArray) : List ByteArray := if s ∈ l then l else l ++ [s]
noncomputable def stepN (p : Int → Bool) (l : List ByteArray) (x : In) : List ByteArray := if p x.op then addN l x.nm else l
noncomputable def namesL (p : Int → Bool) (L : List In) : List ByteArray := L.foldl (stepN p) []
theorem names_snoc (p : Int → Bool) (L : List In) (x : In) : namesL p (L ++ [x]) = stepN p (namesL p L) x := by
  unfold namesL; rw [List.foldl_append]; rfl
theorem names_mem_fold (p : Int → Bool) (s : ByteArray) (L : List In) : ∀ l, s ∈ L.foldl (stepN p) l ↔ s ∈ l ∨ ∃ x ∈ L, p x.op = true ∧ x.nm = s := by
  induction L with
  | nil => intro l; simp
  | cons y r ih =>
    intro l
    rw [List.foldl_cons, ih]
    have : s ∈ stepN p l y ↔ s ∈ l ∨ (p y.op = true ∧ y.nm = s) := by
      unfold stepN addN
      by_cases h : p y.op = true
      · rw [if_pos h]
        by_cases g : y.nm ∈ l
        · rw [if_pos g]; constructor
          · exact .inl
          · rintro (a | ⟨_, rfl⟩)
            · exact a
            · exact g
        · rw [if_neg g, List.mem_append, List.mem_singleton]
          constructor
          · rintro (a | rfl)
            · exact .inl a
            · exact .inr ⟨h, rfl⟩
          · rintro (a | ⟨_, rfl⟩)
            · exact .inl a
            · exact .inr rfl
      · rw [if_neg h]; constructor
        · exact .inl
        · rintro (a | ⟨b, _⟩)
          · exact a
          · exact absurd b h
    rw [this]
    constructor
    · rintro ((a | b) | ⟨x, hx, c⟩)
      · exact .inl a
      · exact .inr ⟨y, by simp, b⟩
      · exact .inr ⟨x, by simp [hx], c⟩
    · rintro (a | ⟨x, hx, c⟩)
      · exact .inl (.inl a)
      · rcases List.mem_cons.1 hx with rfl | hx
        · exact .inl (.inr c)
        · exact .inr ⟨x, hx, c⟩
theorem names_mem (p : Int → Bool) (s : ByteArray) (L : List In) : s ∈ namesL p L ↔ ∃ x ∈ L, p x.op = true ∧ x.nm = s := by
  unfold namesL; rw [names_mem_fold]; simp
theorem names_len (p : Int → Bool) (L : List In) : (namesL p L).length ≤ L.length := by
  have : ∀ l, (L.foldl (stepN p) l).length ≤ l.length + L.length := by
    induction L with
    | nil => simp
    | cons y r ih =>
      intro l
      rw [List.foldl_cons]
      have h1 := ih (stepN p l y)
      have h2 : (stepN p l y).length ≤ l.length + 1 := by
        unfold stepN addN; split
        · split <;> simp
        · omega
      simp only [List.length_cons]; omega
  have := this []; unfold namesL; simpa using this
def isVr (o : Int) : Bool := decide (o = 2)
def isAr (o : Int) : Bool := decide (o = 3) || decide (o = 24)
/-- How many operands. -/
def arS (o : Int) : Int :=
  if o = 1 ∨ o = 2 ∨ o = 24 then 0 else if o = 3 ∨ o = 4 ∨ o = 5 ∨ o = 6 ∨ o = 25 then 1 else if o = 22 then 3 else if o = 23 then -1 else if 1 ≤ o ∧ o ≤ 25 then 2 else -1
def takesS (o : Int) (k : Nat) : Bool := if o = 23 then decide (3 ≤ k ∧ k ≤ 33 ∧ k % 2 = 1) else decide ((k : Int) = arS o)
def greatS (o : Int) : Int := if o = 1 then 65535 else 0
/-- An element name. -/
def elmB (l : List UInt8) : Bool :=
  match l.reverse with
  | c :: d :: b :: r => decide (c = 93) && (decide (b = 91) && (decide (48 ≤ d.toNat ∧ d.toNat ≤ 55) && nmB r.reverse))
  | _ => false
def varB (l : List UInt8) : Bool := elmB l || nmB l
def badA (x : In) : Bool := !takesS x.op x.k || (decide (x.n < 0) || (decide (greatS x.op < x.n) || (!decide (x.nm.size = 0) && (!isVr x.op && !isAr x.op))))
def badN (x : In) : Bool := (isVr x.op && !varB x.nm.data.toList) || (isAr x.op && !nmB x.nm.data.toList)
def fltS (x : In) : Int := if badA x = true then 1 else if badN x = true then 7 else 0
def fstE (L : List In) : Int := L.foldl (fun f x => if f = 0 then fltS x else f) 0
theorem fst_snoc (L : List In) (x : In) : fstE (L ++ [x]) = if fstE L = 0 then fltS x else fstE L := by
  unfold fstE; rw [List.foldl_append]; rfl
theorem fst_append (A B : List In) : fstE (A ++ B) = if fstE A = 0 then fstE B else fstE A := by
  have : ∀ (B : List In) (f : Int), B.foldl (fun f x => if f = 0 then fltS x else f) f = if f = 0 then fstE B else f := by
    intro B
    unfold fstE
    induction B with
    | nil => intro f; simp
    | cons y r ih =>
      intro f
      rw [List.foldl_cons, List.foldl_cons, ih]
      by_cases h : f = 0
      · subst h
        simp only [if_true]
        rw [ih (fltS y)]
      · simp only [if_neg h]
  unfold fstE at *; rw [List.foldl_append, this]
theorem fst_zero (L : List In) : fstE L = 0 ↔ ∀ x ∈ L, fltS x = 0 := by
  induction L with
  | nil => simp [fstE]
  | cons y r ih =>
    rw [show y :: r = [y] ++ r from rfl, fst_append]
    have h1 : fstE [y] = fltS y := by simp [fstE]
    rw [h1]
    by_cases h : fltS y = 0
    · rw [if_pos h, ih]; simp [h]
    · rw [if_neg h]; simp [h]
def vldL (L : List In) : Int := if fstE L = 0 then (if 24 < mxL L ∨ 400 < L.length then 2 else 0) else fstE L
theorem flt_lv (l m : Nat) (o n : Int) (s : ByteArray) (k : Nat) : fltS ⟨l, o, n, s, k⟩ = fltS ⟨m, o, n, s, k⟩ := rfl
theorem flt_range (x : In) : fltS x = 0 ∨ fltS x = 1 ∨ fltS x = 7 := by
  unfold fltS; split
  · simp
  · split <;> simp
/-- No node has an error. -/
def Ok (e : Ex) : Prop := ∀ x ∈ pre 0 e, fltS x = 0
theorem pres_lv {l : Nat} {ks : List Ex} (m : Nat) (h : ∀ a ∈ ks, (∀ x ∈ pre l a, fltS x = 0) → ∀ x ∈ pre m a, fltS x = 0) (g : ∀ x ∈ pres l ks, fltS x = 0) : ∀ x ∈ pres m ks, fltS x = 0 := by
  intro x hx
  obtain ⟨a, ha, hxa⟩ := mem_pres.1 hx
  exact h a ha (fun y hy => g y (mem_pres.2 ⟨a, ha, hy⟩)) x hxa
theorem pre_lv (e : Ex) : ∀ l m, (∀ x ∈ pre l e, fltS x = 0) → ∀ x ∈ pre m e, fltS x = 0 := by
  induction e using Ex.ind with
  | h o n s ks ih =>
    intro l m h x hx
    rw [pre_mk] at hx
    rcases List.mem_cons.1 hx with rfl | hx
    · have := h ⟨l, o, n, s, ks.length⟩ (by rw [pre_mk]; simp)
      rw [flt_lv m l]; exact this
    · exact pres_lv (l := l + 1) (m + 1) (fun a ha => ih a ha _ _) (fun y hy => h y (by rw [pre_mk]; simp [hy])) x hx
theorem ok_at (e : Ex) (l : Nat) : Ok e ↔ ∀ x ∈ pre l e, fltS x = 0 := ⟨pre_lv e 0 l, pre_lv e l 0⟩
theorem ok_mk (o n : Int) (s : ByteArray) (ks : List Ex) : Ok (.mk o n s ks) ↔ fltS ⟨0, o, n, s, ks.length⟩ = 0 ∧ ∀ a ∈ ks, Ok a := by
  constructor
  · intro h
    refine ⟨h _ (by rw [pre_mk]; simp), fun a ha => (ok_at a 1).2 fun x hx => h x (by rw [pre_mk]; exact List.mem_cons_of_mem _ (mem_pres.2 ⟨a, ha, hx⟩))⟩
  · rintro ⟨h1, h2⟩ x hx
    rw [pre_mk] at hx
    rcases List.mem_cons.1 hx with rfl | hx
    · exact h1
    · obtain ⟨a, ha, hxa⟩ := mem_pres.1 hx
      exact (ok_at a _).1 (h2 a ha) x hxa
def vld (e : Ex) : Int := vldL (pre 1 e)
theorem vld_zero (e : Ex) : vld e = 0 ↔ Ok e ∧ dep e ≤ 24 ∧ sz e ≤ 400 := by
  have h1 := pre_mx e 1
  have h2 := pre_len e 1
  unfold vld vldL
  by_cases h : fstE (pre 1 e) = 0
  · rw [if_pos h, ok_at e 1, ← fst_zero]
    by_cases g : 24 < mxL (pre 1 e) ∨ 400 < (pre 1 e).length
    · rw [if_pos g]; constructor
      · intro x; omega
      · rintro ⟨_, b, c⟩; omega
    · rw [if_neg g]; simp only [h, true_and]; constructor
      · intro _; omega
      · intro _; trivial
  · rw [if_neg h, ok_at e 1, ← fst_zero]; simp [h]
theorem vld_range (e : Ex) : 0 ≤ vld e ∧ vld e ≤ 7 := by
  unfold vld vldL
  have : ∀ L, 0 ≤ fstE L ∧ fstE L ≤ 7 := by
    intro L
    unfold fstE
    have : ∀ (L : List In) f, (0 ≤ f ∧ f ≤ 7) → 0 ≤ L.foldl (fun f x => if f = 0 then fltS x else f) f ∧ L.foldl (fun f x => if f = 0 then fltS x else f) f ≤ 7 := by
      intro L
      induction L with
      | nil => intro f h; exact h
      | cons y r ih =>
        intro f h
        rw [List.foldl_cons]
        apply ih
        have := flt_range y
        split <;> omega
    exact this L 0 (by omega)
  have := this (pre 1 e)
  split
  · split <;> omega
  · exact this
end Go.Proofs.YtlnomiiphlbamaaGreatDoor.ExM
