/-
  Plain: trees of leaves; classes; what the functions of layer 10 return.
-/
import Derived.Test.YtoigjeoncdfdmaaGreatDoorLexBest
namespace Go.Proofs.YtoigjeoncdfdmaaGreatDoor.ClM
open Go Go.Proofs.YtoigjeoncdfdmaaGreatDoor.LexM

/-- What a row is a row of. -/
inductive Kd where
  | exprs | weights | items | strs | fields | blocks | classes
/-- A leaf of a tree: a number, a text, a truth, or a row of elements, each a list of leaves. -/
inductive Lf where
  | n (i : Int)
  | s (t : ByteArray)
  | b (v : Bool)
  | row (k : Kd) (l : List (List Lf))
inductive Sh where
  | n | s | b | r (k : Kd)
/-- The leaves of an element. -/
def shp : Kd → List Sh
  | .exprs => [.n, .n, .s, .r .exprs]
  | .weights => [.n, .n, .n, .b]
  | .items => [.n, .n, .n, .s, .r .exprs, .s, .s, .r .weights, .r .items, .r .items, .r .strs, .r .strs]
  | .strs => [.s]
  | .fields => [.s, .n, .n, .n, .n]
  | .blocks => [.s, .r .items]
  | .classes => [.s, .s, .r .fields, .r .blocks]
/-- The bytes of an element. -/
def byt : Kd → Nat
  | .exprs => 56
  | .weights => 32
  | .items => 216
  | .strs => 16
  | .fields => 48
  | .blocks => 40
  | .classes => 80
/-- A field. -/
structure Fld where
  nm : ByteArray
  wd : Int
  sz : Int
  md : Int
  ini : Int
/-- A block, its constraints as leaves. -/
structure Bk where
  nm : ByteArray
  it : List (List Lf)
/-- A class. -/
structure Cl where
  nm : ByteArray
  par : ByteArray
  fs : List Fld
  bs : List Bk
def Fld.lf (f : Fld) : List Lf := [.s f.nm, .n f.wd, .n f.sz, .n f.md, .n f.ini]
def Bk.lf (b : Bk) : List Lf := [.s b.nm, .row .items b.it]
def Cl.lf (c : Cl) : List Lf := [.s c.nm, .s c.par, .row .fields (c.fs.map Fld.lf), .row .blocks (c.bs.map Bk.lf)]
def emp : ByteArray := ⟨#[]⟩
def zCl : Cl := ⟨emp, emp, [], []⟩
/-- Two names are the same. -/
def same (a b : ByteArray) : Bool := a.data.toList == b.data.toList
theorem same_iff {a b : ByteArray} : same a b = true ↔ a = b := by
  unfold same
  rw [beq_iff_eq]
  constructor
  · intro h
    obtain ⟨⟨x⟩⟩ := a
    obtain ⟨⟨y⟩⟩ := b
    simp at h
    rw [h]
  · rintro rfl; rfl
theorem same_no {a b : ByteArray} : same a b = false ↔ a ≠ b := by
  rw [← Bool.not_eq_true, same_iff]
theorem same_rfl (a : ByteArray) : same a a = true := same_iff.2 rfl
theorem same_comm (a b : ByteArray) : same a b = same b a := by
  rw [Bool.eq_iff_iff, same_iff, same_iff]; exact eq_comm
/-- The name is no name. -/
def bad (a : ByteArray) : Bool := !nmB a.data.toList
def maxI (f : Fld) : Int := if f.md = 0 then 2 ^ f.wd.toNat - 1 else 0
def okF (f : Fld) : Bool := decide (1 ≤ f.wd ∧ f.wd ≤ 8 ∧ 0 ≤ f.sz ∧ f.sz ≤ 8 ∧ 0 ≤ f.md ∧ f.md ≤ 2 ∧ ¬ (0 < f.sz ∧ f.md = 2) ∧ 0 ≤ f.ini ∧ f.ini ≤ maxI f)
/-- ValidField. -/
def fieldE (f : Fld) : Int := if bad f.nm = true then 7 else if okF f = true then 0 else 1
/-- A name stands twice in the list. -/
def dupB : List ByteArray → Bool
  | [] => false
  | a :: r => r.any (same a) || dupB r
theorem any_same {l : List ByteArray} {a : ByteArray} : l.any (same a) = true ↔ a ∈ l := by
  rw [List.any_eq_true]
  constructor
  · rintro ⟨x, hx, h⟩; rw [same_iff.1 h]; exact hx
  · intro h; exact ⟨a, h, same_rfl a⟩
theorem dupB_iff : ∀ {l : List ByteArray}, dupB l = false ↔ l.Nodup
  | [] => by simp [dupB]
  | a :: r => by
    rw [dupB, List.nodup_cons, Bool.or_eq_false_iff, dupB_iff, ← Bool.not_eq_true, any_same]
theorem dupB_yes {l : List ByteArray} {k : Nat} {x : ByteArray} (h : l[k]? = some x) (hx : x ∈ l.take k) : dupB l = true := by
  cases hd : dupB l
  · exfalso
    have hn := dupB_iff.1 hd
    obtain ⟨hk, he⟩ := List.getElem?_eq_some_iff.1 h
    rw [← List.take_append_drop k l] at hn
    have := (List.nodup_append.1 hn).2.2 x hx x (by rw [List.drop_eq_getElem_cons hk, he]; exact List.mem_cons_self ..)
    exact this rfl
  · rfl
theorem dupB_step {l : List ByteArray} {k : Nat} {x : ByteArray} (h : l[k]? = some x) (hd : dupB (l.take k) = false) (hx : x ∉ l.take k) : dupB (l.take (k + 1)) = false := by
  obtain ⟨hk, he⟩ := List.getElem?_eq_some_iff.1 h
  rw [List.take_succ_eq_append_getElem hk, dupB_iff, List.nodup_append]
  refine ⟨dupB_iff.1 hd, by simp, ?_⟩
  intro a ha b hb
  rw [List.mem_singleton] at hb
  rintro rfl
  rw [hb, he] at ha
  exact hx ha
/-- The first error in a list. -/
def firstE (l : List Int) : Int := (l.find? (fun e => e != 0)).getD 0
theorem firstE_zero {l : List Int} : firstE l = 0 ↔ ∀ e ∈ l, e = 0 := by
  unfold firstE
  constructor
  · intro h e he
    cases hf : l.find? (fun e => e != 0) with
    | none => have := List.find?_eq_none.1 hf e he; simpa using this
    | some x =>
      have h1 := List.find?_some hf
      rw [hf] at h
      simp at h h1
      exact absurd h h1
  · intro h
    rw [List.find?_eq_none.2 (fun x hx => by simpa using h x hx)]; rfl
theorem firstE_at {l : List Int} {k : Nat} {e : Int} (h : l[k]? = some e) (he : e ≠ 0) (hz : ∀ x ∈ l.take k, x = 0) : firstE l = e := by
  unfold firstE
  obtain ⟨hk, hx⟩ := List.getElem?_eq_some_iff.1 h
  have : l.find? (fun e => e != 0) = some e := by
    rw [← List.take_append_drop k l, List.find?_append, List.find?_eq_none.2 (fun x hx => by simpa using hz x hx), List.drop_eq_getElem_cons hk, hx]
    simp [he]
  rw [this]; rfl
/-- Too many fields or blocks. -/
def large (c : Cl) : Bool := decide (16 < c.fs.length) || decide (16 < c.bs.length)
/-- Valid. -/
def validE (c : Cl) : Int :=
  if (bad c.nm || (!same c.par emp && bad c.par)) = true then 7
  else if large c = true then 2
  else if firstE (c.fs.map fieldE) ≠ 0 then firstE (c.fs.map fieldE)
  else if c.bs.any (fun b => bad b.nm) = true then 7
  else if (dupB (c.fs.map Fld.nm) || dupB (c.bs.map Bk.nm)) = true then 8
  else 0
/-- The class is valid. -/
structure Val (c : Cl) : Prop where
  nm : bad c.nm = false
  par : c.par = emp ∨ bad c.par = false
  lg : large c = false
  fs : ∀ f ∈ c.fs, fieldE f = 0
  bs : ∀ b ∈ c.bs, bad b.nm = false
  df : (c.fs.map Fld.nm).Nodup
  db : (c.bs.map Bk.nm).Nodup
theorem fieldE_cases (f : Fld) : fieldE f = 0 ∨ fieldE f = 1 ∨ fieldE f = 7 := by
  unfold fieldE
  split
  · exact .inr (.inr rfl)
  · split
    · exact .inl rfl
    · exact .inr (.inl rfl)
theorem validE_zero {c : Cl} : validE c = 0 ↔ Val c := by
  unfold validE
  constructor
  · intro h
    split at h
    · cases h
    · rename_i h1
      split at h
      · cases h
      · rename_i h2
        split at h
        · rename_i h3; exact absurd h h3
        · rename_i h3
          split at h
          · cases h
          · rename_i h4
            split at h
            · cases h
            · rename_i h5
              simp only [Bool.or_eq_true, Bool.and_eq_true, Bool.not_eq_true', not_or, not_and, Bool.not_eq_true] at h1 h5
              refine ⟨h1.1, ?_, by simpa using h2, fun f hf => ?_, fun b hb => ?_, dupB_iff.1 h5.1, dupB_iff.1 h5.2⟩
              · cases hs : same c.par emp
                · exact .inr (h1.2 hs)
                · exact .inl (same_iff.1 hs)
              · exact firstE_zero.1 (Classical.byContradiction h3) _ (List.mem_map_of_mem hf)
              · have := h4
                rw [Bool.not_eq_true, List.any_eq_false] at this
                simpa using this b hb
  · rintro ⟨h1, h2, h3, h4, h5, h6, h7⟩
    rw [if_neg, if_neg, if_neg, if_neg, if_neg]
    · rw [Bool.not_eq_true, Bool.or_eq_false_iff]; exact ⟨dupB_iff.2 h6, dupB_iff.2 h7⟩
    · rw [Bool.not_eq_true, List.any_eq_false]; intro b hb; simp [h5 b hb]
    · rw [Classical.not_not, firstE_zero]
      intro e he
      obtain ⟨f, hf, rfl⟩ := List.mem_map.1 he
      exact h4 f hf
    · rw [h3]; simp
    · rw [Bool.not_eq_true, Bool.or_eq_false_iff]
      refine ⟨h1, ?_⟩
      rcases h2 with h2 | h2
      · rw [h2, same_rfl]; rfl
      · rw [h2]; simp
/-- Find. -/
def fnd (src : List Cl) (x : ByteArray) : Option Cl := src.find? (fun c => same c.nm x)
theorem find_mem {src : List Cl} {x : ByteArray} {c : Cl} (h : fnd src x = some c) : c ∈ src ∧ c.nm = x :=
  ⟨List.mem_of_find?_eq_some h, same_iff.1 (List.find?_some (p := fun c : Cl => same c.nm x) h)⟩
theorem find_none {src : List Cl} {x : ByteArray} : fnd src x = none ↔ ∀ c ∈ src, c.nm ≠ x := by
  unfold fnd
  rw [List.find?_eq_none]
  constructor
  · intro h c hc e; exact h c hc (same_iff.2 e)
  · intro h c hc e; exact h c hc (same_iff.1 e)
theorem find_of {src : List Cl} (hn : (src.map Cl.nm).Nodup) {c : Cl} (hc : c ∈ src) : fnd src c.nm = some c := by
  induction src with
  | nil => cases hc
  | cons a r ih =>
    rw [List.map_cons, List.nodup_cons] at hn
    unfold fnd
    rw [List.find?_cons]
    rcases List.mem_cons.1 hc with rfl | hc
    · rw [same_rfl]
    · have : same a.nm c.nm = false := same_no.2 (fun e => hn.1 (by rw [e]; exact List.mem_map_of_mem hc))
      rw [this]
      exact ih hn.2 hc
/-- The class and its ancestors, at most so many. -/
def chain (src : List Cl) : Nat → Cl → List Cl
  | 0, c => [c]
  | k + 1, c => if same c.par emp = true then [c] else match fnd src c.par with
    | some d => c :: chain src k d
    | none => [c]
theorem chain_len (src : List Cl) : ∀ (k : Nat) (c : Cl), (chain src k c).length ≤ k + 1 ∧ 0 < (chain src k c).length
  | 0, c => by simp [chain]
  | k + 1, c => by
    rw [chain]
    split
    · simp
    · split
      · rename_i d _
        have := chain_len src k d
        simp; omega
      · simp
theorem chain_head (src : List Cl) (k : Nat) (c : Cl) : ∃ r, chain src k c = c :: r := by
  cases k with
  | zero => exact ⟨[], rfl⟩
  | succ k =>
    rw [chain]
    split
    · exact ⟨[], rfl⟩
    · split
      · exact ⟨_, rfl⟩
      · exact ⟨[], rfl⟩
/-- A line that has not used up what it may is whole. -/
theorem chain_more (src : List Cl) : ∀ (k : Nat) (c : Cl) (j : Nat), (chain src k c).length ≤ k → k ≤ j → chain src j c = chain src k c
  | 0, c, j, h, _ => by simp [chain] at h
  | k + 1, c, 0, _, hj => by omega
  | k + 1, c, j + 1, h, hj => by
    rw [chain] at h ⊢
    rw [chain]
    split
    · rfl
    · rename_i hp
      rw [if_neg hp] at h
      cases hf : fnd src c.par with
      | none => rfl
      | some d =>
        rw [hf] at h
        simp only [List.length_cons] at h
        simp only
        rw [chain_more src k d j (by omega) (by omega)]
theorem chain_lt (src : List Cl) : ∀ (k : Nat) (c : Cl) (j : Nat), k < (chain src k c).length → k ≤ j → k < (chain src j c).length
  | 0, c, j, _, _ => (chain_len src j c).2
  | k + 1, c, 0, _, hj => by omega
  | k + 1, c, j + 1, h, hj => by
    rw [chain] at h ⊢
    split
    · rename_i hp; rw [if_pos hp] at h; simp at h
    · rename_i hp
      rw [if_neg hp] at h
      cases hf : fnd src c.par with
      | none => rw [hf] at h; simp at h
      | some d =>
        rw [hf] at h
        simp only [List.length_cons] at h ⊢
        have := chain_lt src k d j (by omega) (by omega)
        omega
theorem chain_mem {src : List Cl} : ∀ {k : Nat} {c : Cl}, c ∈ src → ∀ d ∈ chain src k c, d ∈ src
  | 0, c, hc, d, hd => by simp [chain] at hd; rw [hd]; exact hc
  | k + 1, c, hc, d, hd => by
    rw [chain] at hd
    split at hd
    · rw [List.mem_singleton] at hd; rw [hd]; exact hc
    · split at hd
      · rename_i e he
        rcases List.mem_cons.1 hd with rfl | hd
        · exact hc
        · exact chain_mem (find_mem he).1 d hd
      · rw [List.mem_singleton] at hd; rw [hd]; exact hc
/-- The place of the block with a name. -/
def plc (bs : List Bk) (x : ByteArray) : Option Nat := bs.findIdx? (fun a => same a.nm x)
/-- A block takes the place of the one with its name, or the last place. -/
def addB (bs : List Bk) (b : Bk) : List Bk := match plc bs b.nm with
  | some i => bs.set i b
  | none => bs ++ [b]
theorem addB_nil (b : Bk) : addB [] b = [b] := rfl
theorem addB_cons (a : Bk) (r : List Bk) (b : Bk) : addB (a :: r) b = if same a.nm b.nm = true then b :: r else a :: addB r b := by
  unfold addB plc
  rw [List.findIdx?_cons]
  cases hs : same a.nm b.nm
  · cases h : List.findIdx? (fun a => same a.nm b.nm) r with
    | none => simp
    | some i => simp
  · simp
theorem addB_names {b : Bk} {x : ByteArray} : ∀ {bs : List Bk}, x ∈ (addB bs b).map Bk.nm ↔ x ∈ bs.map Bk.nm ∨ x = b.nm
  | [] => by simp [addB_nil]
  | a :: r => by
    rw [addB_cons]
    split
    · rename_i h
      have := same_iff.1 h
      simp only [List.map_cons, List.mem_cons]
      rw [this]
      constructor
      · rintro (h | h)
        · exact .inr h
        · exact .inl (.inr h)
      · rintro ((h | h) | h)
        · exact .inl h
        · exact .inr h
        · exact .inl h
    · simp only [List.map_cons, List.mem_cons, addB_names (bs := r)]
      constructor
      · rintro (h | h | h)
        · exact .inl (.inl h)
        · exact .inl (.inr h)
        · exact .inr h
      · rintro ((h | h) | h)
        · exact .inl h
        · exact .inr (.inl h)
        · exact .inr (.inr h)
theorem addB_nodup {b : Bk} : ∀ {bs : List Bk}, (bs.map Bk.nm).Nodup → ((addB bs b).map Bk.nm).Nodup
  | [], _ => by simp [addB_nil]
  | a :: r, h => by
    rw [List.map_cons, List.nodup_cons] at h
    rw [addB_cons]
    split
    · rename_i e
      rw [List.map_cons, List.nodup_cons, ← same_iff.1 e]
      exact h
    · rename_i e
      rw [List.map_cons, List.nodup_cons]
      refine ⟨fun hm => ?_, addB_nodup h.2⟩
      rcases addB_names.1 hm with hm | hm
      · exact h.1 hm
      · exact e (same_iff.2 hm)
theorem addB_self {b : Bk} : ∀ {bs : List Bk}, b ∈ addB bs b
  | [] => by simp [addB_nil]
  | a :: r => by
    rw [addB_cons]
    split
    · exact List.mem_cons_self ..
    · exact List.mem_cons_of_mem _ addB_self
theorem addB_keep {b y : Bk} : ∀ {bs : List Bk}, y ∈ bs → y.nm ≠ b.nm → y ∈ addB bs b
  | a :: r, hy, hn => by
    rw [addB_cons]
    rcases List.mem_cons.1 hy with rfl | hy
    · rw [if_neg (fun e => hn (same_iff.1 e))]; exact List.mem_cons_self ..
    · split
      · exact List.mem_cons_of_mem _ hy
      · exact List.mem_cons_of_mem _ (addB_keep hy hn)
theorem addB_mem {b y : Bk} : ∀ {bs : List Bk}, y ∈ addB bs b → y = b ∨ y ∈ bs
  | [], h => by simp [addB_nil] at h; exact .inl h
  | a :: r, h => by
    rw [addB_cons] at h
    split at h
    · rcases List.mem_cons.1 h with h | h
      · exact .inl h
      · exact .inr (List.mem_cons_of_mem _ h)
    · rcases List.mem_cons.1 h with h | h
      · exact .inr (by rw [h]; exact List.mem_cons_self ..)
      · exact (addB_mem h).imp id (List.mem_cons_of_mem _)
theorem addB_len {b : Bk} {bs : List Bk} : (addB bs b).length ≤ bs.length + 1 := by
  unfold addB
  split <;> simp
theorem addB_new {b : Bk} {bs : List Bk} (h : b.nm ∉ bs.map Bk.nm) : addB bs b = bs ++ [b] := by
  unfold addB plc
  rw [List.findIdx?_eq_none_iff.2 (fun x hx => same_no.2 (fun e => h (by rw [← e]; exact List.mem_map_of_mem hx)))]
def addAll (bs ns : List Bk) : List Bk := ns.foldl addB bs
theorem addAll_names {x : ByteArray} : ∀ {ns bs : List Bk}, x ∈ (addAll bs ns).map Bk.nm ↔ x ∈ bs.map Bk.nm ∨ x ∈ ns.map Bk.nm
  | [], bs => by simp [addAll]
  | a :: r, bs => by
    have := addAll_names (x := x) (ns := r) (bs := addB bs a)
    rw [addB_names] at this
    simp only [addAll, List.foldl_cons] at this ⊢
    rw [this, List.map_cons, List.mem_cons, or_assoc]
theorem addAll_nodup : ∀ {ns bs : List Bk}, (bs.map Bk.nm).Nodup → ((addAll bs ns).map Bk.nm).Nodup
  | [], _, h => h
  | a :: r, bs, h => addAll_nodup (ns := r) (bs := addB bs a) (addB_nodup h)
theorem addAll_len : ∀ {ns bs : List Bk}, (addAll bs ns).length ≤ bs.length + ns.length
  | [], _ => by simp [addAll]
  | a :: r, bs => by
    have := addAll_len (ns := r) (bs := addB bs a)
    have h2 := addB_len (b := a) (bs := bs)
    simp only [addAll, List.foldl_cons, List.length_cons] at this ⊢
    omega
theorem addAll_mem {y : Bk} : ∀ {ns bs : List Bk}, y ∈ addAll bs ns → y ∈ ns ∨ y ∈ bs
  | [], _, h => .inr h
  | a :: r, bs, h => by
    rcases addAll_mem (ns := r) (bs := addB bs a) h with h | h
    · exact .inl (List.mem_cons_of_mem _ h)
    · rcases addB_mem h with h | h
      · exact .inl (by rw [h]; exact List.mem_cons_self ..)
      · exact .inr h
theorem addAll_keep {y : Bk} : ∀ {ns bs : List Bk}, y ∈ bs → y.nm ∉ ns.map Bk.nm → y ∈ addAll bs ns
  | [], _, h, _ => h
  | a :: r, bs, h, hn => by
    rw [List.map_cons, List.mem_cons, not_or] at hn
    exact addAll_keep (ns := r) (addB_keep h hn.1) hn.2
theorem addAll_new {y : Bk} : ∀ {ns bs : List Bk}, (ns.map Bk.nm).Nodup → y ∈ ns → y ∈ addAll bs ns
  | a :: r, bs, hn, hy => by
    rw [List.map_cons, List.nodup_cons] at hn
    rcases List.mem_cons.1 hy with rfl | hy
    · exact addAll_keep (ns := r) addB_self hn.1
    · exact addAll_new (ns := r) hn.2 hy
theorem addAll_id : ∀ {ns bs : List Bk}, ((bs ++ ns).map Bk.nm).Nodup → addAll bs ns = bs ++ ns
  | [], bs, _ => by simp [addAll]
  | a :: r, bs, h => by
    have h1 : a.nm ∉ bs.map Bk.nm := fun hm => by
      rw [List.map_append, List.nodup_append] at h
      exact h.2.2 _ hm _ (by simp) rfl
    show addAll (addB bs a) r = _
    rw [addB_new h1, addAll_id (by rw [List.append_assoc]; exact h), List.append_assoc]; rfl
/-- A class behind its flat parent. -/
def stepC (c x : Cl) : Cl := ⟨x.nm, emp, c.fs ++ x.fs, addAll c.bs x.bs⟩
/-- The flat class of a line. -/
def flatL (l : List Cl) : Cl := l.foldr (fun x c => stepC c x) zCl
theorem flatL_cons (x : Cl) (r : List Cl) : flatL (x :: r) = stepC (flatL r) x := rfl
/-- Check, for the classes that are valid, each for itself. -/
def lineOf (src : List Cl) (c : Cl) : List Cl := chain src src.length c
def flatOf (src : List Cl) (c : Cl) : Cl := flatL (lineOf src c)
def orphan (src : List Cl) (c : Cl) : Bool := !same c.par emp && (fnd src c.par).isNone
def famE (src : List Cl) : Int :=
  if dupB (src.map Cl.nm) = true then 8
  else if src.any (orphan src) = true then 7
  else if src.any (fun c => decide (src.length < (lineOf src c).length)) = true then 10
  else if src.any (fun c => dupB ((flatOf src c).fs.map Fld.nm)) = true then 8
  else if src.any (fun c => large (flatOf src c)) = true then 2
  else 0
/-- Check. -/
def checkE (src : List Cl) : Int :=
  if 32 < src.length then 2
  else if firstE (src.map validE) ≠ 0 then firstE (src.map validE)
  else famE src
/-- Line and Flatten. -/
def lineE (src : List Cl) (x : ByteArray) : List Cl × Int :=
  if checkE src ≠ 0 then ([], checkE src) else match fnd src x with
    | some c => (lineOf src c, 0)
    | none => ([], 12)
def flatE (src : List Cl) (x : ByteArray) : Cl × Int := (flatL (lineE src x).1, (lineE src x).2)
/-- The source is accepted. -/
structure Good (src : List Cl) : Prop where
  len : src.length ≤ 32
  val : ∀ c ∈ src, Val c
  nd : (src.map Cl.nm).Nodup
  par : ∀ c ∈ src, orphan src c = false
  ends : ∀ c ∈ src, (lineOf src c).length ≤ src.length
  df : ∀ c ∈ src, ((flatOf src c).fs.map Fld.nm).Nodup
  lg : ∀ c ∈ src, large (flatOf src c) = false
theorem validE_any {src : List Cl} : firstE (src.map validE) = 0 ↔ ∀ c ∈ src, Val c := by
  rw [firstE_zero]
  constructor
  · intro h c hc; exact validE_zero.1 (h _ (List.mem_map_of_mem hc))
  · intro h e he
    obtain ⟨c, hc, rfl⟩ := List.mem_map.1 he
    exact validE_zero.2 (h c hc)
theorem checkE_zero {src : List Cl} : checkE src = 0 ↔ Good src := by
  unfold checkE famE
  constructor
  · intro h
    split at h
    · cases h
    · rename_i h1
      split at h
      · rename_i h2; exact absurd h h2
      · rename_i h2
        split at h
        · cases h
        · rename_i h3
          split at h
          · cases h
          · rename_i h4
            split at h
            · cases h
            · rename_i h5
              split at h
              · cases h
              · rename_i h6
                split at h
                · cases h
                · rename_i h7
                  rw [Bool.not_eq_true, List.any_eq_false] at h4 h5 h6 h7
                  refine ⟨by omega, validE_any.1 (Classical.byContradiction h2), dupB_iff.1 (by simpa using h3), fun c hc => by simpa using h4 c hc, fun c hc => by have := h5 c hc; simp at this; omega, fun c hc => dupB_iff.1 (by simpa using h6 c hc), fun c hc => by simpa using h7 c hc⟩
  · rintro ⟨h1, h2, h3, h4, h5, h6, h7⟩
    rw [if_neg (by omega), if_neg (by rw [Classical.not_not]; exact validE_any.2 h2), if_neg (by rw [dupB_iff.2 h3]; simp), if_neg, if_neg, if_neg, if_neg]
    · rw [Bool.not_eq_true, List.any_eq_false]; intro c hc; rw [h7 c hc]; simp
    · rw [Bool.not_eq_true, List.any_eq_false]; intro c hc; rw [dupB_iff.2 (h6 c hc)]; simp
    · rw [Bool.not_eq_true, List.any_eq_false]; intro c hc; have := h5 c hc; simp; omega
    · rw [Bool.not_eq_true, List.any_eq_false]; intro c hc; rw [h4 c hc]; simp
/-- A variable. -/
structure Vr where
  nm : ByteArray
  wd : Int
  md : Int
  val : Int
def elm (f : Fld) (i : Nat) : ByteArray := ⟨(f.nm.data.toList ++ 91 :: UInt8.ofNat (48 + i) :: [93]).toArray⟩
def fvars (f : Fld) : List Vr := if f.sz = 0 then [⟨f.nm, f.wd, f.md, f.ini⟩] else (List.range f.sz.toNat).map (fun i => ⟨elm f i, f.wd, f.md, f.ini⟩)
/-- Vars. -/
def varsL (c : Cl) : List Vr := if validE c ≠ 0 then [] else c.fs.flatMap fvars
end Go.Proofs.YtoigjeoncdfdmaaGreatDoor.ClM
