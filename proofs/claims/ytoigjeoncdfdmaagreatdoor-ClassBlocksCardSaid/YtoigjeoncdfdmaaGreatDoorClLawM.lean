/-
  Plain: the order of the classes does not matter; the blocks of a flat class, counted.
-/
import Derived.Test.YtoigjeoncdfdmaaGreatDoorClRefM
namespace Go.Proofs.YtoigjeoncdfdmaaGreatDoor.ClM
open Go Go.Proofs.YtoigjeoncdfdmaaGreatDoor.LexM

theorem fnd_perm {src src' : List Cl} (hp : ∀ c, c ∈ src' ↔ c ∈ src) (hn' : (src'.map Cl.nm).Nodup) (x : ByteArray) : fnd src' x = fnd src x := by
  cases h : fnd src x with
  | none =>
    rw [find_none] at h ⊢
    exact fun c hc => h c ((hp c).1 hc)
  | some c =>
    obtain ⟨h1, rfl⟩ := find_mem h
    exact find_of hn' ((hp c).2 h1)
theorem chain_perm {src src' : List Cl} (h : ∀ x, fnd src' x = fnd src x) : ∀ (k : Nat) (c : Cl), chain src' k c = chain src k c
  | 0, c => rfl
  | k + 1, c => by
    rw [chain, chain, h]
    split
    · rfl
    · split
      · rw [chain_perm h k]
      · rfl
theorem Good.perm {src src' : List Cl} (g : Good src) (hp : ∀ c, c ∈ src' ↔ c ∈ src) (hl : src'.length = src.length) (hn' : (src'.map Cl.nm).Nodup) : Good src' := by
  have hf := fnd_perm hp hn'
  have hc : ∀ c, lineOf src' c = lineOf src c := fun c => by unfold lineOf; rw [hl, chain_perm hf]
  have ho : ∀ c, flatOf src' c = flatOf src c := fun c => by unfold flatOf; rw [hc]
  refine ⟨by rw [hl]; exact g.len, fun c h => g.val c ((hp c).1 h), hn', fun c h => ?_, fun c h => ?_, fun c h => ?_, fun c h => ?_⟩
  · have := g.par c ((hp c).1 h)
    unfold orphan at this ⊢
    rw [hf]; exact this
  · rw [hc, hl]; exact g.ends c ((hp c).1 h)
  · rw [ho]; exact g.df c ((hp c).1 h)
  · rw [ho]; exact g.lg c ((hp c).1 h)
def turned (src : List Cl) (n : Nat) : List Cl := src.drop n ++ src.take n
theorem turned_mem (src : List Cl) (n : Nat) (c : Cl) : c ∈ turned src n ↔ c ∈ src := by
  unfold turned
  rw [List.mem_append, Or.comm, ← List.mem_append, List.take_append_drop]
theorem turned_len (src : List Cl) (n : Nat) : (turned src n).length = src.length := by
  unfold turned
  rw [List.length_append, Nat.add_comm, ← List.length_append, List.take_append_drop]
theorem turned_nodup {src : List Cl} {n : Nat} : ((turned src n).map Cl.nm).Nodup ↔ (src.map Cl.nm).Nodup := by
  have e : (src.map Cl.nm) = (src.take n).map Cl.nm ++ (src.drop n).map Cl.nm := by rw [← List.map_append, List.take_append_drop]
  unfold turned
  rw [e, List.map_append, List.nodup_append, List.nodup_append]
  constructor
  · rintro ⟨a, b, c⟩; exact ⟨b, a, fun x hx y hy e => c y hy x hx e.symm⟩
  · rintro ⟨a, b, c⟩; exact ⟨b, a, fun x hx y hy e => c y hy x hx e.symm⟩
theorem turned_good {src : List Cl} {n : Nat} : Good (turned src n) ↔ Good src := by
  constructor
  · intro g
    exact g.perm (fun c => (turned_mem src n c).symm) (turned_len src n).symm (turned_nodup.1 g.nd)
  · intro g
    exact g.perm (turned_mem src n) (turned_len src n) (turned_nodup.2 g.nd)
/-- P10.8. -/
theorem turned_flat (src : List Cl) (n : Nat) (x : ByteArray) : (flatE (turned src n) x).1 = (flatE src x).1 ∧ ((flatE (turned src n) x).2 = 0 ↔ (flatE src x).2 = 0) := by
  by_cases g : Good src
  · have g' := turned_good (n := n).2 g
    have hf := fnd_perm (turned_mem src n) g'.nd
    unfold flatE lineE
    rw [if_neg (by rw [checkE_zero.2 g']; simp), if_neg (by rw [checkE_zero.2 g]; simp), hf]
    cases h : fnd src x with
    | none => exact ⟨rfl, Iff.rfl⟩
    | some c =>
      have : lineOf (turned src n) c = lineOf src c := by unfold lineOf; rw [turned_len, chain_perm hf]
      simp only
      rw [this]
      exact ⟨rfl, by simp⟩
  · have g' : ¬ Good (turned src n) := fun h => g (turned_good.1 h)
    rw [← checkE_zero] at g g'
    unfold flatE lineE
    rw [if_pos g', if_pos g]
    exact ⟨rfl, iff_of_false g' g⟩
/-- A block of the name is in one of the classes. -/
def occ (seen : List Cl) (x : ByteArray) : Bool := seen.any (fun y => y.bs.any (fun a => same a.nm x))
theorem occ_snoc (seen : List Cl) (y : Cl) (x : ByteArray) : occ (seen ++ [y]) x = (occ seen x || y.bs.any (fun a => same a.nm x)) := by
  unfold occ
  rw [List.any_append]
  simp
/-- The blocks with new names. -/
def newB (seen : List Cl) (l : List Bk) : Nat := l.countP (fun b => !occ seen b.nm)
def cntB : List Cl → List Cl → Nat
  | _, [] => 0
  | seen, x :: r => newB seen x.bs + cntB (seen ++ [x]) r
theorem addB_cnt (q : ByteArray → Bool) (b : Bk) : ∀ {R : List Bk}, (R.map Bk.nm).Nodup → (addB R b).countP (fun a => q a.nm) = R.countP (fun a => q a.nm && !same a.nm b.nm) + if q b.nm = true then 1 else 0
  | [], _ => by
    rw [addB_nil, List.countP_cons, List.countP_nil, List.countP_nil]
  | a :: r, h => by
    rw [List.map_cons, List.nodup_cons] at h
    rw [addB_cons]
    split
    · rename_i e
      have e2 := same_iff.1 e
      rw [List.countP_cons, List.countP_cons, e]
      have : r.countP (fun a => q a.nm && !same a.nm b.nm) = r.countP (fun a => q a.nm) := by
        refine List.countP_congr (fun y hy => ?_)
        have : same y.nm b.nm = false := same_no.2 (fun e3 => h.1 (by rw [e2, ← e3]; exact List.mem_map_of_mem hy))
        rw [this]; simp
      rw [this]; simp
    · rename_i e
      rw [Bool.not_eq_true] at e
      rw [List.countP_cons, List.countP_cons, addB_cnt q b h.2, e]
      simp only [Bool.not_false, Bool.and_true]
      omega
theorem addAll_cnt (q : ByteArray → Bool) : ∀ {X R : List Bk}, (X.map Bk.nm).Nodup → (R.map Bk.nm).Nodup → (addAll R X).countP (fun a => q a.nm) = X.countP (fun a => q a.nm) + R.countP (fun a => q a.nm && !X.any (fun b => same b.nm a.nm))
  | [], R, _, _ => by
    have : addAll R [] = R := rfl
    rw [this]
    simp
  | b :: X, R, hX, hR => by
    rw [List.map_cons, List.nodup_cons] at hX
    have : addAll R (b :: X) = addAll (addB R b) X := rfl
    rw [this, addAll_cnt q hX.2 (addB_nodup hR), addB_cnt (fun x => q x && !X.any (fun b => same b.nm x)) b hR, List.countP_cons]
    have hb : X.any (fun a => same a.nm b.nm) = false := by
      rw [List.any_eq_false]
      intro y hy e
      exact hX.1 (by rw [← same_iff.1 e]; exact List.mem_map_of_mem hy)
    have hc : R.countP (fun a => (q a.nm && !X.any (fun b => same b.nm a.nm)) && !same a.nm b.nm) = R.countP (fun a => q a.nm && !(b :: X).any (fun b => same b.nm a.nm)) := by
      refine List.countP_congr (fun y hy => ?_)
      rw [List.any_cons, same_comm b.nm y.nm]
      cases q y.nm <;> cases same y.nm b.nm <;> cases X.any (fun b => same b.nm y.nm) <;> simp
    rw [hc, hb]
    simp only [Bool.not_false, Bool.and_true]
    omega
theorem cntB_flat : ∀ (l seen : List Cl), (∀ c ∈ l, (c.bs.map Bk.nm).Nodup) → cntB seen l = (flatL l).bs.countP (fun b => !occ seen b.nm)
  | [], seen, _ => rfl
  | x :: r, seen, h => by
    rw [cntB, cntB_flat r _ (fun c hc => h c (List.mem_cons_of_mem _ hc)), flatL_bs, addAll_cnt (fun x => !occ seen x) (h x (List.mem_cons_self ..)) (flat_bs_nodup r)]
    unfold newB
    congr 1
    refine List.countP_congr (fun y _ => ?_)
    rw [occ_snoc]
    cases occ seen y.nm <;> simp
theorem cntB_all {l : List Cl} (h : ∀ c ∈ l, (c.bs.map Bk.nm).Nodup) : cntB [] l = (flatL l).bs.length := by
  rw [cntB_flat l [] h, List.countP_eq_length]
  intro b _
  rfl
theorem flat_new {x : Cl} {b : Bk} (hx : (x.bs.map Bk.nm).Nodup) (hb : b ∈ x.bs) (post : List Cl) : ∀ pre : List Cl, occ pre b.nm = false → b ∈ (flatL (pre ++ x :: post)).bs
  | [], _ => addAll_new hx hb
  | y :: pre, h => by
    unfold occ at h
    rw [List.any_cons, Bool.or_eq_false_iff] at h
    rw [List.cons_append, flatL_bs]
    refine addAll_keep (flat_new hx hb post pre h.2) (fun hm => ?_)
    obtain ⟨a, ha, e⟩ := List.mem_map.1 hm
    have := List.any_eq_false.1 h.1 a ha
    exact this (same_iff.2 e)
end Go.Proofs.YtoigjeoncdfdmaaGreatDoor.ClM
