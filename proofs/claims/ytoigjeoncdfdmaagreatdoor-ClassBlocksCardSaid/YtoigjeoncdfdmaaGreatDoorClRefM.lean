/-
  Plain: the specification's check and the code's are the same; what the laws say, on lists.
-/
import Derived.Test.YtoigjeoncdfdmaaGreatDoorClMath
namespace Go.Proofs.YtoigjeoncdfdmaaGreatDoor.ClM
open Go Go.Proofs.YtoigjeoncdfdmaaGreatDoor.LexM

/-- The first class has a field with the name of a field of a later one. -/
def inhB : List Cl → Bool
  | [] => false
  | c :: r => r.any (fun d => c.fs.any (fun f => d.fs.any (fun g => same g.nm f.nm)))
def lineR (src : List Cl) (c : Cl) : List Cl := chain src 32 c
def famR (src : List Cl) : Int :=
  if dupB (src.map Cl.nm) = true then 8
  else if src.any (orphan src) = true then 7
  else if src.any (fun c => decide (src.length < (lineR src c).length)) = true then 10
  else if src.any (fun c => inhB (lineR src c)) = true then 8
  else if src.any (fun c => large (flatL (lineR src c))) = true then 2
  else 0
def checkR (src : List Cl) : Int :=
  if 32 < src.length then 2
  else if firstE (src.map validE) ≠ 0 then firstE (src.map validE)
  else famR src
theorem any_congr {α : Type} {l : List α} {p q : α → Bool} (h : ∀ x ∈ l, p x = q x) : l.any p = l.any q := by
  induction l with
  | nil => rfl
  | cons a r ih => rw [List.any_cons, List.any_cons, h a (List.mem_cons_self ..), ih (fun x hx => h x (List.mem_cons_of_mem _ hx))]
theorem long_iff {src : List Cl} (hn : src.length ≤ 32) (c : Cl) : decide (src.length < (lineR src c).length) = decide (src.length < (lineOf src c).length) := by
  rcases Nat.lt_or_ge src.length (lineOf src c).length with h | h
  · rw [decide_eq_true h, decide_eq_true (show src.length < (lineR src c).length from chain_lt src src.length c 32 h hn)]
  · have : lineR src c = lineOf src c := chain_more src src.length c 32 h hn
    rw [this]
theorem flatL_fs (x : Cl) (r : List Cl) : (flatL (x :: r)).fs = (flatL r).fs ++ x.fs := rfl
theorem flatL_bs (x : Cl) (r : List Cl) : (flatL (x :: r)).bs = addAll (flatL r).bs x.bs := rfl
theorem flatL_fmem {l : List Cl} {f : Fld} : f ∈ (flatL l).fs ↔ ∃ c ∈ l, f ∈ c.fs := by
  induction l with
  | nil => simp [flatL, zCl]
  | cons a r ih =>
    rw [flatL_fs, List.mem_append, ih]
    simp only [List.mem_cons, exists_eq_or_imp]
    exact Or.comm
theorem inh_iff {c : Cl} {r : List Cl} : inhB (c :: r) = false ↔ ∀ d ∈ r, ∀ f ∈ c.fs, ∀ g ∈ d.fs, g.nm ≠ f.nm := by
  unfold inhB
  rw [List.any_eq_false]
  constructor
  · intro h d hd f hf g hg e
    refine h d hd (List.any_eq_true.2 ⟨f, hf, List.any_eq_true.2 ⟨g, hg, same_iff.2 e⟩⟩)
  · intro h d hd e
    obtain ⟨f, hf, e⟩ := List.any_eq_true.1 e
    obtain ⟨g, hg, e⟩ := List.any_eq_true.1 e
    exact h d hd f hf g hg (same_iff.1 e)
/-- The names of a flat class's fields differ exactly if no class of the line has a field of a later one. -/
theorem nodup_flat {l : List Cl} (hd : ∀ c ∈ l, (c.fs.map Fld.nm).Nodup) : ((flatL l).fs.map Fld.nm).Nodup ↔ l.Pairwise (fun c d => ∀ f ∈ c.fs, ∀ g ∈ d.fs, g.nm ≠ f.nm) := by
  induction l with
  | nil => simp [flatL, zCl]
  | cons a r ih =>
    rw [flatL_fs, List.map_append, List.nodup_append, List.pairwise_cons, ih (fun c hc => hd c (List.mem_cons_of_mem _ hc))]
    constructor
    · rintro ⟨h1, h2, h3⟩
      exact ⟨fun d hd' f hf g hg => h3 _ (List.mem_map_of_mem (flatL_fmem.2 ⟨d, hd', hg⟩)) _ (List.mem_map_of_mem hf), h1⟩
    · rintro ⟨h1, h2⟩
      refine ⟨h2, hd a (List.mem_cons_self ..), fun x hx y hy => ?_⟩
      obtain ⟨g, hg, rfl⟩ := List.mem_map.1 hx
      obtain ⟨f, hf, rfl⟩ := List.mem_map.1 hy
      obtain ⟨d, hd', hgd⟩ := flatL_fmem.1 hg
      exact h1 d hd' f hf g hgd
/-- The line's own equation, where every line ends. -/
theorem line_step {src : List Cl} (he : ∀ c ∈ src, (lineOf src c).length ≤ src.length) {c : Cl} (hc : c ∈ src) : lineOf src c = if same c.par emp = true then [c] else match fnd src c.par with
    | some d => c :: lineOf src d
    | none => [c] := by
  have h1 : chain src (src.length + 1) c = lineOf src c := chain_more src src.length c (src.length + 1) (he c hc) (by omega)
  rw [← h1, chain]
  rfl
theorem line_nil (src : List Cl) (c : Cl) : lineOf src c ≠ [] := by
  intro e
  have := (chain_len src src.length c).2
  unfold lineOf at e
  rw [e] at this
  simp at this
theorem line_ind {src : List Cl} (he : ∀ c ∈ src, (lineOf src c).length ≤ src.length) {Q : Cl → Prop}
    (h : ∀ c ∈ src, (∀ d r, lineOf src c = c :: r → r = lineOf src d → d ∈ src → Q d) → Q c) : ∀ (k : Nat) (c : Cl), c ∈ src → (lineOf src c).length ≤ k → Q c
  | 0, c, _, hk => by have := (chain_len src src.length c).2; unfold lineOf at hk; omega
  | k + 1, c, hc, hk => h c hc (fun d r e1 e2 hd => line_ind he h k d hd (by rw [e1, List.length_cons, e2] at hk; omega))
theorem line_cons {src : List Cl} (he : ∀ c ∈ src, (lineOf src c).length ≤ src.length) {c : Cl} (hc : c ∈ src) : lineOf src c = [c] ∨ ∃ d ∈ src, fnd src c.par = some d ∧ lineOf src c = c :: lineOf src d := by
  rw [line_step he hc]
  split
  · exact .inl rfl
  · split
    · rename_i d hd; exact .inr ⟨d, (find_mem hd).1, hd, rfl⟩
    · exact .inl rfl
theorem pair_line {src : List Cl} (he : ∀ c ∈ src, (lineOf src c).length ≤ src.length) (hi : ∀ c ∈ src, inhB (lineOf src c) = false) : ∀ c ∈ src, (lineOf src c).Pairwise (fun c d => ∀ f ∈ c.fs, ∀ g ∈ d.fs, g.nm ≠ f.nm) := by
  intro c hc
  refine line_ind he (Q := fun c => (lineOf src c).Pairwise _) (fun c hc ih => ?_) _ c hc (Nat.le_refl _)
  have h1 := hi c hc
  rcases line_cons he hc with e | ⟨d, hd, _, e⟩
  · rw [e]; exact List.pairwise_singleton _ _
  · rw [e] at h1 ⊢
    rw [List.pairwise_cons]
    exact ⟨inh_iff.1 h1, ih d _ e rfl hd⟩
theorem dup_inh {src : List Cl} (hv : ∀ c ∈ src, Val c) (he : ∀ c ∈ src, (lineOf src c).length ≤ src.length) : src.any (fun c => dupB ((flatOf src c).fs.map Fld.nm)) = src.any (fun c => inhB (lineOf src c)) := by
  have hd : ∀ c ∈ src, ∀ d ∈ lineOf src c, (d.fs.map Fld.nm).Nodup := fun c hc d hm => (hv d (chain_mem hc d hm)).df
  rw [Bool.eq_iff_iff]
  constructor
  · intro h
    cases hx : src.any (fun c => inhB (lineOf src c)) with
    | true => rfl
    | false =>
      exfalso
      rw [List.any_eq_false] at hx
      have hp := pair_line he (fun c hc => by simpa using hx c hc)
      obtain ⟨c, hc, h⟩ := List.any_eq_true.1 h
      have := (nodup_flat (hd c hc)).2 (hp c hc)
      rw [← dupB_iff] at this
      unfold flatOf at h
      rw [this] at h
      cases h
  · intro h
    obtain ⟨c, hc, h⟩ := List.any_eq_true.1 h
    refine List.any_eq_true.2 ⟨c, hc, ?_⟩
    cases hx : dupB ((flatOf src c).fs.map Fld.nm) with
    | true => rfl
    | false =>
      exfalso
      have hp := (nodup_flat (hd c hc)).1 (dupB_iff.1 hx)
      obtain ⟨r, e⟩ := chain_head src src.length c
      unfold lineOf at hp h
      rw [e] at hp h
      rw [List.pairwise_cons] at hp
      rw [inh_iff.2 hp.1] at h
      cases h
theorem checkR_eq (src : List Cl) : checkR src = checkE src := by
  unfold checkR checkE
  split
  · rfl
  · rename_i hn
    split
    · rfl
    · rename_i hv
      have hv := validE_any.1 (Classical.byContradiction hv)
      unfold famR famE
      rw [any_congr (fun c _ => long_iff (by omega) c)]
      split
      · rfl
      · split
        · rfl
        · split
          · rfl
          · rename_i h5
            rw [Bool.not_eq_true, List.any_eq_false] at h5
            have he : ∀ c ∈ src, (lineOf src c).length ≤ src.length := fun c hc => by have := h5 c hc; simp at this; omega
            have hl : ∀ c ∈ src, lineR src c = lineOf src c := fun c hc => chain_more src src.length c 32 (he c hc) (by omega)
            rw [any_congr (p := fun c => inhB (lineR src c)) (q := fun c => inhB (lineOf src c)) (fun c hc => by rw [hl c hc]), ← dup_inh hv he, any_congr (p := fun c => large (flatL (lineR src c))) (q := fun c => large (flatOf src c)) (fun c hc => by rw [hl c hc]; rfl)]
theorem Good.lineR {src : List Cl} (h : Good src) {c : Cl} (hc : c ∈ src) : lineR src c = lineOf src c := chain_more src src.length c 32 (h.ends c hc) h.len
theorem Good.step {src : List Cl} (h : Good src) {c : Cl} (hc : c ∈ src) : (c.par = emp ∧ lineOf src c = [c]) ∨ (c.par ≠ emp ∧ ∃ d ∈ src, fnd src c.par = some d ∧ lineOf src c = c :: lineOf src d) := by
  rw [line_step h.ends hc]
  split
  · rename_i hp; exact .inl ⟨same_iff.1 hp, rfl⟩
  · rename_i hp
    refine .inr ⟨fun e => hp (same_iff.2 e), ?_⟩
    have ho := h.par c hc
    unfold orphan at ho
    cases hf : fnd src c.par with
    | none => rw [hf] at ho; simp at ho; exact absurd ho hp
    | some d => exact ⟨d, (find_mem hf).1, rfl, rfl⟩
theorem lineE_ok {src : List Cl} {x : ByteArray} {l : List Cl} (h : lineE src x = (l, 0)) : Good src ∧ ∃ c, fnd src x = some c ∧ l = lineOf src c := by
  unfold lineE at h
  split at h
  · rename_i h1
    injection h with h2 h3
    exact absurd h3 h1
  · rename_i h1
    refine ⟨checkE_zero.1 (Classical.byContradiction h1), ?_⟩
    split at h
    · rename_i c hc
      injection h with h2 h3
      exact ⟨c, hc, h2.symm⟩
    · injection h with h2 h3
      cases h3
theorem lineE_no {src : List Cl} {x : ByteArray} (h : (lineE src x).2 ≠ 0) : (lineE src x).1 = [] := by
  unfold lineE at h ⊢
  split
  · rfl
  · rename_i h1
    rw [if_neg h1] at h
    split
    · rename_i c hc
      rw [hc] at h
      exact absurd rfl h
    · rfl
theorem lineE_of {src : List Cl} {x : ByteArray} {c : Cl} (h : Good src) (hf : fnd src x = some c) : lineE src x = (lineOf src c, 0) := by
  unfold lineE
  rw [if_neg (by rw [checkE_zero.2 h]; simp), hf]
/-- P10.7: a flat class is a source of its own. -/
theorem flat_par (l : List Cl) : (flatL l).par = emp := by cases l <;> rfl
theorem flat_bs_nodup : ∀ l : List Cl, ((flatL l).bs.map Bk.nm).Nodup
  | [] => by simp [flatL, zCl]
  | a :: r => by rw [flatL_bs]; exact addAll_nodup (flat_bs_nodup r)
theorem flat_bs_mem {l : List Cl} {b : Bk} (h : b ∈ (flatL l).bs) : ∃ c ∈ l, b ∈ c.bs := by
  induction l with
  | nil => simp [flatL, zCl] at h
  | cons a r ih =>
    rw [flatL_bs] at h
    rcases addAll_mem h with h | h
    · exact ⟨a, List.mem_cons_self .., h⟩
    · obtain ⟨c, hc, h⟩ := ih h
      exact ⟨c, List.mem_cons_of_mem _ hc, h⟩
theorem flat_nm {src : List Cl} {c : Cl} : (flatOf src c).nm = c.nm := by
  unfold flatOf lineOf
  obtain ⟨r, e⟩ := chain_head src src.length c
  rw [e]; rfl
theorem flat_val {src : List Cl} (h : Good src) {c : Cl} (hc : c ∈ src) : Val (flatOf src c) := by
  refine ⟨by rw [flat_nm]; exact (h.val c hc).nm, .inl (flat_par _), h.lg c hc, fun f hf => ?_, fun b hb => ?_, h.df c hc, flat_bs_nodup _⟩
  · obtain ⟨d, hd, hf⟩ := flatL_fmem.1 hf
    exact (h.val d (chain_mem hc d hd)).fs f hf
  · obtain ⟨d, hd, hb⟩ := flat_bs_mem hb
    exact (h.val d (chain_mem hc d hd)).bs b hb
theorem alone_line {c : Cl} (hp : c.par = emp) : lineOf [c] c = [c] := by
  show chain [c] 1 c = [c]
  rw [chain, if_pos (same_iff.2 hp)]
theorem alone_flat {c : Cl} (hp : c.par = emp) (hb : (c.bs.map Bk.nm).Nodup) : flatOf [c] c = c := by
  unfold flatOf
  rw [alone_line hp]
  show stepC zCl c = c
  unfold stepC zCl
  have := addAll_id (ns := c.bs) (bs := []) (by rw [List.nil_append]; exact hb)
  rw [this]
  cases c
  simp only at hp
  subst hp
  rfl
theorem alone_good {c : Cl} (hv : Val c) (hp : c.par = emp) : Good [c] := by
  have h1 := alone_flat hp hv.db
  refine ⟨by simp, fun d hd => ?_, by simp, fun d hd => ?_, fun d hd => ?_, fun d hd => ?_, fun d hd => ?_⟩
  all_goals
    rw [List.mem_singleton] at hd
    subst hd
  · exact hv
  · unfold orphan; rw [hp, same_rfl]; rfl
  · rw [alone_line hp]; exact Nat.le_refl _
  · rw [h1]; exact hv.df
  · rw [h1]; exact hv.lg
theorem alone_fnd {c : Cl} : fnd [c] c.nm = some c := by unfold fnd; simp [same_rfl]
theorem alone_flatE {c : Cl} (hv : Val c) (hp : c.par = emp) : flatE [c] c.nm = (c, 0) := by
  unfold flatE
  rw [lineE_of (alone_good hv hp) alone_fnd]
  show (flatOf [c] c, 0) = _
  rw [alone_flat hp hv.db]
theorem varsL_app {c d : Cl} {fs : List Fld} (hc : validE c = 0) (hd : validE d = 0) (h : d.fs = c.fs ++ fs) : ∃ v, varsL d = varsL c ++ v := by
  unfold varsL
  rw [if_neg (c := validE c ≠ 0) (by rw [hc]; simp), if_neg (c := validE d ≠ 0) (by rw [hd]; simp), h, List.flatMap_append]
  exact ⟨_, rfl⟩
end Go.Proofs.YtoigjeoncdfdmaaGreatDoor.ClM
