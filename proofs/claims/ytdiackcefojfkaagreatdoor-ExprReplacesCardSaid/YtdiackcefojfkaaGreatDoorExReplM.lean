/-
  Replacing a variable is giving it the value; which names an expression needs; with no Go in sight.
-/
import Derived.Test.YtdiackcefojfkaaGreatDoorExFold
import Derived.Test.YtdiackcefojfkaaGreatDoorExValue
namespace Go.Proofs.YtdiackcefojfkaaGreatDoor.ExM
open Go Go.Proofs.YtdiackcefojfkaaGreatDoor.WordM Go.Proofs.YtdiackcefojfkaaGreatDoor.LexM Go.Proofs.YtdiackcefojfkaaGreatDoor.LexW Go.Proofs.YtdiackcefojfkaaGreatDoor.ExW

theorem find_cons_ne {env : Env} {a s : ByteArray} {v : Int} (h : a.data.toList ≠ s.data.toList) : findS ((a, v) :: env) s = findS env s := by
  show (if a.data.toList = s.data.toList then some (v % 65536) else findS env s) = _
  rw [if_neg h]
theorem find_cons_eq {env : Env} {a s : ByteArray} {v : Int} (h : a.data.toList = s.data.toList) : findS ((a, v) :: env) s = some (v % 65536) := by
  show (if a.data.toList = s.data.toList then some (v % 65536) else findS env s) = _
  rw [if_pos h]
theorem elm_ne {a s : ByteArray} {i : Nat} (h : nmB a.data.toList = true) : a.data.toList ≠ (elmN s i).data.toList := fun e => by
  refine nm_no h ?_
  rw [e]
  show (91 : UInt8) ∈ s.data.toList ++ [91, UInt8.ofNat (48 + i), 93]
  simp
theorem elS_cons {env : Env} {a s : ByteArray} {v i : Int} (h : nmB a.data.toList = true) : elS ((a, v) :: env) s i = elS env s i := by
  unfold elS fnd
  split
  · rw [find_cons_ne (elm_ne h)]
  · rfl
theorem sumK_cons {env : Env} {a s : ByteArray} {v : Int} (h : nmB a.data.toList = true) (k : Nat) : sumK ((a, v) :: env) s k = sumK env s k := by
  induction k with
  | zero => rfl
  | succ k ih => unfold sumK; rw [ih, elS_cons h]
theorem valS_cons {env : Env} {a s : ByteArray} {v o n : Int} {l : List Int} (h : nmB a.data.toList = true) (hs : ¬ (isVr o = true ∧ s.data.toList = a.data.toList)) : valS ((a, v) :: env) o n s l = valS env o n s l ∧ knwS ((a, v) :: env) o s = knwS env o s := by
  unfold valS knwS hasN fnd
  rw [sumK_cons h, elS_cons h, find_cons_ne (elm_ne h)]
  by_cases h2 : o = 2
  · have : a.data.toList ≠ s.data.toList := fun e => hs ⟨by unfold isVr; exact decide_eq_true h2, e.symm⟩
    rw [find_cons_ne this]
    exact ⟨rfl, rfl⟩
  · simp only [if_neg h2]
    exact ⟨trivial, trivial⟩
theorem su_ev {env : Env} {a : ByteArray} {b : Ex} (h : nmB a.data.toList = true) (hb : Ok b) (hk : kn env b = true) (e : Ex) (he : Ok e) :
    ev env (su a b e) = ev ((a, ev env b) :: env) e ∧ kn env (su a b e) = kn ((a, ev env b) :: env) e := by
  induction e using Ex.ind with
  | h o n s ks ih =>
    rw [ok_mk] at he
    rw [su_mk]
    by_cases hc : isVr o = true ∧ s.data.toList = a.data.toList
    · rw [if_pos hc]
      obtain rfl : o = 2 := of_decide_eq_true hc.1
      have hl : ks.length = 0 := by
        have := flt_takes he.1
        unfold takesS at this
        rw [if_neg (by decide), decide_eq_true_eq, show arS 2 = 0 from rfl] at this
        omega
      obtain rfl : ks = [] := List.length_eq_zero_iff.1 hl
      have hr := ev_range env b hb
      have hf := find_cons_eq (env := env) (v := ev env b) hc.2.symm
      rw [ev_mk, kn_mk, kns, hk]
      constructor
      · show _ = fnd _ s
        unfold fnd
        rw [hf, Option.getD_some]
        omega
      · show true = (true && hasN _ s)
        unfold hasN
        rw [hf]; rfl
    · rw [if_neg hc, ev_mk, kn_mk, ev_mk, kn_mk]
      have e1 : evs env (ks.map (su a b)) = evs ((a, ev env b) :: env) ks := by
        rw [evs_map, evs_map, List.map_map]
        exact List.map_congr_left fun x hx => (ih x hx (he.2 x hx)).1
      have e2 : kns env (ks.map (su a b)) = kns ((a, ev env b) :: env) ks := by
        rw [kns_all, kns_all, List.all_map]
        rw [Bool.eq_iff_iff, List.all_eq_true, List.all_eq_true]
        exact ⟨fun g x hx => by have := g x hx; rw [Function.comp, (ih x hx (he.2 x hx)).2] at this; exact this, fun g x hx => by rw [Function.comp, (ih x hx (he.2 x hx)).2]; exact g x hx⟩
      obtain ⟨g1, g2⟩ := valS_cons (env := env) (v := ev env b) (n := n) (l := evs ((a, ev env b) :: env) ks) h hc
      rw [e1, e2, g1, g2]
      exact ⟨rfl, rfl⟩
/-- C8.2. -/
theorem su_eval {env : Env} {a : ByteArray} {b e : Ex} {v : Int} (h : nmB a.data.toList = true) (hb : evalS env b = (v, 0)) (he : vld e = 0) (hx : vld (su a b e) = 0) :
    evalS env (su a b e) = evalS ((a, v) :: env) e := by
  unfold evalS at hb
  by_cases h0 : vld b = 0
  · rw [if_pos h0] at hb
    cases hk : kn env b
    · rw [hk] at hb; simp at hb
    · rw [hk] at hb
      obtain rfl : ev env b = v := by simpa using hb
      obtain ⟨g1, g2⟩ := su_ev h ((vld_zero b).1 h0).1 hk e ((vld_zero e).1 he).1
      unfold evalS
      rw [if_pos hx, if_pos he, g1, g2]
  · rw [if_neg h0] at hb; simp at hb
/-- Every name has a value, as far as the nodes ask. -/
theorem kn_iff (env : Env) (e : Ex) : ∀ l, kn env e = true ↔ ∀ x ∈ pre l e, knwS env x.op x.nm = true := by
  induction e using Ex.ind with
  | h o n s ks ih =>
    intro l
    rw [kn_mk, Bool.and_eq_true, kns_all, List.all_eq_true, pre_mk]
    constructor
    · rintro ⟨h1, h2⟩ x hx
      rcases List.mem_cons.1 hx with rfl | hx
      · exact h2
      · obtain ⟨a, ha, hxa⟩ := mem_pres.1 hx
        exact (ih a ha _).1 (h1 a ha) x hxa
    · intro h
      exact ⟨fun a ha => (ih a ha (l + 1)).2 fun x hx => h x (List.mem_cons_of_mem _ (mem_pres.2 ⟨a, ha, hx⟩)), h _ List.mem_cons_self⟩
/-- The names that an expression needs. -/
noncomputable def needs (e : Ex) : List ByteArray := namesL isVr (pre 1 e) ++ (namesL isAr (pre 1 e)).map (fun a => elmN a 0)
theorem kn_needs (env : Env) (e : Ex) : kn env e = true ↔ ∀ s ∈ needs e, hasN env s = true := by
  rw [kn_iff env e 1]
  unfold needs
  constructor
  · intro h s hs
    rcases List.mem_append.1 hs with hs | hs
    · obtain ⟨x, hx, hp, rfl⟩ := (names_mem _ _ _).1 hs
      have := h x hx
      unfold knwS at this
      rwa [if_pos (of_decide_eq_true hp)] at this
    · obtain ⟨a, ha, rfl⟩ := List.mem_map.1 hs
      obtain ⟨x, hx, hp, rfl⟩ := (names_mem _ _ _).1 ha
      have := h x hx
      have hp' : x.op = 3 ∨ x.op = 24 := by unfold isAr at hp; simpa using hp
      unfold knwS at this
      rwa [if_neg (by omega), if_pos hp'] at this
  · intro h x hx
    unfold knwS
    split
    · rename_i h2
      exact h _ (List.mem_append.2 (.inl ((names_mem _ _ _).2 ⟨x, hx, decide_eq_true h2, rfl⟩)))
    · split
      · rename_i h3
        exact h _ (List.mem_append.2 (.inr (List.mem_map.2 ⟨x.nm, (names_mem _ _ _).2 ⟨x, hx, by unfold isAr; simpa using h3, rfl⟩, rfl⟩)))
      · rfl
theorem has_iff (env : Env) (s : ByteArray) : hasN env s = true ↔ ∃ x ∈ env, x.1.data.toList = s.data.toList := by
  unfold hasN
  induction env with
  | nil => simp [findS]
  | cons x r ih =>
    obtain ⟨a, v⟩ := x
    by_cases h : a.data.toList = s.data.toList
    · rw [find_cons_eq h]
      exact ⟨fun _ => ⟨_, List.mem_cons_self, h⟩, fun _ => rfl⟩
    · rw [find_cons_ne h, ih]
      constructor
      · rintro ⟨y, hy, e⟩; exact ⟨y, List.mem_cons_of_mem _ hy, e⟩
      · rintro ⟨y, hy, e⟩
        rcases List.mem_cons.1 hy with rfl | hy
        · exact absurd e h
        · exact ⟨y, hy, e⟩
end Go.Proofs.YtdiackcefojfkaaGreatDoor.ExM
