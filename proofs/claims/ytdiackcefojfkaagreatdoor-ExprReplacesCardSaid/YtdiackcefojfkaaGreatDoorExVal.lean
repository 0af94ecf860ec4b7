/-
  The value of an expression, with no Go in sight.
-/
import Derived.Test.YtdiackcefojfkaaGreatDoorExMath
namespace Go.Proofs.YtdiackcefojfkaaGreatDoor.ExM
open Go Go.Proofs.YtdiackcefojfkaaGreatDoor.WordM Go.Proofs.YtdiackcefojfkaaGreatDoor.LexM

abbrev Env := List (ByteArray × Int)
/-- The value of a name. -/
def findS : Env → ByteArray → Option Int
  | [], _ => none
  | (a, v) :: r, s => if a.data.toList = s.data.toList then some (v % 65536) else findS r s
def fnd (env : Env) (s : ByteArray) : Int := (findS env s).getD 0
def hasN (env : Env) (s : ByteArray) : Bool := (findS env s).isSome
def elmN (a : ByteArray) (i : Nat) : ByteArray := ⟨(a.data.toList ++ [91, UInt8.ofNat (48 + i), 93]).toArray⟩
def elS (env : Env) (a : ByteArray) (i : Int) : Int := if 0 ≤ i ∧ i ≤ 7 then fnd env (elmN a i.toNat) else 0
def sumK (env : Env) (a : ByteArray) : Nat → Int
  | 0 => 0
  | k + 1 => (sumK env a k + elS env a k) % 65536
def ix (l : List Int) (i : Nat) : Int := l.getD i 0
def tr (b : Bool) : Int := if b then 1 else 0
def shlM (a n : Int) : Int := if 0 ≤ n ∧ n ≤ 15 then a * 2 ^ n.toNat % 65536 else 0
def shrM (a n : Int) : Int := if 0 ≤ n ∧ n ≤ 15 then a % 65536 / 2 ^ n.toNat else 0
def onesM (a : Int) : Int := (sumN 16 (wordN a) : Int)
/-- Is n in one of the ranges? -/
def insB (n : Int) : List Int → Bool
  | a :: b :: r => (decide (a ≤ n) && decide (n ≤ b)) || insB n r
  | _ => false
def opS (o : Int) (l : List Int) : Int :=
  if o = 4 then tr (decide (ix l 0 = 0))
  else if o = 5 then 65535 - ix l 0 % 65536
  else if o = 6 then -ix l 0 % 65536
  else if o = 25 then onesM (ix l 0)
  else if o = 7 then (ix l 0 + ix l 1) % 65536
  else if o = 8 then (ix l 0 - ix l 1) % 65536
  else if o = 9 then ix l 0 * ix l 1 % 65536
  else if o = 13 then shlM (ix l 0) (ix l 1)
  else if o = 14 then shrM (ix l 0) (ix l 1)
  else if o = 10 then (((ix l 0).toNat &&& (ix l 1).toNat : Nat) : Int)
  else if o = 11 then (((ix l 0).toNat ||| (ix l 1).toNat : Nat) : Int)
  else if o = 12 then (((ix l 0).toNat ^^^ (ix l 1).toNat : Nat) : Int)
  else if o = 15 then tr (decide (ix l 0 = ix l 1))
  else if o = 16 then tr (!decide (ix l 0 = ix l 1))
  else if o = 17 then tr (decide (ix l 0 < ix l 1))
  else if o = 18 then tr (decide (ix l 0 ≤ ix l 1))
  else if o = 19 then tr (!decide (ix l 0 = 0) && !decide (ix l 1 = 0))
  else if o = 20 then tr (!decide (ix l 0 = 0) || !decide (ix l 1 = 0))
  else if o = 21 then tr (decide (ix l 0 = 0) || !decide (ix l 1 = 0))
  else if o = 22 then (if ix l 0 = 0 then ix l 2 else ix l 1)
  else tr (insB (ix l 0) l.tail)
def asksB (o : Int) : Bool := decide (o = 1) || (isVr o || isAr o)
def valS (env : Env) (o n : Int) (s : ByteArray) (l : List Int) : Int :=
  if o = 1 then n else if o = 2 then fnd env s else if o = 3 then elS env s (ix l 0) else if o = 24 then sumK env s 8 else opS o l
def knwS (env : Env) (o : Int) (s : ByteArray) : Bool :=
  if o = 2 then hasN env s else if o = 3 ∨ o = 24 then hasN env (elmN s 0) else true
mutual
def ev (env : Env) : Ex → Int
  | .mk o n s ks => valS env o n s (evs env ks)
def evs (env : Env) : List Ex → List Int
  | [] => []
  | a :: r => ev env a :: evs env r
def kn (env : Env) : Ex → Bool
  | .mk o _ s ks => kns env ks && knwS env o s
def kns (env : Env) : List Ex → Bool
  | [] => true
  | a :: r => kn env a && kns env r
end
theorem ev_mk (env : Env) (o n : Int) (s : ByteArray) (ks : List Ex) : ev env (.mk o n s ks) = valS env o n s (evs env ks) := by rw [ev]
theorem evs_map (env : Env) (ks : List Ex) : evs env ks = ks.map (ev env) := by
  induction ks with
  | nil => rw [evs]; rfl
  | cons a r ih => rw [evs, ih]; rfl
theorem kn_mk (env : Env) (o n : Int) (s : ByteArray) (ks : List Ex) : kn env (.mk o n s ks) = (kns env ks && knwS env o s) := by rw [kn]
theorem kns_all (env : Env) (ks : List Ex) : kns env ks = ks.all (kn env) := by
  induction ks with
  | nil => rw [kns]; rfl
  | cons a r ih => rw [kns, ih]; rfl
theorem evs_len (env : Env) (ks : List Ex) : (evs env ks).length = ks.length := by rw [evs_map]; simp
/-- What Eval returns. -/
def evalS (env : Env) (e : Ex) : Int × Int := if vld e = 0 then (if kn env e = true then (ev env e, 0) else (0, 7)) else (0, 1)
theorem tr_range (b : Bool) : 0 ≤ tr b ∧ tr b ≤ 65535 := by cases b <;> simp [tr]
theorem fnd_range (env : Env) (s : ByteArray) : 0 ≤ fnd env s ∧ fnd env s ≤ 65535 := by
  unfold fnd
  induction env with
  | nil => simp [findS]
  | cons x r ih =>
    obtain ⟨a, v⟩ := x
    unfold findS
    split
    · simp only [Option.getD_some]; omega
    · exact ih
theorem elS_range (env : Env) (a : ByteArray) (i : Int) : 0 ≤ elS env a i ∧ elS env a i ≤ 65535 := by
  unfold elS; split
  · exact fnd_range _ _
  · omega
theorem sumK_range (env : Env) (a : ByteArray) (k : Nat) : 0 ≤ sumK env a k ∧ sumK env a k ≤ 65535 := by
  cases k with
  | zero => simp [sumK]
  | succ k => unfold sumK; omega
def Wd (l : List Int) : Prop := ∀ v ∈ l, 0 ≤ v ∧ v ≤ 65535
theorem ix_range {l : List Int} (h : Wd l) (i : Nat) : 0 ≤ ix l i ∧ ix l i ≤ 65535 := by
  unfold ix
  by_cases g : i < l.length
  · rw [List.getD_eq_getElem?_getD, List.getElem?_eq_getElem g]; exact h _ (List.getElem_mem g)
  · rw [List.getD_eq_getElem?_getD, List.getElem?_eq_none (by omega)]; simp
theorem shlM_range (a n : Int) : 0 ≤ shlM a n ∧ shlM a n ≤ 65535 := by unfold shlM; split <;> omega
theorem shrM_range (a n : Int) : 0 ≤ shrM a n ∧ shrM a n ≤ 65535 := by
  unfold shrM; split
  · have h0 : 0 ≤ a % 65536 := by omega
    have h1 : a % 65536 ≤ 65535 := by omega
    have hp : (0 : Int) < 2 ^ n.toNat := Int.pow_pos (by omega)
    refine ⟨Int.ediv_nonneg h0 (by omega), Int.le_trans (Int.ediv_le_self _ h0) h1⟩
  · omega
theorem and_range {a b : Nat} (ha : a ≤ 65535) : a &&& b ≤ 65535 := Nat.le_trans Nat.and_le_left ha
theorem or_range {a b : Nat} (ha : a ≤ 65535) (hb : b ≤ 65535) : a ||| b ≤ 65535 := by
  have := Nat.or_lt_two_pow (n := 16) (x := a) (y := b) (by omega) (by omega); omega
theorem xor_range {a b : Nat} (ha : a ≤ 65535) (hb : b ≤ 65535) : a ^^^ b ≤ 65535 := by
  have := Nat.xor_lt_two_pow (n := 16) (x := a) (y := b) (by omega) (by omega); omega
theorem rng_ite {c : Prop} [Decidable c] {a b : Int} (ha : 0 ≤ a ∧ a ≤ 65535) (hb : 0 ≤ b ∧ b ≤ 65535) : 0 ≤ (if c then a else b) ∧ (if c then a else b) ≤ 65535 := by
  by_cases h : c
  · rw [if_pos h]; exact ha
  · rw [if_neg h]; exact hb
theorem opS_range {o : Int} {l : List Int} (h : Wd l) : 0 ≤ opS o l ∧ opS o l ≤ 65535 := by
  have h0 := ix_range h 0
  have h1 := ix_range h 1
  have h2 := ix_range h 2
  have n0 : (ix l 0).toNat ≤ 65535 := by omega
  have n1 : (ix l 1).toNat ≤ 65535 := by omega
  unfold opS
  refine rng_ite (tr_range _) (rng_ite (by omega) (rng_ite (by omega) (rng_ite ?_ (rng_ite (by omega) (rng_ite (by omega) (rng_ite (by omega) (rng_ite (shlM_range _ _) (rng_ite (shrM_range _ _) (rng_ite ?_ (rng_ite ?_ (rng_ite ?_ (rng_ite (tr_range _) (rng_ite (tr_range _) (rng_ite (tr_range _) (rng_ite (tr_range _) (rng_ite (tr_range _) (rng_ite (tr_range _) (rng_ite (tr_range _) (rng_ite (rng_ite h2 h1) (tr_range _))))))))))))))))))))
  · have := sumN_le 16 (wordN (ix l 0)); unfold onesM; omega
  · have := and_range (b := (ix l 1).toNat) n0; omega
  · have := or_range n0 n1; omega
  · have := xor_range n0 n1; omega
theorem flt_one {l : Nat} {n : Int} {s : ByteArray} {k : Nat} (h : fltS ⟨l, 1, n, s, k⟩ = 0) : 0 ≤ n ∧ n ≤ 65535 := by
  unfold fltS at h
  split at h
  · omega
  · rename_i hb
    simp [badA, greatS] at hb
    omega
theorem ev_range (env : Env) (e : Ex) (h : Ok e) : 0 ≤ ev env e ∧ ev env e ≤ 65535 := by
  induction e using Ex.ind with
  | h o n s ks ih =>
    rw [ok_mk] at h
    rw [ev_mk]
    have hw : Wd (evs env ks) := fun v hv => by
      rw [evs_map] at hv
      obtain ⟨a, ha, rfl⟩ := List.mem_map.1 hv
      exact ih a ha (h.2 a ha)
    unfold valS
    split
    · rename_i ho; subst ho; exact flt_one h.1
    · split
      · exact fnd_range _ _
      · split
        · exact elS_range _ _ _
        · split
          · exact sumK_range _ _ _
          · exact opS_range hw
theorem evs_range (env : Env) (ks : List Ex) (h : ∀ a ∈ ks, Ok a) : Wd (evs env ks) := fun v hv => by
  rw [evs_map] at hv
  obtain ⟨a, ha, rfl⟩ := List.mem_map.1 hv
  exact ev_range env a (h a ha)
end Go.Proofs.YtdiackcefojfkaaGreatDoor.ExM
