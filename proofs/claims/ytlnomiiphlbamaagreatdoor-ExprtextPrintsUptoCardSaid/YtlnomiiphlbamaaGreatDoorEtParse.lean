/-
  Parsing with no Go in sight: the parser's functions on lists of tokens, with fuel; what is printed is parsed; what does not matter.
-/
import Derived.Test.YtlnomiiphlbamaaGreatDoorEtMath
namespace Go.Proofs.YtlnomiiphlbamaaGreatDoor.EtM
open Go Go.Proofs.YtlnomiiphlbamaaGreatDoor.NumM Go.Proofs.YtlnomiiphlbamaaGreatDoor.LexM Go.Proofs.YtlnomiiphlbamaaGreatDoor.ExM

/-- Level, operator and order of a binary operator by its mark; level 0 for others. -/
def bT (x : List UInt8) : Int × Int × Bool :=
  if x = [61, 62] then (2, 21, false) else if x = [124, 124] then (3, 20, false) else if x = [38, 38] then (4, 19, false) else if x = [124] then (5, 11, false) else if x = [94] then (6, 12, false)
  else if x = [38] then (7, 10, false) else if x = [61, 61] then (8, 15, false) else if x = [33, 61] then (8, 16, false) else if x = [60] then (9, 17, false) else if x = [60, 61] then (9, 18, false)
  else if x = [62] then (9, 17, true) else if x = [62, 61] then (9, 18, true) else if x = [60, 60] then (10, 13, false) else if x = [62, 62] then (10, 14, false) else if x = [43] then (11, 7, false)
  else if x = [45] then (11, 8, false) else if x = [42] then (12, 9, false) else (0, 0, false)
/-- The operator of a prefix; 0 for others. -/
def pT (x : List UInt8) : Int := if x = [33] then 4 else if x = [126] then 5 else if x = [45] then 6 else 0
inductive Jb where
  | ch
  | op (lv : Int)
  | lp (lv rc : Int) (e : Ex)
  | jn (k o : Int) (sw : Bool) (e : Ex)
  | rg (e : Ex)
  | rl (acc : List Ex)
  | pf
  | pr
  | nm (s : List UInt8)
inductive Rs where
  | ok (e : Ex) (r : List Tk)
  | bad (err : Int) (k : Nat)
  | out
def Rs.bind : Rs → (Ex → List Tk → Rs) → Rs
  | .ok e r, g => g e r
  | .bad x k, _ => .bad x k
  | .out, _ => .out
def hdT (l : List Tk) : Tk := l.headD zTk
def tx (l : List Tk) : List UInt8 := (hdT l).text
def kd (l : List Tk) : Int := (hdT l).kind
def nmr (l : List Tk) : Int := (hdT l).n
def flt (l : List Tk) : Rs := .bad (if l.length = 0 then 6 else 5) l.length
def need (m : List UInt8) (l : List Tk) (g : List Tk → Rs) : Rs := if tx l = m then g l.tail else flt l
def nameR (l : List Tk) (g : List UInt8 → List Tk → Rs) : Rs := if kd l = 1 then g (tx l) l.tail else flt l
def numR (l : List Tk) (g : Int → List Tk → Rs) : Rs := if kd l = 3 then (if 65535 < nmr l then .bad 3 l.length else g (nmr l) l.tail) else flt l
abbrev mb (l : List UInt8) : ByteArray := ⟨l.toArray⟩
def nod (o : Int) (ks : List Ex) : Ex := .mk o 0 ⟨#[]⟩ ks
def elN (s : List UInt8) (n : Int) : List UInt8 := s ++ 91 :: (Lib.itoa n ++ [93])
def run : Nat → Jb → List Tk → Rs
  | 0, _, _ => .out
  | f + 1, .ch, l => (run f (.op 2) l).bind fun c r => if tx r = [63] then (run f .ch r.tail).bind fun a r2 => need [58] r2 fun r3 => (run f .ch r3).bind fun b r4 => .ok (nod 22 [c, a, b]) r4 else .ok c r
  | f + 1, .op lv, l => (run f .pf l).bind fun e r => run f (.lp lv 13 e) r
  | f + 1, .lp lv rc e, l =>
    if (bT (tx l)).1 ≠ 0 ∧ lv ≤ (bT (tx l)).1 ∧ (bT (tx l)).1 ≤ rc then (run f (.jn (bT (tx l)).1 (bT (tx l)).2.1 (bT (tx l)).2.2 e) l.tail).bind fun e2 r => run f (.lp lv (bT (tx l)).1 e2) r
    else if lv ≤ 9 ∧ tx l = insW then (run f (.rg e) l.tail).bind fun e2 r => run f (.lp lv 9 e2) r
    else .ok e l
  | f + 1, .jn k o sw e, l => (run f (.op (if k = 2 then 2 else k + 1)) l).bind fun b r => .ok (nod o (if sw then [b, e] else [e, b])) r
  | f + 1, .rg e, l => need [123] l fun r => run f (.rl [e]) r
  | f + 1, .rl acc, l => (run f .ch l).bind fun a r => need [46, 46] r fun r2 => (run f .ch r2).bind fun b r3 => if tx r3 = [44] then run f (.rl (acc ++ [a, b])) r3.tail else need [125] r3 fun r4 => .ok (nod 23 (acc ++ [a, b])) r4
  | f + 1, .pf, l => if pT (tx l) ≠ 0 then (run f .pf l.tail).bind fun a r => .ok (nod (pT (tx l)) [a]) r else run f .pr l
  | f + 1, .pr, l => if kd l = 3 then numR l fun n r => .ok (.mk 1 n ⟨#[]⟩ []) r else if kd l = 1 then run f (.nm (tx l)) l.tail else need [40] l fun r => (run f .ch r).bind fun e r2 => need [41] r2 fun r3 => .ok e r3
  | f + 1, .nm s, l =>
    if s = sumW ∧ tx l = [40] then nameR l.tail fun m r => need [41] r fun r2 => .ok (.mk 24 0 (mb m) []) r2
    else if s = onesW ∧ tx l = [40] then (run f .ch l.tail).bind fun a r => need [41] r fun r2 => .ok (nod 25 [a]) r2
    else if tx l = [91] then (run f .ch l.tail).bind fun a r => need [93] r fun r2 => .ok (.mk 3 0 (mb s) [a]) r2
    else if tx l = [64] then numR l.tail fun n r => .ok (.mk 2 0 (mb (elN s n)) []) r
    else .ok (.mk 2 0 (mb s) []) l

/-! More fuel does not matter; how much is enough -/
theorem bind_ne {x : Rs} {g : Ex → List Tk → Rs} (h : x.bind g ≠ .out) : x ≠ .out := fun e => h (by rw [e]; rfl)
theorem bind_mono {x y : Rs} {g k : Ex → List Tk → Rs} (h : x.bind g ≠ .out) (hx : x ≠ .out → y = x) (hg : ∀ e r, g e r ≠ .out → k e r = g e r) : y.bind k = x.bind g := by
  rw [hx (bind_ne h)]
  cases x with
  | ok e r => exact hg e r h
  | bad _ _ => rfl
  | out => rfl
theorem need_mono {m : List UInt8} {l : List Tk} {g k : List Tk → Rs} (h : need m l g ≠ .out) (hg : ∀ r, g r ≠ .out → k r = g r) : need m l k = need m l g := by
  unfold need at h ⊢
  split
  · rename_i c; rw [if_pos c] at h; exact hg _ h
  · rfl
theorem run_mono : ∀ (f : Nat) (j : Jb) (l : List Tk), run f j l ≠ .out → run (f + 1) j l = run f j l := by
  intro f
  induction f with
  | zero => intro j l h; exact absurd rfl h
  | succ f ih =>
    intro j l h
    cases j with
    | ch =>
      rw [run] at h
      conv => lhs; rw [run]
      conv => rhs; rw [run]
      refine bind_mono h (ih _ _) fun c r hg => ?_
      split
      · rename_i q
        rw [if_pos q] at hg
        exact bind_mono hg (ih _ _) fun a r2 h2 => need_mono h2 fun r3 h3 => bind_mono h3 (ih _ _) fun _ _ _ => rfl
      · rfl
    | op lv =>
      rw [run] at h
      conv => lhs; rw [run]
      conv => rhs; rw [run]
      exact bind_mono h (ih _ _) fun e r h2 => ih _ _ h2
    | lp lv rc e =>
      rw [run] at h
      conv => lhs; rw [run]
      conv => rhs; rw [run]
      split
      · rename_i q
        rw [if_pos q] at h
        exact bind_mono h (ih _ _) fun e2 r h2 => ih _ _ h2
      · rename_i q
        rw [if_neg q] at h
        split
        · rename_i q2
          rw [if_pos q2] at h
          exact bind_mono h (ih _ _) fun e2 r h2 => ih _ _ h2
        · rfl
    | jn k o sw e =>
      rw [run] at h
      conv => lhs; rw [run]
      conv => rhs; rw [run]
      exact bind_mono h (ih _ _) fun _ _ _ => rfl
    | rg e =>
      rw [run] at h
      conv => lhs; rw [run]
      conv => rhs; rw [run]
      exact need_mono h fun r h2 => ih _ _ h2
    | rl acc =>
      rw [run] at h
      conv => lhs; rw [run]
      conv => rhs; rw [run]
      refine bind_mono h (ih _ _) fun a r h2 => need_mono h2 fun r2 h3 => bind_mono h3 (ih _ _) fun b r3 h4 => ?_
      split
      · rename_i q
        rw [if_pos q] at h4
        exact ih _ _ h4
      · rfl
    | pf =>
      rw [run] at h
      conv => lhs; rw [run]
      conv => rhs; rw [run]
      split
      · rename_i q
        rw [if_pos q] at h
        exact bind_mono h (ih _ _) fun _ _ _ => rfl
      · rename_i q
        rw [if_neg q] at h
        exact ih _ _ h
    | pr =>
      rw [run] at h
      conv => lhs; rw [run]
      conv => rhs; rw [run]
      split
      · rfl
      · rename_i q
        rw [if_neg q] at h
        split
        · rename_i q2
          rw [if_pos q2] at h
          exact ih _ _ h
        · rename_i q2
          rw [if_neg q2] at h
          exact need_mono h fun r h2 => bind_mono h2 (ih _ _) fun _ _ _ => rfl
    | nm s =>
      rw [run] at h
      conv => lhs; rw [run]
      conv => rhs; rw [run]
      split
      · rfl
      · rename_i q
        rw [if_neg q] at h
        split
        · rename_i q2
          rw [if_pos q2] at h
          exact bind_mono h (ih _ _) fun _ _ _ => rfl
        · rename_i q2
          rw [if_neg q2] at h
          split
          · rename_i q3
            rw [if_pos q3] at h
            exact bind_mono h (ih _ _) fun _ _ _ => rfl
          · rfl
theorem run_up {f g : Nat} {j : Jb} {l : List Tk} (h : run f j l ≠ .out) (hg : f ≤ g) : run g j l = run f j l := by
  obtain ⟨d, rfl⟩ : ∃ d, g = f + d := ⟨g - f, by omega⟩
  induction d with
  | zero => rfl
  | succ d ih => rw [← Nat.add_assoc, run_mono _ _ _ (by rw [ih (by omega)]; exact h), ih (by omega)]
/-- The rest is no longer than the list. -/
theorem bind_ok {x : Rs} {g : Ex → List Tk → Rs} {e : Ex} {r : List Tk} (h : x.bind g = .ok e r) : ∃ e1 r1, x = .ok e1 r1 ∧ g e1 r1 = .ok e r := by
  cases x with
  | ok e1 r1 => exact ⟨e1, r1, rfl, h⟩
  | bad _ _ => cases h
  | out => cases h
theorem need_ok {m : List UInt8} {l : List Tk} {g : List Tk → Rs} {e : Ex} {r : List Tk} (h : need m l g = .ok e r) : tx l = m ∧ g l.tail = .ok e r := by
  unfold need at h
  split at h
  · exact ⟨by assumption, h⟩
  · cases h
theorem nameR_ok {l : List Tk} {g : List UInt8 → List Tk → Rs} {e : Ex} {r : List Tk} (h : nameR l g = .ok e r) : kd l = 1 ∧ g (tx l) l.tail = .ok e r := by
  unfold nameR at h
  split at h
  · exact ⟨by assumption, h⟩
  · cases h
theorem numR_ok {l : List Tk} {g : Int → List Tk → Rs} {e : Ex} {r : List Tk} (h : numR l g = .ok e r) : kd l = 3 ∧ nmr l ≤ 65535 ∧ g (nmr l) l.tail = .ok e r := by
  unfold numR at h
  split at h
  · split at h
    · cases h
    · exact ⟨by assumption, by omega, h⟩
  · cases h
theorem tl_len (l : List Tk) : l.tail.length = l.length - 1 := List.length_tail
theorem tx_nil : tx [] = [] := rfl
theorem tx_pos {l : List Tk} {m : List UInt8} (h : tx l = m) (hm : m ≠ []) : 0 < l.length := by
  cases l with
  | nil => exact absurd h.symm hm
  | cons _ _ => simp
theorem kd_pos {l : List Tk} {k : Int} (h : kd l = k) (hk : k ≠ 0) : 0 < l.length := by
  cases l with
  | nil => exact absurd h.symm hk
  | cons _ _ => simp
theorem bT_pos {l : List Tk} (h : (bT (tx l)).1 ≠ 0) : 0 < l.length := by
  cases l with
  | nil => exact absurd rfl h
  | cons _ _ => simp
theorem pT_pos {l : List Tk} (h : pT (tx l) ≠ 0) : 0 < l.length := by
  cases l with
  | nil => exact absurd rfl h
  | cons _ _ => simp
/-- What a job takes at least. -/
def tk1 : Jb → Nat | .lp _ _ _ => 0 | .nm _ => 0 | _ => 1
theorem run_len : ∀ (f : Nat) (j : Jb) (l : List Tk) (e : Ex) (r : List Tk), run f j l = .ok e r → r.length + tk1 j ≤ l.length := by
  intro f
  induction f with
  | zero => intro j l e r h; cases h
  | succ f ih =>
    intro j l e r h
    cases j with
    | ch =>
      rw [run] at h
      obtain ⟨c, r1, h1, h⟩ := bind_ok h
      have k1 := ih _ _ _ _ h1
      split at h
      · obtain ⟨a, r2, h2, h⟩ := bind_ok h
        obtain ⟨_, h⟩ := need_ok h
        obtain ⟨b, r3, h3, h⟩ := bind_ok h
        have k2 := ih _ _ _ _ h2
        have k3 := ih _ _ _ _ h3
        cases h
        simp only [tk1, tl_len] at *; omega
      · cases h
        simp only [tk1] at *; omega
    | op lv =>
      rw [run] at h
      obtain ⟨c, r1, h1, h⟩ := bind_ok h
      have k1 := ih _ _ _ _ h1
      have k2 := ih _ _ _ _ h
      simp only [tk1] at *; omega
    | lp lv rc e0 =>
      rw [run] at h
      split at h
      · obtain ⟨c, r1, h1, h⟩ := bind_ok h
        have k1 := ih _ _ _ _ h1
        have k2 := ih _ _ _ _ h
        simp only [tk1, tl_len] at *; omega
      · split at h
        · obtain ⟨c, r1, h1, h⟩ := bind_ok h
          have k1 := ih _ _ _ _ h1
          have k2 := ih _ _ _ _ h
          simp only [tk1, tl_len] at *; omega
        · cases h
          simp only [tk1] at *; omega
    | jn k o sw e0 =>
      rw [run] at h
      obtain ⟨c, r1, h1, h⟩ := bind_ok h
      have k1 := ih _ _ _ _ h1
      cases h
      simp only [tk1] at *; omega
    | rg e0 =>
      rw [run] at h
      obtain ⟨q, h⟩ := need_ok h
      have k1 := ih _ _ _ _ h
      have := tx_pos q (by decide)
      simp only [tk1, tl_len] at *; omega
    | rl acc =>
      rw [run] at h
      obtain ⟨a, r1, h1, h⟩ := bind_ok h
      obtain ⟨_, h⟩ := need_ok h
      obtain ⟨b, r2, h2, h⟩ := bind_ok h
      have k1 := ih _ _ _ _ h1
      have k2 := ih _ _ _ _ h2
      split at h
      · have k3 := ih _ _ _ _ h
        simp only [tk1, tl_len] at *; omega
      · obtain ⟨_, h⟩ := need_ok h
        cases h
        simp only [tk1, tl_len] at *; omega
    | pf =>
      rw [run] at h
      split at h
      · rename_i q
        obtain ⟨c, r1, h1, h⟩ := bind_ok h
        have k1 := ih _ _ _ _ h1
        have := pT_pos q
        cases h
        simp only [tk1, tl_len] at *; omega
      · have k1 := ih _ _ _ _ h
        simp only [tk1] at *; omega
    | pr =>
      rw [run] at h
      split at h
      · obtain ⟨q, _, h⟩ := numR_ok h
        have := kd_pos q (by decide)
        cases h
        simp only [tk1, tl_len] at *; omega
      · split at h
        · rename_i q
          have := kd_pos q (by decide)
          have k1 := ih _ _ _ _ h
          simp only [tk1, tl_len] at *; omega
        · obtain ⟨q, h⟩ := need_ok h
          obtain ⟨c, r1, h1, h⟩ := bind_ok h
          obtain ⟨_, h⟩ := need_ok h
          have := tx_pos q (by decide)
          have k1 := ih _ _ _ _ h1
          cases h
          simp only [tk1, tl_len] at *; omega
    | nm s =>
      rw [run] at h
      split at h
      · obtain ⟨_, h⟩ := nameR_ok h
        obtain ⟨_, h⟩ := need_ok h
        cases h
        simp only [tk1, tl_len] at *; omega
      · split at h
        · obtain ⟨c, r1, h1, h⟩ := bind_ok h
          obtain ⟨_, h⟩ := need_ok h
          have k1 := ih _ _ _ _ h1
          cases h
          simp only [tk1, tl_len] at *; omega
        · split at h
          · obtain ⟨c, r1, h1, h⟩ := bind_ok h
            obtain ⟨_, h⟩ := need_ok h
            have k1 := ih _ _ _ _ h1
            cases h
            simp only [tk1, tl_len] at *; omega
          · split at h
            · obtain ⟨_, _, h⟩ := numR_ok h
              cases h
              simp only [tk1, tl_len] at *; omega
            · cases h
              simp only [tk1] at *; omega
/-- How much fuel is enough. -/
def fuelJ (n : Nat) : Jb → Nat
  | .ch => 8 * n + 7 | .op _ => 8 * n + 6 | .pf => 8 * n + 5 | .pr => 8 * n + 4 | .nm _ => 8 * n + 3 | .lp _ _ _ => 8 * n + 2 | .jn _ _ _ _ => 8 * n + 7 | .rg _ => 8 * n + 1 | .rl _ => 8 * n + 8
theorem bind_tot {x : Rs} {g : Ex → List Tk → Rs} (h : x ≠ .out) (hg : ∀ e r, x = .ok e r → g e r ≠ .out) : x.bind g ≠ .out := by
  cases x with
  | ok e r => exact hg e r rfl
  | bad _ _ => intro e; cases e
  | out => exact absurd rfl h
theorem flt_ne (l : List Tk) : flt l ≠ .out := by unfold flt; intro e; cases e
theorem need_tot {m : List UInt8} {l : List Tk} {g : List Tk → Rs} (hg : tx l = m → g l.tail ≠ .out) : need m l g ≠ .out := by
  unfold need
  split
  · exact hg (by assumption)
  · exact flt_ne l
theorem nameR_tot {l : List Tk} {g : List UInt8 → List Tk → Rs} (hg : g (tx l) l.tail ≠ .out) : nameR l g ≠ .out := by
  unfold nameR
  split
  · exact hg
  · exact flt_ne l
theorem numR_tot {l : List Tk} {g : Int → List Tk → Rs} (hg : g (nmr l) l.tail ≠ .out) : numR l g ≠ .out := by
  unfold numR
  split
  · split
    · intro e; cases e
    · exact hg
  · exact flt_ne l
theorem ok_ne {e : Ex} {r : List Tk} : Rs.ok e r ≠ .out := fun h => by cases h
theorem run_tot : ∀ (f : Nat) (j : Jb) (l : List Tk), fuelJ l.length j ≤ f → run f j l ≠ .out := by
  intro f
  induction f with
  | zero => intro j l h; cases j <;> simp only [fuelJ] at h <;> omega
  | succ f ih =>
    intro j l h
    cases j with
    | ch =>
      simp only [fuelJ] at h
      rw [run]
      refine bind_tot (ih _ _ (by simp only [fuelJ]; omega)) fun c r h1 => ?_
      have k1 := run_len _ _ _ _ _ h1
      simp only [tk1] at k1
      split
      · refine bind_tot (ih _ _ (by simp only [fuelJ, tl_len]; omega)) fun a r2 h2 => need_tot fun q2 => bind_tot (ih _ _ ?_) fun b r3 h3 => ok_ne
        have k2 := run_len _ _ _ _ _ h2
        simp only [fuelJ, tk1, tl_len] at *; omega
      · exact ok_ne
    | op lv =>
      simp only [fuelJ] at h
      rw [run]
      refine bind_tot (ih _ _ (by simp only [fuelJ]; omega)) fun c r h1 => ih _ _ ?_
      have k1 := run_len _ _ _ _ _ h1
      simp only [fuelJ, tk1] at *; omega
    | lp lv rc e0 =>
      simp only [fuelJ] at h
      rw [run]
      split
      · rename_i q
        have := bT_pos q.1
        refine bind_tot (ih _ _ (by simp only [fuelJ, tl_len]; omega)) fun c r h1 => ih _ _ ?_
        have k1 := run_len _ _ _ _ _ h1
        simp only [fuelJ, tk1, tl_len] at *; omega
      · split
        · rename_i q
          have := tx_pos q.2 (by decide)
          refine bind_tot (ih _ _ (by simp only [fuelJ, tl_len]; omega)) fun c r h1 => ih _ _ ?_
          have k1 := run_len _ _ _ _ _ h1
          simp only [fuelJ, tk1, tl_len] at *; omega
        · exact ok_ne
    | jn k o sw e0 =>
      simp only [fuelJ] at h
      rw [run]
      exact bind_tot (ih _ _ (by simp only [fuelJ]; omega)) fun c r h1 => ok_ne
    | rg e0 =>
      simp only [fuelJ] at h
      rw [run]
      refine need_tot fun q => ih _ _ ?_
      have := tx_pos q (by decide)
      simp only [fuelJ, tl_len]; omega
    | rl acc =>
      simp only [fuelJ] at h
      rw [run]
      refine bind_tot (ih _ _ (by simp only [fuelJ]; omega)) fun a r h1 => need_tot fun q => bind_tot (ih _ _ ?_) fun b r3 h3 => ?_
      · have k1 := run_len _ _ _ _ _ h1
        simp only [fuelJ, tk1, tl_len] at *; omega
      · split
        · refine ih _ _ ?_
          have k1 := run_len _ _ _ _ _ h1
          have k3 := run_len _ _ _ _ _ h3
          simp only [fuelJ, tk1, tl_len] at *; omega
        · exact need_tot fun _ => ok_ne
    | pf =>
      simp only [fuelJ] at h
      rw [run]
      split
      · rename_i q
        have := pT_pos q
        exact bind_tot (ih _ _ (by simp only [fuelJ, tl_len]; omega)) fun c r h1 => ok_ne
      · exact ih _ _ (by simp only [fuelJ]; omega)
    | pr =>
      simp only [fuelJ] at h
      rw [run]
      split
      · exact numR_tot ok_ne
      · split
        · rename_i q
          have := kd_pos q (by decide)
          exact ih _ _ (by simp only [fuelJ, tl_len]; omega)
        · refine need_tot fun q => bind_tot (ih _ _ ?_) fun c r h1 => need_tot fun _ => ok_ne
          have := tx_pos q (by decide)
          simp only [fuelJ, tl_len]; omega
    | nm s =>
      simp only [fuelJ] at h
      rw [run]
      split
      · exact nameR_tot (need_tot fun _ => ok_ne)
      · split
        · rename_i q
          have := tx_pos q.2 (by decide)
          exact bind_tot (ih _ _ (by simp only [fuelJ, tl_len]; omega)) fun c r h1 => need_tot fun _ => ok_ne
        · split
          · rename_i q
            have := tx_pos q (by decide)
            exact bind_tot (ih _ _ (by simp only [fuelJ, tl_len]; omega)) fun c r h1 => need_tot fun _ => ok_ne
          · split
            · exact numR_tot ok_ne
            · exact ok_ne
/-- The job's result. -/
def res (j : Jb) (l : List Tk) : Rs := run (fuelJ l.length j) j l
theorem res_ne (j : Jb) (l : List Tk) : res j l ≠ .out := run_tot _ _ _ (Nat.le_refl _)
theorem res_of {f : Nat} {j : Jb} {l : List Tk} (h : run f j l ≠ .out) : run f j l = res j l := by
  rcases Nat.le_total f (fuelJ l.length j) with g | g
  · exact (run_up h g).symm
  · exact run_up (res_ne j l) g
/-- Enough fuel. -/
theorem run_res {f : Nat} {j : Jb} {l : List Tk} (h : fuelJ l.length j ≤ f) : run f j l = res j l := run_up (res_ne j l) h
end Go.Proofs.YtlnomiiphlbamaaGreatDoor.EtM
