/-
  The reference's numbers of any size: slices of digits; what 'at', 'trim' and 'order' return.
-/
import Derived.Test.YtjighmmfaedgbaaDoorRatDig
import Derived.Test.YtjighmmfaedgbaaDoorRows
import Derived.WalkKit
import Derived.Outline
import Derived.WalkSpells
import Derived.Deep.DeepFit
import Derived.Lib.Hide
import Derived.LoopTactic
import Derived.Deep.QuietTactic
import Derived.BigQuiet
import Derived.Laws.OwnMore
import Derived.Deep.OwnRows
import Derived.Deep.Draws
import Derived.IntWalk
import Derived.Laws.AppendOwn
namespace Go.Proofs.YtjighmmfaedgbaaDoor.RatW
open Go Go.RowKit Go.Proofs.YtjighmmfaedgbaaDoor.RatM

theorem ret1 {k : IntKind} {a b : Int} (h : a = b) : Ending.returned (.int k a) = .returned (.int k b) := by rw [h]
theorem val1 {k : IntKind} {a b : Int} (h : a = b) : Value.int k a = .int k b := by rw [h]
theorem retb {a b : Bool} (h : a = b) : Ending.returned (.bool a) = .returned (.bool b) := by rw [h]

/-- The value is a slice of these digits, below block B. -/
def Rd (w : World) (B : Nat) (v : Value) (ds : List Nat) : Prop :=
  ∃ A c, v = .slice A ds.length c ∧ ds.length ≤ c ∧ (0 < ds.length → ∃ g, A = some ⟨g, 0, none⟩ ∧ g < B ∧ ∀ j, j < ds.length → w.cell? ⟨g, j, none⟩ = some (.int .i64 (ix ds j)))
theorem Rd.nil (w : World) (B : Nat) : Rd w B (.slice none 0 0) [] := ⟨none, 0, rfl, Nat.le_refl _, fun h => absurd h (by simp)⟩
theorem Rd.keep {w w' : World} {B : Nat} {v : Value} {ds : List Nat} (h : Rd w B v ds) (hk : ∀ p : Addr, p.block < B → w'.cell? p = w.cell? p) : Rd w' B v ds := by
  obtain ⟨A, c, hv, hc, hx⟩ := h
  refine ⟨A, c, hv, hc, fun h0 => ?_⟩
  obtain ⟨g, hA, hg, hcell⟩ := hx h0
  exact ⟨g, hA, hg, fun j hj => by rw [hk _ hg]; exact hcell j hj⟩
theorem Rd.more {w : World} {B B' : Nat} {v : Value} {ds : List Nat} (h : Rd w B v ds) (hB : B ≤ B') : Rd w B' v ds := by
  obtain ⟨A, c, hv, hc, hx⟩ := h
  refine ⟨A, c, hv, hc, fun h0 => ?_⟩
  obtain ⟨g, hA, hg, hcell⟩ := hx h0
  exact ⟨g, hA, by omega, hcell⟩
theorem Rd.below {w w' : World} {B C : Nat} {v : Value} {ds : List Nat} (h : Rd w B v ds) (hb : Below C w w') (hB : B ≤ C) : Rd w' B v ds := h.keep fun _ hp => hb.cell (by omega)
theorem Rd.take {w : World} {B : Nat} {A : Option Addr} {c k : Nat} {ds : List Nat} (h : Rd w B (.slice A ds.length c) ds) (hk : k ≤ ds.length) : Rd w B (.slice A k c) (ds.take k) := by
  obtain ⟨A', c', hv, hc, hx⟩ := h
  have e : A = A' ∧ c = c' := by simpa using hv
  obtain ⟨rfl, rfl⟩ := e
  have hl : (ds.take k).length = k := by simp; omega
  refine ⟨A, c, by rw [hl], by omega, fun h0 => ?_⟩
  rw [hl] at h0 ⊢
  obtain ⟨g, hA, hg, hcell⟩ := hx (by omega)
  refine ⟨g, hA, hg, fun j hj => ?_⟩
  rw [hcell j (by omega), ix_take hj]
theorem Rd.of_row {w : World} {g n c : Nat} {t : TypeId} {f : Nat → Value} {ds : List Nat} (h : w.rowIs g t c f) (hl : ds.length = n) (hc : n ≤ c) (e : ∀ j, j < n → f j = .int .i64 (ix ds j)) {B : Nat} (hB : g < B) : Rd w B (.slice (some ⟨g, 0, none⟩) n c) ds := by
  subst hl
  refine ⟨_, _, rfl, hc, fun _ => ⟨g, rfl, hB, fun j hj => ?_⟩⟩
  rw [h.cell (by omega), e j hj]
def dv (d : Nat) : Value := .int .i64 d
theorem Rd.of_own {w : World} {base : Nat} {v : Value} {t : TypeId} {n : Nat} {ds : List Nat} (h : w.ownsRow base t 1 v n (ds.map dv)) (B : Nat) (hB : w.heap.size ≤ B) : Rd w B v ds := by
  obtain ⟨hl, h2⟩ := h
  rw [List.length_map, Nat.mul_one] at hl
  rcases h2 with ⟨rfl, rfl⟩ | ⟨g, cap, cur, rfl, _, hh, hnc, _, hcur, htake⟩
  · have : ds = [] := List.eq_nil_of_length_eq_zero hl
    subst this
    exact Rd.nil w B
  · subst hl
    refine ⟨_, _, rfl, hnc, fun _ => ⟨g, rfl, ?_, fun j hj => ?_⟩⟩
    · obtain ⟨hlt, _⟩ := Array.getElem?_eq_some_iff.1 hh
      omega
    · have hc : cur[j]? = some (dv (ix ds j)) := by
        have : (cur.toList.take (ds.length * 1))[j]? = (ds.map dv)[j]? := by rw [htake]
        rw [List.getElem?_take, if_pos (by omega), List.getElem?_map, ix_get hj] at this
        rw [← Array.getElem?_toList, this]
        rfl
      simp [World.cell?, hh, hc, dv]

/-! ### at -/
theorem at_any (v : Value) (ds : List Nat) (B i : Nat) (w : World) (h : Rd w B v ds) (hl : ds.length ≤ 1000) (hi : i ≤ 1000) :
    Calls Tryd.prog 81 #[v, .int .i64 i] w fun e w' => e = .returned (.int .i64 (ix ds i)) ∧ w = w' := by
  obtain ⟨A, c, rfl, hc, hx⟩ := h
  by_cases hlt : i < ds.length
  · obtain ⟨g, rfl, hg, hcell⟩ := hx (by omega)
    have hcell1 := hcell i hlt
    clear hx hcell
    go_enter Tryd.func81, Tryd.ntmps81
    go_wp2
    go_ret
    exact ⟨rfl, rfl⟩
  · have e : ix ds i = 0 := ix_out (by omega)
    rw [e]
    clear hx e
    go_enter Tryd.func81, Tryd.ntmps81
    go_wp2
    go_ret
    exact ⟨rfl, rfl⟩

/-! ### trim -/
theorem own_any (A : Option Addr) (n c m d : Nat) : (Value.slice A n c).ownBlock = (Value.slice A m d).ownBlock := by cases A <;> rfl
theorem Rd.setFar {w : World} {B : Nat} {v : Value} {ds : List Nat} (h : Rd w B v ds) {G : Nat} (hG : v.ownBlock ≠ some G) (i : Nat) (x : Value) : Rd (w.setCell ⟨G, i, none⟩ x) B v ds := by
  obtain ⟨A, c, rfl, hc, hx⟩ := h
  refine ⟨A, c, rfl, hc, fun h0 => ?_⟩
  obtain ⟨g, rfl, hg, hcell⟩ := hx h0
  refine ⟨g, rfl, hg, fun j hj => ?_⟩
  rw [World.cell?_setCell_other w _ _ _ (fun e => hG (by have : G = g := congrArg Addr.block e; rw [this]; rfl))]
  exact hcell j hj
def tTrimS (w : World) (B : Nat) (u : Value) (ds : List Nat) (e : Ending) (w' : World) : Prop := ∃ v, e = .returned v ∧ Rd w B v ds ∧ w = w' ∧ v.ownBlock = u.ownBlock
def tTrim (w : World) (B : Nat) (ds : List Nat) (e : Ending) (w' : World) : Prop := ∃ v, e = .returned v ∧ Rd w B v ds ∧ w = w'
set_option maxHeartbeats 1000000 in
theorem trimS_any (v : Value) (ds : List Nat) (B : Nat) (w : World) (h : Rd w B v ds) (hl : ds.length ≤ 1000) :
    Calls Tryd.prog 65 #[v] w (tTrimS w B v (trimL ds)) := by
  have hr := h
  obtain ⟨A, c, rfl, hc, hx⟩ := h
  have HR := Lib.hid hr
  have HX := Lib.hid hx
  clear hr hx
  go_enter Tryd.func65, Tryd.ntmps65
  go_wp2
  go_loop [0] (fun a => ∃ k : Nat, k ≤ ds.length ∧ a = .slice A k c ∧ trimL (ds.take k) = trimL ds) (fun a => match a with | .slice _ n _ => n | _ => 0)
  case atStart => exact ⟨ds.length, Nat.le_refl _, rfl, by rw [List.take_length]⟩
  case round =>
    obtain ⟨k, hk, rfl, ht⟩ := hrel
    have HTK := Lib.hid ht
    clear ht
    rcases k with _ | j
    · go_wp2
      go_ret
      exact ⟨_, rfl, by rw [← HTK.out]; exact HR.out.take (Nat.zero_le _), rfl, own_any _ _ _ _ _⟩
    · obtain ⟨g, hA, hg, hcell⟩ := HX.out (by omega)
      subst hA
      have hcell1 := hcell j (by omega)
      clear hcell
      by_cases hz : ix ds j = 0
      · have HZ := Lib.hid (trim_take (by omega) hz)
        rw [hz] at hcell1
        clear hz
        go_wp2
        go_round
        case rel => exact ⟨j, by omega, by go_num, by rw [← HZ.out]; exact HTK.out⟩
        case measure => simp
      · have hz' : ((ix ds j : Int) == 0) = false := by simpa using hz
        have HZ := Lib.hid hz
        clear hz
        go_wp2
        go_ret
        refine ⟨_, rfl, ?_, rfl, own_any _ _ _ _ _⟩
        have e : trimL (ds.take (j + 1)) = ds.take (j + 1) := trim_last (.inr (by
          have : (ds.take (j + 1)).length = j + 1 := by simp; omega
          rw [this]
          show ix (ds.take (j + 1)) j ≠ 0
          rw [ix_take (by omega)]
          exact HZ.out))
        rw [← HTK.out, e]
        exact HR.out.take hk
theorem trim_any (v : Value) (ds : List Nat) (B : Nat) (w : World) (h : Rd w B v ds) (hl : ds.length ≤ 1000) :
    Calls Tryd.prog 65 #[v] w (tTrim w B (trimL ds)) :=
  (trimS_any v ds B w h hl).mono fun _ _ ⟨v', h1, h2, h3, _⟩ => ⟨v', h1, h2, h3⟩
end Go.Proofs.YtjighmmfaedgbaaDoor.RatW
