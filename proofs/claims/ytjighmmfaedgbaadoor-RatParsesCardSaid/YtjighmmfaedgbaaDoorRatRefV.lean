/-
  What the reference's 'Valid' returns.
-/
import Derived.Test.YtjighmmfaedgbaaDoorRatRefQ
import Derived.Laws.StructEq
namespace Go.Proofs.YtjighmmfaedgbaaDoor.RatW
open Go Go.RowKit Go.Proofs.YtjighmmfaedgbaaDoor.RatM

theorem below_lt {w w3 : World} {o : Obj} (h : Below (w.alloc o).heap.size (w.alloc o) w3) : w.heap.size < w3.heap.size := by
  have := h.size
  rw [alloc_size] at this
  omega
/-- A rational number by value. -/
abbrev rv (n d : Int) : Value := .agg #[.int .i64 n, .int .i64 d]
def tBool (w : World) (b : Bool) (e : Ending) (w' : World) : Prop := e = .returned (.bool b) ∧ Below w.heap.size w w'
set_option maxRecDepth 100000 in
set_option maxHeartbeats 4000000 in
theorem validRef_any (n d : Int) (w : World) (n0 : -9223372036854775808 ≤ n) (n1 : n ≤ 9223372036854775807) (d0 : -9223372036854775808 ≤ d) (d1 : d ≤ 9223372036854775807) :
    Calls Tryd.prog 16 #[rv n d] w (tBool w (validS n d)) := by
  by_cases h1 : 1 ≤ d
  · by_cases hv : validS n d = true
    · have HR := Lib.hid (make_valid ⟨n0, n1⟩ ⟨d0, d1⟩ hv)
      rw [hv]
      clear hv
      go_enter Tryd.func16, Tryd.ntmps16
      go_wp2_with (go_at_call 13; refine (makeRef_any n d _ n0 n1 d0 d1).mono ?_; rintro e w3 h3; rw [HR.out] at h3; obtain ⟨rfl, hb3⟩ := h3; have HB := Lib.hid hb3; obtain ⟨c0, c1, f0, f1⟩ := cells2 hb3; have hz := below_lt hb3; clear hb3; unfold resV)
      go_ret
      exact ⟨rfl, (((Below.refl w.heap.size w).alloc (Nat.le_refl _) _).trans (HB.out.mono (by simp))).alloc (Nat.le_of_lt hz) _⟩
    · have hf : validS n d = false := by simpa using hv
      rw [hf]
      have HV := Lib.hid hv
      clear hv hf
      go_enter Tryd.func16, Tryd.ntmps16
      go_wp2_with (go_at_call 13; refine (makeRef_any n d _ n0 n1 d0 d1).mono ?_; rintro e w3 h3; obtain ⟨x, y, k, hr, rfl, hb3⟩ := tRes_open h3; have HR := Lib.hid hr; have HB := Lib.hid hb3; obtain ⟨c0, c1, f0, f1⟩ := cells2 hb3; have hz := below_lt hb3; clear h3 hr hb3)
      · (exfalso; have e1 : x = n := (by assumption); have e2 : y = d := (by assumption); have e3 : k = 0 := (by assumption); exact HV.out (valid_make (by rw [HR.out, e1, e2, e3])))
      all_goals (go_ret; exact ⟨rfl, (((Below.refl w.heap.size w).alloc (Nat.le_refl _) _).trans (HB.out.mono (by simp))).alloc (Nat.le_of_lt hz) _⟩)
  · have e := valid_no (n := n) h1
    rw [e]
    clear e
    go_enter Tryd.func16, Tryd.ntmps16
    go_wp2
    go_ret
    exact ⟨rfl, (Below.refl _ _).alloc (Nat.le_refl _) _⟩
end Go.Proofs.YtjighmmfaedgbaaDoor.RatW
