/-
  The reference's over, Valid, Size, Depth.
-/
import Derived.Test.YtdiackcefojfkaaGreatDoorExSee
namespace Go.Proofs.YtdiackcefojfkaaGreatDoor.ExW
open Go Go.RowKit Go.Proofs.YtdiackcefojfkaaGreatDoor.NumM Go.Proofs.YtdiackcefojfkaaGreatDoor.LexW Go.Proofs.YtdiackcefojfkaaGreatDoor.LexM Go.Proofs.YtdiackcefojfkaaGreatDoor.ExM

/-- All that the walk has seen of an expression. -/
def SeenE (g : Nat) (e : Ex) (W : World) : Prop := Seen g (sz e) (dep e) (fstE (pre 1 e)) (namesL isVr (pre 1 e)) (namesL isAr (pre 1 e)) W
theorem SeenE.of {g : Nat} {e : Ex} {W : World} (h : SeenF g 0 0 0 [] [] (pre 1 e) W) : SeenE g e W := by
  unfold SeenF at h
  have h1 := pre_mx e 1
  have h2 := pre_len e 1
  rw [show 0 + (pre 1 e).length = sz e by omega, show max 0 (mxL (pre 1 e)) = dep e by omega] at h
  exact h
set_option maxRecDepth 100000 in
set_option maxHeartbeats 4000000 in
theorem over_any (e : Ex) (v : Value) (w : World) (hx : ExAt w.heap.size w v e) (hsz : sz e ≤ 10000) :
    Calls Tryz.prog 41 #[v] w fun x w' => x = .returned (.pointer (some ⟨w.heap.size + 1, 0, none⟩)) ∧ SeenE (w.heap.size + 1) e w' ∧ Below w.heap.size w w' := by
  obtain ⟨p, cap, pl, cl, rfl, hs, _⟩ := hx.form
  have hb2 : Below w.heap.size w ((w.alloc (.cells #[.int .i64 e.op, .int .i64 e.n, .string e.nm, .slice p e.args.length cap] 24)).alloc (.cells #[.int .i64 0, .int .i64 0, .int .i64 0, .slice none 0 0, .slice none 0 0] 58)) := ((Below.refl _ _).alloc (Nat.le_refl _) _).alloc (by simp) _
  have five := Five.new (w.alloc (.cells #[.int .i64 e.op, .int .i64 e.n, .string e.nm, .slice p e.args.length cap] 24)) (.int .i64 0) (.int .i64 0) (.int .i64 0) (.slice none 0 0) (.slice none 0 0)
  rw [World.size_alloc] at five
  have SC0 := (see_any (w.heap.size + 1) e 0 0 0 [] [] _ 1 _ ⟨_, _, five, World.ownsRow_nil _ _ _ _, World.ownsRow_nil _ _ _ _, fun b hb => by simp [Value.ownBlock] at hb⟩ ((hx.under hb2).wide (by omega)) (by omega) (by omega) (by simp) (by simp))
  rw [show ((1 : Nat) : Int) = 1 from rfl] at SC0
  have SC := Lib.hid SC0
  clear SC0
  have four := (Four.new w (.int .i64 e.op) (.int .i64 e.n) (.string e.nm) (.slice p e.args.length cap) 24).alloc (.cells #[.int .i64 0, .int .i64 0, .int .i64 0, .slice none 0 0, .slice none 0 0] 58)
  have c0 := four.c0
  have c1 := four.c1
  have c2 := four.c2
  have c3 := four.c3
  have HB2 := Lib.hid hb2
  have HSE : Hid (∀ w', SeenF (w.heap.size + 1) 0 0 0 [] [] (pre 1 e) w' → SeenE (w.heap.size + 1) e w') := Lib.hid fun w' h => SeenE.of h
  clear hx hs hb2 five four
  generalize SeenE (w.heap.size + 1) e = P at *
  generalize SeenF (w.heap.size + 1) 0 0 0 [] [] (pre 1 e) = Q at *
  generalize e.op = o at *
  generalize e.n = n at *
  generalize e.nm = s at *
  generalize e.args.length = K at *
  go_enter Tryz.func41, Tryz.ntmps41
  go_wp2_with (go_at_call 61; ((with_reducible refine SC.out.mono ?_); rintro e w5 ⟨rfl, hs5, ht5⟩; have S5 := Lib.hid (HSE.out _ hs5); have B5 := Lib.hid (HB2.out.trans (ht5.low.mono (by omega))); clear hs5 ht5))
  go_ret
  exact ⟨rfl, S5.out, B5.out⟩
theorem dep_sz (e : Ex) : dep e ≤ sz e := by
  induction e using Ex.ind with
  | h o n s ks ih =>
    rw [dep_mk, sz_mk]
    have : deps ks ≤ szs ks := by
      induction ks with
      | nil => rw [deps_nil]; omega
      | cons a r ih2 =>
        rw [deps_cons, szs_cons]
        have h1 := ih a (by simp)
        have h2 := ih2 (fun b hb => ih b (by simp [hb]))
        omega
    omega
theorem vld_eq (e : Ex) : vld e = if fstE (pre 1 e) = 0 then (if 24 < dep e ∨ 400 < sz e then 2 else 0) else fstE (pre 1 e) := by
  have h1 := pre_mx e 1
  have h2 := pre_len e 1
  unfold vld vldL
  rw [h2, show mxL (pre 1 e) = dep e by omega]
set_option maxRecDepth 100000 in
set_option maxHeartbeats 4000000 in
theorem validR_any (e : Ex) (v : Value) (w : World) (hx : ExAt w.heap.size w v e) (hsz : sz e ≤ 10000) :
    Calls Tryz.prog 25 #[v] w (tInt (vld e) w) := by
  obtain ⟨p, cap, pl, cl, rfl, hs, _⟩ := hx.form
  have hb1 : Below w.heap.size w (w.alloc (.cells #[.int .i64 e.op, .int .i64 e.n, .string e.nm, .slice p e.args.length cap] 24)) := (Below.refl _ _).alloc (Nat.le_refl _) _
  have OC := over_any e _ _ (hx.later hb1) hsz
  rw [World.size_alloc] at OC
  have OC := Lib.hid OC
  have four := Four.new w (.int .i64 e.op) (.int .i64 e.n) (.string e.nm) (.slice p e.args.length cap) 24
  have c0 := four.c0
  have c1 := four.c1
  have c2 := four.c2
  have c3 := four.c3
  have HB1 := Lib.hid hb1
  have VE := Lib.hid (vld_eq e)
  have hd := dep_sz e
  have HFV : Hid (∀ W, SeenE (w.heap.size + 1 + 1) e W → W.cell? ⟨w.heap.size + 1 + 1, 0, none⟩ = some (.int .i64 (sz e)) ∧ W.cell? ⟨w.heap.size + 1 + 1, 1, none⟩ = some (.int .i64 (dep e)) ∧ W.cell? ⟨w.heap.size + 1 + 1, 2, none⟩ = some (.int .i64 (fstE (pre 1 e)))) := Lib.hid fun W h => by
    obtain ⟨_, _, h5, _⟩ := h
    exact ⟨h5.c0, h5.c1, h5.c2⟩
  clear hx hs hb1 four
  generalize fstE (pre 1 e) = f at *
  generalize vld e = vv at *
  generalize SeenE (w.heap.size + 1 + 1) e = P at *
  generalize dep e = D at *
  generalize sz e = Z at *
  generalize e.op = o at *
  generalize e.n = n at *
  generalize e.nm = s at *
  generalize e.args.length = K at *
  have cs : (f ≠ 0 ∧ vv = f) ∨ (f = 0 ∧ 24 < D ∧ vv = 2) ∨ (f = 0 ∧ ¬ 24 < D ∧ 400 < Z ∧ vv = 2) ∨ (f = 0 ∧ ¬ 24 < D ∧ ¬ 400 < Z ∧ vv = 0) := by
    have := VE.out
    by_cases h0 : f = 0
    · rw [if_pos h0] at this
      by_cases h1 : 24 < D
      · rw [if_pos (.inl h1)] at this; exact .inr (.inl ⟨h0, h1, this⟩)
      · by_cases h2 : 400 < Z
        · rw [if_pos (.inr h2)] at this; exact .inr (.inr (.inl ⟨h0, h1, h2, this⟩))
        · rw [if_neg (by omega)] at this; exact .inr (.inr (.inr ⟨h0, h1, h2, this⟩))
    · rw [if_neg h0] at this; exact .inl ⟨h0, this⟩
  clear VE
  rcases cs with ⟨h0, hv⟩ | ⟨h0, h1, hv⟩ | ⟨h0, h1, h2, hv⟩ | ⟨h0, h1, h2, hv⟩
  · have h0' : (f == 0) = false := by rw [beq_eq_false_iff_ne]; exact h0
    clear h0
    go_enter Tryz.func25, Tryz.ntmps25
    go_wp2_with (go_at_call 41; ((with_reducible refine OC.out.mono ?_); rintro e w5 ⟨rfl, hse, hb⟩; obtain ⟨k0, k1, k2⟩ := HFV.out _ hse; have B5 := Lib.hid (HB1.out.then_ (by rw [World.size_alloc]; exact hb)); clear hse hb))
    go_ret
    exact tInt_mk hv.symm B5.out
  all_goals
    subst h0
    go_enter Tryz.func25, Tryz.ntmps25
    go_wp2_with (go_at_call 41; ((with_reducible refine OC.out.mono ?_); rintro e w5 ⟨rfl, hse, hb⟩; obtain ⟨k0, k1, k2⟩ := HFV.out _ hse; have B5 := Lib.hid (HB1.out.then_ (by rw [World.size_alloc]; exact hb)); clear hse hb))
    go_ret
    first
      | exact tInt_mk hv.symm B5.out
      | exact tInt_mk rfl B5.out
end Go.Proofs.YtdiackcefojfkaaGreatDoor.ExW
