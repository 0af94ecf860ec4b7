/-
  The reference's Size, Depth, Names, Arrays; the law's texts.
-/
import Derived.Test.YtdiackcefojfkaaGreatDoorExOver
namespace Go.Proofs.YtdiackcefojfkaaGreatDoor.ExW
open Go Go.RowKit Go.Proofs.YtdiackcefojfkaaGreatDoor.NumM Go.Proofs.YtdiackcefojfkaaGreatDoor.LexW Go.Proofs.YtdiackcefojfkaaGreatDoor.LexM Go.Proofs.YtdiackcefojfkaaGreatDoor.ExM

/-- A list of names of the call's own is returned. -/
def tNms (L : List ByteArray) (w : World) (e : Ending) (w' : World) : Prop := ∃ v, e = .returned v ∧ w'.ownsRow w.heap.size 9 1 v L.length (L.map Value.string) ∧ Below w.heap.size w w'
theorem ownsRow_low {W : World} {B B' n m : Nat} {t : TypeId} {v : Value} {l : List Value} (h : W.ownsRow B' t m v n l) (hB : B ≤ B') : W.ownsRow B t m v n l :=
  ⟨h.1, h.2.imp id fun ⟨g, c, cur, h1, h2, h3⟩ => ⟨g, c, cur, h1, Nat.le_trans hB h2, h3⟩⟩
theorem tNms_mk {L : List ByteArray} {w w' : World} {v : Value} {B : Nat} (h : w'.ownsRow B 9 1 v L.length (L.map Value.string)) (hB : w.heap.size ≤ B) (hb : Below w.heap.size w w') : tNms L w (.returned v) w' := ⟨v, rfl, ownsRow_low h hB, hb⟩
set_option maxRecDepth 100000 in
set_option maxHeartbeats 4000000 in
theorem sizeR_any (e : Ex) (v : Value) (w : World) (hx : ExAt w.heap.size w v e) (hsz : sz e ≤ 10000) :
    Calls Tryz.prog 16 #[v] w (tInt (sz e) w) := by
  obtain ⟨p, cap, pl, cl, rfl, hs, _⟩ := hx.form
  have hb1 : Below w.heap.size w (w.alloc (.cells #[.int .i64 e.op, .int .i64 e.n, .string e.nm, .slice p e.args.length cap] 24)) := (Below.refl _ _).alloc (Nat.le_refl _) _
  have OC := over_any e _ _ (hx.later hb1) hsz
  rw [World.size_alloc] at OC
  have OC := Lib.hid OC
  have four := Four.new w (.int .i64 e.op) (.int .i64 e.n) (.string e.nm) (.slice p e.args.length cap) 24
  have c0 := four.c0
  have c1 := four.c1
  have c2 := four.c2
  have c3 := four.c3
  have HB1 := Lib.hid hb1
  have HFV : Hid (∀ W, SeenE (w.heap.size + 1 + 1) e W → W.cell? ⟨w.heap.size + 1 + 1, 0, none⟩ = some (.int .i64 (sz e))) := Lib.hid fun W h => by
    obtain ⟨_, _, h5, _⟩ := h
    exact h5.c0
  clear hx hs hb1 four
  generalize SeenE (w.heap.size + 1 + 1) e = P at *
  generalize sz e = D at *
  generalize e.op = o at *
  generalize e.n = n at *
  generalize e.nm = s at *
  generalize e.args.length = K at *
  go_enter Tryz.func16, Tryz.ntmps16
  go_wp2_with (go_at_call 41; ((with_reducible refine OC.out.mono ?_); rintro e w5 ⟨rfl, hse, hb⟩; have k0 := HFV.out _ hse; have B5 := Lib.hid (HB1.out.then_ (by rw [World.size_alloc]; exact hb)); clear hse hb))
  go_ret
  exact tInt_mk rfl B5.out
set_option maxRecDepth 100000 in
set_option maxHeartbeats 4000000 in
theorem depthR_any (e : Ex) (v : Value) (w : World) (hx : ExAt w.heap.size w v e) (hsz : sz e ≤ 10000) :
    Calls Tryz.prog 18 #[v] w (tInt (dep e) w) := by
  obtain ⟨p, cap, pl, cl, rfl, hs, _⟩ := hx.form
  have hb1 : Below w.heap.size w (w.alloc (.cells #[.int .i64 e.op, .int .i64 e.n, .string e.nm, .slice p e.args.length cap] 24)) := (Below.refl _ _).alloc (Nat.le_refl _) _
  have OC := over_any e _ _ (hx.later hb1) hsz
  rw [World.size_alloc] at OC
  have OC := Lib.hid OC
  have four := Four.new w (.int .i64 e.op) (.int .i64 e.n) (.string e.nm) (.slice p e.args.length cap) 24
  have c0 := four.c0
  have c1 := four.c1
  have c2 := four.c2
  have c3 := four.c3
  have HB1 := Lib.hid hb1
  have HFV : Hid (∀ W, SeenE (w.heap.size + 1 + 1) e W → W.cell? ⟨w.heap.size + 1 + 1, 1, none⟩ = some (.int .i64 (dep e))) := Lib.hid fun W h => by
    obtain ⟨_, _, h5, _⟩ := h
    exact h5.c1
  clear hx hs hb1 four
  generalize SeenE (w.heap.size + 1 + 1) e = P at *
  generalize dep e = D at *
  generalize e.op = o at *
  generalize e.n = n at *
  generalize e.nm = s at *
  generalize e.args.length = K at *
  go_enter Tryz.func18, Tryz.ntmps18
  go_wp2_with (go_at_call 41; ((with_reducible refine OC.out.mono ?_); rintro e w5 ⟨rfl, hse, hb⟩; have k0 := HFV.out _ hse; have B5 := Lib.hid (HB1.out.then_ (by rw [World.size_alloc]; exact hb)); clear hse hb))
  go_ret
  exact tInt_mk rfl B5.out
set_option maxRecDepth 100000 in
set_option maxHeartbeats 4000000 in
theorem namesR_any (e : Ex) (v : Value) (w : World) (hx : ExAt w.heap.size w v e) (hsz : sz e ≤ 10000) :
    Calls Tryz.prog 21 #[v] w (tNms (namesL isVr (pre 1 e)) w) := by
  obtain ⟨p, cap, pl, cl, rfl, hs, _⟩ := hx.form
  have hb1 : Below w.heap.size w (w.alloc (.cells #[.int .i64 e.op, .int .i64 e.n, .string e.nm, .slice p e.args.length cap] 24)) := (Below.refl _ _).alloc (Nat.le_refl _) _
  have OC := over_any e _ _ (hx.later hb1) hsz
  rw [World.size_alloc] at OC
  have OC := Lib.hid OC
  have four := Four.new w (.int .i64 e.op) (.int .i64 e.n) (.string e.nm) (.slice p e.args.length cap) 24
  have c0 := four.c0
  have c1 := four.c1
  have c2 := four.c2
  have c3 := four.c3
  have HB1 := Lib.hid hb1
  have HFV : Hid (∀ W, SeenE (w.heap.size + 1 + 1) e W → ∃ v, W.cell? ⟨w.heap.size + 1 + 1, 3, none⟩ = some v ∧ Nms (w.heap.size + 1 + 1 + 1) W v (namesL isVr (pre 1 e))) := Lib.hid fun W h => by
    obtain ⟨v1, v2, h5, h6, h7, _⟩ := h
    exact ⟨v1, h5.c3, h6⟩
  clear hx hs hb1 four
  generalize SeenE (w.heap.size + 1 + 1) e = P at *
  generalize namesL isVr (pre 1 e) = D at *
  generalize e.op = o at *
  generalize e.n = n at *
  generalize e.nm = s at *
  generalize e.args.length = K at *
  go_enter Tryz.func21, Tryz.ntmps21
  go_wp2_with (go_at_call 41; ((with_reducible refine OC.out.mono ?_); rintro e w5 ⟨rfl, hse, hb⟩; obtain ⟨v5, k0, hn⟩ := HFV.out _ hse; have HN := Lib.hid hn; have B5 := Lib.hid (HB1.out.then_ (by rw [World.size_alloc]; exact hb)); clear hse hb hn))
  go_ret
  exact tNms_mk HN.out (by omega) B5.out
set_option maxRecDepth 100000 in
set_option maxHeartbeats 4000000 in
theorem arraysR_any (e : Ex) (v : Value) (w : World) (hx : ExAt w.heap.size w v e) (hsz : sz e ≤ 10000) :
    Calls Tryz.prog 23 #[v] w (tNms (namesL isAr (pre 1 e)) w) := by
  obtain ⟨p, cap, pl, cl, rfl, hs, _⟩ := hx.form
  have hb1 : Below w.heap.size w (w.alloc (.cells #[.int .i64 e.op, .int .i64 e.n, .string e.nm, .slice p e.args.length cap] 24)) := (Below.refl _ _).alloc (Nat.le_refl _) _
  have OC := over_any e _ _ (hx.later hb1) hsz
  rw [World.size_alloc] at OC
  have OC := Lib.hid OC
  have four := Four.new w (.int .i64 e.op) (.int .i64 e.n) (.string e.nm) (.slice p e.args.length cap) 24
  have c0 := four.c0
  have c1 := four.c1
  have c2 := four.c2
  have c3 := four.c3
  have HB1 := Lib.hid hb1
  have HFV : Hid (∀ W, SeenE (w.heap.size + 1 + 1) e W → ∃ v, W.cell? ⟨w.heap.size + 1 + 1, 4, none⟩ = some v ∧ Nms (w.heap.size + 1 + 1 + 1) W v (namesL isAr (pre 1 e))) := Lib.hid fun W h => by
    obtain ⟨v1, v2, h5, h6, h7, _⟩ := h
    exact ⟨v2, h5.c4, h7⟩
  clear hx hs hb1 four
  generalize SeenE (w.heap.size + 1 + 1) e = P at *
  generalize namesL isAr (pre 1 e) = D at *
  generalize e.op = o at *
  generalize e.n = n at *
  generalize e.nm = s at *
  generalize e.args.length = K at *
  go_enter Tryz.func23, Tryz.ntmps23
  go_wp2_with (go_at_call 41; ((with_reducible refine OC.out.mono ?_); rintro e w5 ⟨rfl, hse, hb⟩; obtain ⟨v5, k0, hn⟩ := HFV.out _ hse; have HN := Lib.hid hn; have B5 := Lib.hid (HB1.out.then_ (by rw [World.size_alloc]; exact hb)); clear hse hb hn))
  go_ret
  exact tNms_mk HN.out (by omega) B5.out
set_option maxRecDepth 100000 in
set_option maxHeartbeats 2000000 in
/-- Two lists of the same texts. -/
theorem texts_any (l : List ByteArray) (va vb : Value) (w : World) (h : StrsA w va l) (g : StrsA w vb l) (hl : l.length ≤ 100000) :
    Calls Tryz.prog 19 #[va, vb] w (tBool true w) := by
  obtain ⟨p, cap, rfl, _, hx⟩ := h
  obtain ⟨q, cap2, rfl, _, hy⟩ := g
  have HX := Lib.hid hx
  have HY := Lib.hid hy
  clear hx hy
  obtain ⟨n, hnn⟩ : ∃ n, l.length = n := ⟨_, rfl⟩
  have HN := Lib.hid hnn
  rw [hnn] at hl ⊢
  clear hnn
  have HB0 := Lib.hid (Below.refl w.heap.size w)
  go_enter Tryz.func19, Tryz.ntmps19
  go_wp2
  go_loopw [5] (fun i wr => ∃ k : Nat, k ≤ n ∧ i = .int .i64 k ∧ Hid (Below w.heap.size w wr)) (fun i _ => n - (intOf i).toNat)
  case atStart => exact ⟨0, Nat.zero_le _, rfl, HB0⟩
  case round =>
    obtain ⟨k, hk, rfl, BW⟩ := hrel
    by_cases hlt : k < n
    · obtain ⟨b, off, rfl, hcell⟩ := HX.out (by rw [HN.out]; omega)
      obtain ⟨b', off', rfl, hcell'⟩ := HY.out (by rw [HN.out]; omega)
      obtain ⟨y, hyk⟩ : ∃ y, l[k]? = some y := ⟨_, List.getElem?_eq_getElem (by rw [HN.out]; exact hlt)⟩
      have q0 := hcell k y hyk
      have q1 := hcell' k y hyk
      have ca0 : wr.cell? ⟨b, off + k, none⟩ = some (.string y) := (BW.out.cell (p := ⟨b, off + k, none⟩) (cell_lt q0)).trans q0
      have ca1 : wr.cell? ⟨b', off' + k, none⟩ = some (.string y) := (BW.out.cell (p := ⟨b', off' + k, none⟩) (cell_lt q1)).trans q1
      have e1 : (y.toList != y.toList) = false := by simp
      clear hcell hcell' q0 q1 hyk
      go_wp2
      go_quiet (fail)
      go_wp2
      go_roundw
      case rel => exact ⟨k + 1, by omega, by go_num, Lib.hid (BW.out.then_ (drew_below _ _))⟩
      case measure => simp [intOf]; omega
    · go_wp2
      go_ret
      exact tBool_mk rfl BW.out
end Go.Proofs.YtdiackcefojfkaaGreatDoor.ExW
