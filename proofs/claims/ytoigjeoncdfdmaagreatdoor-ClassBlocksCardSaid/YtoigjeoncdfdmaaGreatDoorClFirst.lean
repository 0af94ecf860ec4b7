/-
  What first returns.
-/
import Derived.Test.YtoigjeoncdfdmaaGreatDoorClMem
namespace Go.Proofs.YtoigjeoncdfdmaaGreatDoor.ClW
open Go Go.RowKit Go.Proofs.YtoigjeoncdfdmaaGreatDoor.NumM Go.Proofs.YtoigjeoncdfdmaaGreatDoor.LexW Go.Proofs.YtoigjeoncdfdmaaGreatDoor.LexM Go.Proofs.YtoigjeoncdfdmaaGreatDoor.ClM

/-- A class, and whether there is one. -/
def tFnd (N : Nat) (o : Option Cl) (w : World) (e : Ending) (w' : World) : Prop :=
  ∃ pf cf pb cb, e = .returned (.tuple #[cv (o.getD zCl).nm (o.getD zCl).par (.slice pf (o.getD zCl).fs.length cf) (.slice pb (o.getD zCl).bs.length cb), .bool o.isSome]) ∧ CV (Lo N) w' pf cf pb cb (o.getD zCl) ∧ Below w.heap.size w w'
theorem tFnd_some {N : Nat} {c : Cl} {w w' : World} {pf : Option Addr} {cf : Nat} {pb : Option Addr} {cb : Nat} (h : CV (Lo N) w' pf cf pb cb c) (hb : Below w.heap.size w w') :
    tFnd N (some c) w (.returned (.tuple #[cv c.nm c.par (.slice pf c.fs.length cf) (.slice pb c.bs.length cb), .bool true])) w' := ⟨pf, cf, pb, cb, rfl, h, hb⟩
theorem tFnd_none {N : Nat} {w w' : World} (hb : Below w.heap.size w w') :
    tFnd N none w (.returned (.tuple #[cv ⟨#[]⟩ ⟨#[]⟩ (.slice none 0 0) (.slice none 0 0), .bool false])) w' := ⟨none, 0, none, 0, rfl, .zero _ _, hb⟩
theorem find_at {src : List Cl} {x : ByteArray} {k : Nat} {c : Cl} (h : src[k]? = some c) (hc : same c.nm x = true) (hn : fnd (src.take k) x = none) : fnd src x = some c := by
  unfold fnd at hn ⊢
  obtain ⟨hk, he⟩ := List.getElem?_eq_some_iff.1 h
  rw [← List.take_append_drop k src, List.find?_append, hn, List.drop_eq_getElem_cons hk, he]
  simp [hc]
theorem find_next {src : List Cl} {x : ByteArray} {k : Nat} {c : Cl} (h : src[k]? = some c) (hc : same c.nm x = false) (hn : fnd (src.take k) x = none) : fnd (src.take (k + 1)) x = none := by
  unfold fnd at hn ⊢
  obtain ⟨hk, he⟩ := List.getElem?_eq_some_iff.1 h
  rw [List.take_succ_eq_append_getElem hk, List.find?_append, hn, he]
  simp [hc]
theorem same_walk {a b : ByteArray} {v : Bool} (h : same a b = v) : (a.toList == b.toList) = v := by
  unfold same at h
  rw [Lib.toList_data, Lib.toList_data]; exact h

set_option maxRecDepth 100000 in
set_option maxHeartbeats 4000000 in
theorem first_any (src : List Cl) (x : ByteArray) (p : Option Addr) (cap : Nat) (G : Nat → Nat → Value) (N : Nat) (w : World) (ha : RowA (Lo N) w .classes p cap G (src.map Cl.lf)) (hN : N ≤ w.heap.size) :
    Calls Tryz.prog 47 #[.slice p src.length cap, .string x] w (tFnd N (fnd src x) w) := by
  have HA := Lib.hid ha
  have hl := ha.hl
  rw [List.length_map] at hl
  simp only [byt] at hl
  obtain ⟨K, hK⟩ : ∃ K, src.length = K := ⟨_, rfl⟩
  have HK := Lib.hid hK
  rw [hK] at hl ⊢
  have hk : K ≤ 140737488351232 := by omega
  clear hK ha hl
  have F0 := Lib.hid (Four.new w (.string ⟨#[]⟩) (.string ⟨#[]⟩) (.slice none 0 0) (.slice none 0 0) 25)
  have HB0 : Hid (Below w.heap.size w (w.alloc (.cells #[.string ⟨#[]⟩, .string ⟨#[]⟩, .slice none 0 0, .slice none 0 0] 25))) := Lib.hid ((Below.refl _ _).alloc (Nat.le_refl _) _)
  go_enter Tryz.func47, Tryz.ntmps47
  go_wp2
  go_loopw [10] (fun i wr => ∃ j : Nat, j ≤ K ∧ i = .int .i64 j ∧ Hid (fnd (src.take j) x = none) ∧ Hid (Below w.heap.size w wr) ∧ Hid (Four wr w.heap.size (.string ⟨#[]⟩) (.string ⟨#[]⟩) (.slice none 0 0) (.slice none 0 0))) (fun i _ => K - (intOf i).toNat)
  case atStart => exact ⟨0, Nat.zero_le _, rfl, Lib.hid rfl, HB0, F0⟩
  case round =>
    obtain ⟨j, hj, rfl, FN, BW, FR⟩ := hrel
    by_cases hlt : j < K
    · obtain ⟨c, hc⟩ : ∃ c, src[j]? = some c := ⟨_, List.getElem?_eq_getElem (by rw [HK.out]; exact hlt)⟩
      have hbw : Below N w wr := BW.out.mono hN
      obtain ⟨b, off, pf, cf, pb, cb, rfl, hb, c0, c1, c2, c3, hcv⟩ := (HA.out.under hbw).cl hc
      have HC := Lib.hid hc
      have HCV := Lib.hid hcv
      have FR' := FR.out
      have r0 := FR'.c0
      have r1 := FR'.c1
      have r2 := FR'.c2
      have r3 := FR'.c3
      have rl := FR'.lt
      have q0 := FR'.f0
      have q1 := FR'.f1
      have q2 := FR'.f2
      have q3 := FR'.f3
      have FNW := Four.new wr (.string c.nm) (.string c.par) (.slice pf c.fs.length cf) (.slice pb c.bs.length cb) 25
      have FRA := FR'.alloc (.cells #[.string c.nm, .string c.par, .slice pf c.fs.length cf, .slice pb c.bs.length cb] 25)
      have HBA : Hid (Below w.heap.size w (wr.alloc (.cells #[.string c.nm, .string c.par, .slice pf c.fs.length cf, .slice pb c.bs.length cb] 25))) := Lib.hid (BW.out.alloc BW.out.size _)
      have HFRA := Lib.hid FRA
      have d0 := FNW.c0
      have d1 := FNW.c1
      have d2 := FNW.c2
      have d3 := FNW.c3
      have t0 := FRA.c0
      have t1 := FRA.c1
      have t2 := FRA.c2
      have t3 := FRA.c3
      have u0 := FRA.f0
      have u1 := FRA.f1
      have u2 := FRA.f2
      have u3 := FRA.f3
      clear hc hcv hbw FR' FNW FRA
      cases hs : same c.nm x
      · have e1 := same_walk hs
        have FN2 := Lib.hid (find_next HC.out hs FN.out)
        clear hs
        generalize c.nm = nm at *
        generalize c.par = par at *
        generalize c.fs.length = kf at *
        generalize c.bs.length = kb at *
        go_wp2
        go_roundw
        case rel => exact ⟨j + 1, by omega, by go_num, FN2, HBA, HFRA⟩
        case measure => simp [intOf]; omega
      · have e1 := same_walk hs
        have FS := Lib.hid (find_at HC.out hs FN.out)
        clear hs
        generalize hnm : c.nm = nm at *
        generalize hpar : c.par = par at *
        generalize hkf : c.fs.length = kf at *
        generalize hkb : c.bs.length = kb at *
        have H1 := Lib.hid hnm
        have H2 := Lib.hid hpar
        have H3 := Lib.hid hkf
        have H4 := Lib.hid hkb
        clear hnm hpar hkf hkb
        go_wp2
        have hp := (FR.out.put (.string nm) (.string par) (.slice pf kf cf) (.slice pb kb cb)).alloc (.cells #[.string nm, .string par, .slice pf kf cf, .slice pb kb cb] 25)
        have p0 := hp.c0
        have p1 := hp.c1
        have p2 := hp.c2
        have p3 := hp.c3
        refine bodyPost_ret (v := .tuple #[cv nm par (.slice pf kf cf) (.slice pb kb cb), .bool true]) (by simp [results, Tryz.results47, go_sem, p0, p1, p2, p3]) rfl ?_
        have hb9 := (below_put BW.out (Nat.le_refl _) (.string nm) (.string par) (.slice pf kf cf) (.slice pb kb cb)).alloc (by simp only [setCell_size]; exact BW.out.size) (.cells #[.string nm, .string par, .slice pf kf cf, .slice pb kb cb] 25)
        rw [FS.out]
        have := tFnd_some (N := N) (HCV.out.across BW.out hb9 hN) hb9
        rw [H1.out, H2.out, H3.out, H4.out] at this
        exact this
    · have FN2 : Hid (fnd src x = none) := Lib.hid (by have := FN.out; rw [List.take_of_length_le (by rw [HK.out]; omega)] at this; exact this)
      have FR' := FR.out
      have r0 := FR'.c0
      have r1 := FR'.c1
      have r2 := FR'.c2
      have r3 := FR'.c3
      have rl := FR'.lt
      have q0 := FR'.f0
      have q1 := FR'.f1
      have q2 := FR'.f2
      have q3 := FR'.f3
      clear FR'
      go_wp2
      have hp := FR.out.put (.string ⟨#[]⟩) (.string ⟨#[]⟩) (.slice none 0 0) (.slice none 0 0)
      have p0 := hp.c0
      have p1 := hp.c1
      have p2 := hp.c2
      have p3 := hp.c3
      refine bodyPost_ret (v := .tuple #[cv ⟨#[]⟩ ⟨#[]⟩ (.slice none 0 0) (.slice none 0 0), .bool false]) (by simp [results, Tryz.results47, go_sem, p0, p1, p2, p3]) rfl ?_
      rw [FN2.out]
      exact tFnd_none (below_put BW.out (Nat.le_refl _) _ _ _ _)
end Go.Proofs.YtoigjeoncdfdmaaGreatDoor.ClW
