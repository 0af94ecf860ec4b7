/-
  What the reference's Find, field and block and the law's has return.
-/
import Derived.Test.YtoigjeoncdfdmaaGreatDoorClFirst
namespace Go.Proofs.YtoigjeoncdfdmaaGreatDoor.ClW
open Go Go.RowKit Go.Proofs.YtoigjeoncdfdmaaGreatDoor.NumM Go.Proofs.YtoigjeoncdfdmaaGreatDoor.LexW Go.Proofs.YtoigjeoncdfdmaaGreatDoor.LexM Go.Proofs.YtoigjeoncdfdmaaGreatDoor.ClM

theorem RowA.take {S : Nat → Prop} {w : World} {k : Kd} {p : Option Addr} {cap : Nat} {G : Nat → Nat → Value} {l : List (List Lf)} (h : RowA S w k p cap G l) (i : Nat) (hi : i ≤ l.length) : RowA S w k p cap G (l.take i) := by
  have hl : (l.take i).length = i := by rw [List.length_take]; omega
  refine ⟨Nat.le_trans (Nat.mul_le_mul_right _ (by omega)) h.hl, by have := h.hc; omega, fun h0 => ?_, fun j x hx => ?_, fun j x m y sh hx hy hs => ?_⟩
  · obtain ⟨b, off, e, hb, hc⟩ := h.hp (by omega)
    exact ⟨b, off, e, hb, fun a j ha hj => hc a j (by omega) hj⟩
  · rw [List.getElem?_take] at hx
    split at hx
    · exact h.hw j x hx
    · cases hx
  · rw [List.getElem?_take] at hx
    split at hx
    · exact h.hx j x m y sh hx hy hs
    · cases hx
def idxI (o : Option Nat) : Int := match o with | some i => i | none => -1
theorem any_at {α : Type} {l : List α} {q : α → Bool} {k : Nat} {x : α} (h : l[k]? = some x) (hq : q x = true) : l.any q = true := List.any_eq_true.2 ⟨x, List.mem_of_getElem? h, hq⟩
theorem any_next {α : Type} {l : List α} {q : α → Bool} {k : Nat} {x : α} (h : l[k]? = some x) (hq : q x = false) (hn : (l.take k).any q = false) : (l.take (k + 1)).any q = false := by
  obtain ⟨hk, he⟩ := List.getElem?_eq_some_iff.1 h
  rw [List.take_succ_eq_append_getElem hk, List.any_append, hn, he]; simp [hq]
theorem idx_at {α : Type} {l : List α} {q : α → Bool} {k : Nat} {x : α} (h : l[k]? = some x) (hq : q x = true) (hn : (l.take k).findIdx? q = none) : l.findIdx? q = some k := by
  obtain ⟨hk, he⟩ := List.getElem?_eq_some_iff.1 h
  rw [← List.take_append_drop k l, List.findIdx?_append, hn, List.drop_eq_getElem_cons hk, he, List.findIdx?_cons, hq]
  simp; omega
theorem idx_next {α : Type} {l : List α} {q : α → Bool} {k : Nat} {x : α} (h : l[k]? = some x) (hq : q x = false) (hn : (l.take k).findIdx? q = none) : (l.take (k + 1)).findIdx? q = none := by
  obtain ⟨hk, he⟩ := List.getElem?_eq_some_iff.1 h
  rw [List.take_succ_eq_append_getElem hk, List.findIdx?_append, hn, he, List.findIdx?_cons, hq]; simp
theorem plc_at {l : List Bk} {x : ByteArray} {k : Nat} {c : Bk} (h : l[k]? = some c) (hq : same c.nm x = true) (hn : plc (l.take k) x = none) : plc l x = some k := idx_at (q := fun a : Bk => same a.nm x) h hq hn
theorem plc_next {l : List Bk} {x : ByteArray} {k : Nat} {c : Bk} (h : l[k]? = some c) (hq : same c.nm x = false) (hn : plc (l.take k) x = none) : plc (l.take (k + 1)) x = none := idx_next (q := fun a : Bk => same a.nm x) h hq hn
theorem fany_at {l : List Fld} {x : ByteArray} {k : Nat} {c : Fld} (h : l[k]? = some c) (hq : same c.nm x = true) : l.any (fun f => same f.nm x) = true := any_at (q := fun f : Fld => same f.nm x) h hq
theorem fany_next {l : List Fld} {x : ByteArray} {k : Nat} {c : Fld} (h : l[k]? = some c) (hq : same c.nm x = false) (hn : (l.take k).any (fun f => same f.nm x) = false) : (l.take (k + 1)).any (fun f => same f.nm x) = false := any_next (q := fun f : Fld => same f.nm x) h hq hn
theorem bany_at {l : List Bk} {x : ByteArray} {k : Nat} {c : Bk} (h : l[k]? = some c) (hq : same c.nm x = true) : l.any (fun f => same f.nm x) = true := any_at (q := fun f : Bk => same f.nm x) h hq
theorem bany_next {l : List Bk} {x : ByteArray} {k : Nat} {c : Bk} (h : l[k]? = some c) (hq : same c.nm x = false) (hn : (l.take k).any (fun f => same f.nm x) = false) : (l.take (k + 1)).any (fun f => same f.nm x) = false := any_next (q := fun f : Bk => same f.nm x) h hq hn
theorem reti {a b : Int} (h : a = b) : Ending.returned (.int .i64 a) = .returned (.int .i64 b) := by rw [h]

set_option maxRecDepth 100000 in
set_option maxHeartbeats 4000000 in
theorem field_any (l : List Fld) (x : ByteArray) (p : Option Addr) (cap : Nat) (G : Nat → Nat → Value) (N : Nat) (w : World) (ha : RowA (Lo N) w .fields p cap G (l.map Fld.lf)) :
    Calls Tryz.prog 45 #[.slice p l.length cap, .string x] w fun e w' => e = .returned (.bool (l.any (fun f => same f.nm x))) ∧ w = w' := by
  have HA := Lib.hid ha
  have hl := ha.hl
  rw [List.length_map] at hl
  simp only [byt] at hl
  obtain ⟨K, hK⟩ : ∃ K, l.length = K := ⟨_, rfl⟩
  have HK := Lib.hid hK
  rw [hK] at hl ⊢
  have hk : K ≤ 140737488351232 := by omega
  clear hK ha hl
  go_enter Tryz.func45, Tryz.ntmps45
  go_wp2
  go_loop [5] (fun i => ∃ j : Nat, j ≤ K ∧ i = .int .i64 j ∧ Hid ((l.take j).any (fun f => same f.nm x) = false)) (fun i => K - (intOf i).toNat)
  case atStart => exact ⟨0, Nat.zero_le _, rfl, Lib.hid rfl⟩
  case round =>
    obtain ⟨j, hj, rfl, FN⟩ := hrel
    by_cases hlt : j < K
    · obtain ⟨c, hc⟩ : ∃ c, l[j]? = some c := ⟨_, List.getElem?_eq_getElem (by rw [HK.out]; exact hlt)⟩
      have hrow := HA.out.fd hc
      obtain ⟨b, off, rfl, hb, c0, _⟩ := hrow
      have HC := Lib.hid hc
      clear hc
      cases hs : same c.nm x
      · have e1 := same_walk hs
        have FN2 := Lib.hid (fany_next HC.out hs FN.out)
        clear hs
        go_wp2
        go_round
        case rel => exact ⟨j + 1, by omega, by go_num, FN2⟩
        case measure => simp [intOf]; omega
      · have e1 := same_walk hs
        have FS : Hid (l.any (fun f => same f.nm x) = true) := Lib.hid (fany_at HC.out hs)
        clear hs
        go_wp2
        go_ret
        rw [FS.out]
        exact ⟨rfl, rfl⟩
    · have FN2 : Hid (l.any (fun f => same f.nm x) = false) := Lib.hid (by have := FN.out; rw [List.take_of_length_le (by rw [HK.out]; omega)] at this; exact this)
      go_wp2
      go_ret
      rw [FN2.out]
      exact ⟨rfl, rfl⟩

set_option maxRecDepth 100000 in
set_option maxHeartbeats 4000000 in
theorem has_any (l : List Bk) (x : ByteArray) (p : Option Addr) (cap : Nat) (G : Nat → Nat → Value) (N : Nat) (w : World) (ha : RowA (Lo N) w .blocks p cap G (l.map Bk.lf)) :
    Calls Tryz.prog 27 #[.slice p l.length cap, .string x] w fun e w' => e = .returned (.bool (l.any (fun f => same f.nm x))) ∧ w = w' := by
  have HA := Lib.hid ha
  have hl := ha.hl
  rw [List.length_map] at hl
  simp only [byt] at hl
  obtain ⟨K, hK⟩ : ∃ K, l.length = K := ⟨_, rfl⟩
  have HK := Lib.hid hK
  rw [hK] at hl ⊢
  have hk : K ≤ 140737488351232 := by omega
  clear hK ha hl
  go_enter Tryz.func27, Tryz.ntmps27
  go_wp2
  go_loop [5] (fun i => ∃ j : Nat, j ≤ K ∧ i = .int .i64 j ∧ Hid ((l.take j).any (fun f => same f.nm x) = false)) (fun i => K - (intOf i).toNat)
  case atStart => exact ⟨0, Nat.zero_le _, rfl, Lib.hid rfl⟩
  case round =>
    obtain ⟨j, hj, rfl, FN⟩ := hrel
    by_cases hlt : j < K
    · obtain ⟨c, hc⟩ : ∃ c, l[j]? = some c := ⟨_, List.getElem?_eq_getElem (by rw [HK.out]; exact hlt)⟩
      have hrow := HA.out.bk hc
      obtain ⟨b, off, pi, ci, rfl, hb, c0, _⟩ := hrow
      have HC := Lib.hid hc
      clear hc
      cases hs : same c.nm x
      · have e1 := same_walk hs
        have FN2 := Lib.hid (bany_next HC.out hs FN.out)
        clear hs
        go_wp2
        go_round
        case rel => exact ⟨j + 1, by omega, by go_num, FN2⟩
        case measure => simp [intOf]; omega
      · have e1 := same_walk hs
        have FS : Hid (l.any (fun f => same f.nm x) = true) := Lib.hid (bany_at HC.out hs)
        clear hs
        go_wp2
        go_ret
        rw [FS.out]
        exact ⟨rfl, rfl⟩
    · have FN2 : Hid (l.any (fun f => same f.nm x) = false) := Lib.hid (by have := FN.out; rw [List.take_of_length_le (by rw [HK.out]; omega)] at this; exact this)
      go_wp2
      go_ret
      rw [FN2.out]
      exact ⟨rfl, rfl⟩

set_option maxRecDepth 100000 in
set_option maxHeartbeats 4000000 in
theorem block_any (l : List Bk) (x : ByteArray) (p : Option Addr) (cap : Nat) (G : Nat → Nat → Value) (N : Nat) (w : World) (ha : RowA (Lo N) w .blocks p cap G (l.map Bk.lf)) :
    Calls Tryz.prog 46 #[.slice p l.length cap, .string x] w fun e w' => e = .returned (.int .i64 (idxI (plc l x))) ∧ w = w' := by
  have HA := Lib.hid ha
  have hl := ha.hl
  rw [List.length_map] at hl
  simp only [byt] at hl
  obtain ⟨K, hK⟩ : ∃ K, l.length = K := ⟨_, rfl⟩
  have HK := Lib.hid hK
  rw [hK] at hl ⊢
  have hk : K ≤ 140737488351232 := by omega
  clear hK ha hl
  go_enter Tryz.func46, Tryz.ntmps46
  go_wp2
  go_loop [5] (fun i => ∃ j : Nat, j ≤ K ∧ i = .int .i64 j ∧ Hid (plc (l.take j) x = none)) (fun i => K - (intOf i).toNat)
  case atStart => exact ⟨0, Nat.zero_le _, rfl, Lib.hid rfl⟩
  case round =>
    obtain ⟨j, hj, rfl, FN⟩ := hrel
    by_cases hlt : j < K
    · obtain ⟨c, hc⟩ : ∃ c, l[j]? = some c := ⟨_, List.getElem?_eq_getElem (by rw [HK.out]; exact hlt)⟩
      have hrow := HA.out.bk hc
      obtain ⟨b, off, pi, ci, rfl, hb, c0, _⟩ := hrow
      have HC := Lib.hid hc
      clear hc
      cases hs : same c.nm x
      · have e1 := same_walk hs
        have FN2 := Lib.hid (plc_next HC.out hs FN.out)
        clear hs
        go_wp2
        go_round
        case rel => exact ⟨j + 1, by omega, by go_num, FN2⟩
        case measure => simp [intOf]; omega
      · have e1 := same_walk hs
        have FS : Hid (plc l x = some j) := Lib.hid (plc_at HC.out hs FN.out)
        clear hs
        go_wp2
        go_ret
        rw [FS.out]
        exact ⟨rfl, rfl⟩
    · have FN2 : Hid (plc l x = none) := Lib.hid (by have := FN.out; rw [List.take_of_length_le (by rw [HK.out]; omega)] at this; exact this)
      go_wp2
      go_ret
      rw [FN2.out]
      exact ⟨rfl, rfl⟩

set_option maxRecDepth 100000 in
set_option maxHeartbeats 4000000 in
theorem find_any (src : List Cl) (x : ByteArray) (p : Option Addr) (cap : Nat) (G : Nat → Nat → Value) (N : Nat) (w : World) (ha : RowA (Lo N) w .classes p cap G (src.map Cl.lf)) (hN : N ≤ w.heap.size) :
    Calls Tryz.prog 19 #[.slice p src.length cap, .string x] w (tFnd N (fnd src x) w) := by
  have HA := Lib.hid ha
  have hl := ha.hl
  rw [List.length_map] at hl
  simp only [byt] at hl
  obtain ⟨K, hK⟩ : ∃ K, src.length = K := ⟨_, rfl⟩
  have HK := Lib.hid hK
  rw [hK] at hl ⊢
  have hk : K ≤ 140737488351232 := by omega
  clear hK ha hl
  have F0 := Lib.hid (Four.new w (.string ⟨#[]⟩) (.string ⟨#[]⟩) (.slice none 0 0) (.slice none 0 0) 25)
  have HB0 : Hid (Below w.heap.size w (w.alloc (.cells #[.string ⟨#[]⟩, .string ⟨#[]⟩, .slice none 0 0, .slice none 0 0] 25))) := Lib.hid ((Below.refl _ _).alloc (Nat.le_refl _) _)
  go_enter Tryz.func19, Tryz.ntmps19
  go_wp2
  go_loopw [6] (fun i wr => ∃ j : Nat, j ≤ K ∧ i = .int .i64 j ∧ Hid (fnd (src.take j) x = none) ∧ Hid (Below w.heap.size w wr) ∧ Hid (Four wr w.heap.size (.string ⟨#[]⟩) (.string ⟨#[]⟩) (.slice none 0 0) (.slice none 0 0))) (fun i _ => K - (intOf i).toNat)
  case atStart => exact ⟨0, Nat.zero_le _, rfl, Lib.hid rfl, HB0, F0⟩
  case round =>
    obtain ⟨j, hj, rfl, FN, BW, FR⟩ := hrel
    by_cases hlt : j < K
    · obtain ⟨c, hc⟩ : ∃ c, src[j]? = some c := ⟨_, List.getElem?_eq_getElem (by rw [HK.out]; exact hlt)⟩
      have hbw : Below N w wr := BW.out.mono hN
      obtain ⟨b, off, pf, cf, pb, cb, rfl, hb, c0, c1, c2, c3, hcv⟩ := (HA.out.under hbw).cl hc
      have HC := Lib.hid hc
      have HCV := Lib.hid hcv
      have FR' := FR.out
      have r0 := FR'.c0
      have r1 := FR'.c1
      have r2 := FR'.c2
      have r3 := FR'.c3
      have rl := FR'.lt
      have q0 := FR'.f0
      have q1 := FR'.f1
      have q2 := FR'.f2
      have q3 := FR'.f3
      clear hc hcv hbw FR'
      cases hs : same c.nm x
      · have e1 := same_walk hs
        have FN2 := Lib.hid (find_next HC.out hs FN.out)
        clear hs
        generalize c.nm = nm at *
        generalize c.par = par at *
        generalize c.fs.length = kf at *
        generalize c.bs.length = kb at *
        go_wp2
        go_roundw
        case rel => exact ⟨j + 1, by omega, by go_num, FN2, BW, FR⟩
        case measure => simp [intOf]; omega
      · have e1 := same_walk hs
        have FS := Lib.hid (find_at HC.out hs FN.out)
        clear hs
        generalize hnm : c.nm = nm at *
        generalize hpar : c.par = par at *
        generalize hkf : c.fs.length = kf at *
        generalize hkb : c.bs.length = kb at *
        have H1 := Lib.hid hnm
        have H2 := Lib.hid hpar
        have H3 := Lib.hid hkf
        have H4 := Lib.hid hkb
        clear hnm hpar hkf hkb
        go_wp2
        have hp := FR.out.put (.string nm) (.string par) (.slice pf kf cf) (.slice pb kb cb)
        have p0 := hp.c0
        have p1 := hp.c1
        have p2 := hp.c2
        have p3 := hp.c3
        refine bodyPost_ret (v := .tuple #[cv nm par (.slice pf kf cf) (.slice pb kb cb), .bool true]) (by simp [results, Tryz.results19, go_sem, p0, p1, p2, p3]) rfl ?_
        have hb9 := below_put BW.out (Nat.le_refl _) (.string nm) (.string par) (.slice pf kf cf) (.slice pb kb cb)
        rw [FS.out]
        have := tFnd_some (N := N) (HCV.out.across BW.out hb9 hN) hb9
        rw [H1.out, H2.out, H3.out, H4.out] at this
        exact this
    · have FN2 : Hid (fnd src x = none) := Lib.hid (by have := FN.out; rw [List.take_of_length_le (by rw [HK.out]; omega)] at this; exact this)
      have FR' := FR.out
      have r0 := FR'.c0
      have r1 := FR'.c1
      have r2 := FR'.c2
      have r3 := FR'.c3
      have rl := FR'.lt
      have q0 := FR'.f0
      have q1 := FR'.f1
      have q2 := FR'.f2
      have q3 := FR'.f3
      clear FR'
      go_wp2
      have hp := FR.out.put (.string ⟨#[]⟩) (.string ⟨#[]⟩) (.slice none 0 0) (.slice none 0 0)
      have p0 := hp.c0
      have p1 := hp.c1
      have p2 := hp.c2
      have p3 := hp.c3
      refine bodyPost_ret (v := .tuple #[cv ⟨#[]⟩ ⟨#[]⟩ (.slice none 0 0) (.slice none 0 0), .bool false]) (by simp [results, Tryz.results19, go_sem, p0, p1, p2, p3]) rfl ?_
      rw [FN2.out]
      exact tFnd_none (below_put BW.out (Nat.le_refl _) _ _ _ _)
end Go.Proofs.YtoigjeoncdfdmaaGreatDoor.ClW
