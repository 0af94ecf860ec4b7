/-
  What IndexFunc and ContainsFunc return.
-/
import Derived.Test.YtoigjeoncdfdmaaGreatDoorClOwn
namespace Go.Proofs.YtoigjeoncdfdmaaGreatDoor.ClW
open Go Go.RowKit Go.Proofs.YtoigjeoncdfdmaaGreatDoor.NumM Go.Proofs.YtoigjeoncdfdmaaGreatDoor.LexW Go.Proofs.YtoigjeoncdfdmaaGreatDoor.LexM Go.Proofs.YtoigjeoncdfdmaaGreatDoor.ClM
open Go.«Sort»

theorem idxI_any {α : Type} (l : List α) (q : α → Bool) : decide (0 ≤ idxI (l.findIdx? q)) = l.any q := by
  cases h : l.findIdx? q with
  | none =>
    rw [List.findIdx?_eq_none_iff] at h
    rw [decide_eq_false (by simp [idxI])]
    symm
    rw [List.any_eq_false]
    intro x hx
    rw [h x hx]; simp
  | some i =>
    rw [decide_eq_true (by simp [idxI])]
    symm
    cases ha : l.any q
    · exfalso
      rw [List.any_eq_false] at ha
      rw [List.findIdx?_eq_none_iff.2 (fun x hx => by simpa using ha x hx)] at h
      cases h
    · rfl

set_option maxRecDepth 100000 in
set_option maxHeartbeats 4000000 in
theorem noName_ix (l : List ByteArray) (q : ByteArray → Bool) (p : Option Addr) (cap : Nat) (G : Nat → Nat → Value) (N : Nat) (w : World) (ha : RowA (Lo N) w .strs p cap G (SL l)) (hN : N ≤ w.heap.size) (hq : ∀ s ∈ l, ∀ W, Below w.heap.size w W → s.size ≤ 140737488351232 → Calls Tryz.prog 41 #[.string s] W (tBool (q s) W)) :
    Calls Tryz.prog 65 #[.slice p l.length cap, .func (.func 41) #[] #[]] w (tInt (idxI (l.findIdx? q)) w) := by
  have HA := Lib.hid ha
  have HQ := Lib.hid hq
  have hl := ha.hl
  rw [SL_len] at hl
  simp only [byt] at hl
  obtain ⟨K, hK⟩ : ∃ K, l.length = K := ⟨_, rfl⟩
  have HK := Lib.hid hK
  rw [hK] at hl ⊢
  have hk : K ≤ 140737488351232 := by omega
  clear hK ha hl hq
  have HB0 := Lib.hid (Below.refl w.heap.size w)
  go_enter Tryz.func65, Tryz.ntmps65
  go_wp2
  go_loopw [8] (fun i wr => ∃ j : Nat, j ≤ K ∧ i = .int .i64 j ∧ Hid ((l.take j).findIdx? q = none) ∧ Hid (Below w.heap.size w wr)) (fun i _ => K - (intOf i).toNat)
  case atStart => exact ⟨0, Nat.zero_le _, rfl, Lib.hid rfl, HB0⟩
  case round =>
    obtain ⟨j, hj, rfl, FN, BW⟩ := hrel
    by_cases hlt : j < K
    · obtain ⟨c, hc⟩ : ∃ c, l[j]? = some c := ⟨_, List.getElem?_eq_getElem (by rw [HK.out]; exact hlt)⟩
      have hbw : Below N w wr := BW.out.mono hN
      obtain ⟨b, off, rfl, hb, c0, hsz⟩ := (HA.out.under hbw).stS hc
      have CC := Lib.hid (HQ.out c (List.mem_of_getElem? hc) wr BW.out hsz)
      have HC := Lib.hid hc
      clear hc hbw
      cases hs : q c
      · have FN2 := Lib.hid (idx_next HC.out hs FN.out)
        rw [hs] at CC
        clear hs
        go_wp2_with (go_at_call 41; ((with_reducible refine CC.out.mono ?_); rintro e w1 ⟨rfl, hb1⟩; have HB1 := Lib.hid (BW.out.then_ hb1); clear hb1))
        go_roundw
        case rel => exact ⟨j + 1, by omega, by go_num, FN2, HB1⟩
        case measure => simp [intOf]; omega
      · have FS := Lib.hid (idx_at HC.out hs FN.out)
        rw [hs] at CC
        clear hs
        go_wp2_with (go_at_call 41; ((with_reducible refine CC.out.mono ?_); rintro e w1 ⟨rfl, hb1⟩; have HB1 := Lib.hid (BW.out.then_ hb1); clear hb1))
        go_ret
        rw [FS.out]
        exact ⟨rfl, HB1.out⟩
    · have FN2 : Hid (l.findIdx? q = none) := Lib.hid (by have := FN.out; rw [List.take_of_length_le (by rw [HK.out]; omega)] at this; exact this)
      go_wp2
      go_ret
      rw [FN2.out]
      exact ⟨rfl, BW.out⟩

set_option maxRecDepth 100000 in
set_option maxHeartbeats 4000000 in
theorem noName_has (l : List ByteArray) (q : ByteArray → Bool) (p : Option Addr) (cap : Nat) (G : Nat → Nat → Value) (N : Nat) (w : World) (ha : RowA (Lo N) w .strs p cap G (SL l)) (hN : N ≤ w.heap.size) (hq : ∀ s ∈ l, ∀ W, Below w.heap.size w W → s.size ≤ 140737488351232 → Calls Tryz.prog 41 #[.string s] W (tBool (q s) W)) :
    Calls Tryz.prog 40 #[.slice p l.length cap, .func (.func 41) #[] #[]] w (tBool (l.any q) w) := by
  have IC := Lib.hid (noName_ix l q p cap G N w ha hN hq)
  have EQ := Lib.hid (idxI_any l q)
  clear ha hq
  generalize l.length = K at *
  generalize l.any q = c at *
  obtain ⟨i, hi⟩ : ∃ i, idxI (l.findIdx? q) = i := ⟨_, rfl⟩
  rw [hi] at IC EQ
  clear hi
  go_enter Tryz.func40, Tryz.ntmps40
  go_wp2_with (go_at_call 65; ((with_reducible refine IC.out.mono ?_); rintro e w1 ⟨rfl, hb⟩; have HB := Lib.hid hb; clear hb))
  go_ret
  exact tBool_mk (by rw [← EQ.out]) HB.out

set_option maxRecDepth 100000 in
set_option maxHeartbeats 4000000 in
theorem orphan_ix (l : List Cl) (q : Cl → Bool) (p : Option Addr) (cap : Nat) (G : Nat → Nat → Value) (N : Nat) (w : World) (ha : RowA (Lo N) w .classes p cap G (List.map Cl.lf l)) (hN : N ≤ w.heap.size) (a : Nat) (hq : ∀ c ∈ l, ∀ W pf cf pb cb, Below w.heap.size w W → CV (Lo N) W pf cf pb cb c → Calls Tryz.prog 69 #[cv c.nm c.par (.slice pf c.fs.length cf) (.slice pb c.bs.length cb), .pointer (some ⟨a, 0, none⟩)] W (tBool (q c) W)) :
    Calls Tryz.prog 86 #[.slice p l.length cap, .func (.func 69) #[] #[.pointer (some ⟨a, 0, none⟩)]] w (tInt (idxI (l.findIdx? q)) w) := by
  have HA := Lib.hid ha
  have HQ := Lib.hid hq
  have hl := ha.hl
  rw [List.length_map] at hl
  simp only [byt] at hl
  obtain ⟨K, hK⟩ : ∃ K, l.length = K := ⟨_, rfl⟩
  have HK := Lib.hid hK
  rw [hK] at hl ⊢
  have hk : K ≤ 140737488351232 := by omega
  clear hK ha hl hq
  have HB0 := Lib.hid (Below.refl w.heap.size w)
  go_enter Tryz.func86, Tryz.ntmps86
  go_wp2
  go_loopw [8] (fun i wr => ∃ j : Nat, j ≤ K ∧ i = .int .i64 j ∧ Hid ((l.take j).findIdx? q = none) ∧ Hid (Below w.heap.size w wr)) (fun i _ => K - (intOf i).toNat)
  case atStart => exact ⟨0, Nat.zero_le _, rfl, Lib.hid rfl, HB0⟩
  case round =>
    obtain ⟨j, hj, rfl, FN, BW⟩ := hrel
    by_cases hlt : j < K
    · obtain ⟨c, hc⟩ : ∃ c, l[j]? = some c := ⟨_, List.getElem?_eq_getElem (by rw [HK.out]; exact hlt)⟩
      have hbw : Below N w wr := BW.out.mono hN
      obtain ⟨b, off, pf, cf, pb, cb, rfl, hb, c0, c1, c2, c3, hcv⟩ := (HA.out.under hbw).cl hc
      have CC := Lib.hid (HQ.out c (List.mem_of_getElem? hc) wr pf cf pb cb BW.out hcv)
      have HC := Lib.hid hc
      clear hc hbw hcv
      cases hs : q c
      · have FN2 := Lib.hid (idx_next HC.out hs FN.out)
        rw [hs] at CC
        clear hs
        go_wp2_with (go_at_call 69; ((with_reducible refine CC.out.mono ?_); rintro e w1 ⟨rfl, hb1⟩; have HB1 := Lib.hid (BW.out.then_ hb1); clear hb1))
        go_roundw
        case rel => exact ⟨j + 1, by omega, by go_num, FN2, HB1⟩
        case measure => simp [intOf]; omega
      · have FS := Lib.hid (idx_at HC.out hs FN.out)
        rw [hs] at CC
        clear hs
        go_wp2_with (go_at_call 69; ((with_reducible refine CC.out.mono ?_); rintro e w1 ⟨rfl, hb1⟩; have HB1 := Lib.hid (BW.out.then_ hb1); clear hb1))
        go_ret
        rw [FS.out]
        exact ⟨rfl, HB1.out⟩
    · have FN2 : Hid (l.findIdx? q = none) := Lib.hid (by have := FN.out; rw [List.take_of_length_le (by rw [HK.out]; omega)] at this; exact this)
      go_wp2
      go_ret
      rw [FN2.out]
      exact ⟨rfl, BW.out⟩

set_option maxRecDepth 100000 in
set_option maxHeartbeats 4000000 in
theorem orphan_has (l : List Cl) (q : Cl → Bool) (p : Option Addr) (cap : Nat) (G : Nat → Nat → Value) (N : Nat) (w : World) (ha : RowA (Lo N) w .classes p cap G (List.map Cl.lf l)) (hN : N ≤ w.heap.size) (a : Nat) (hq : ∀ c ∈ l, ∀ W pf cf pb cb, Below w.heap.size w W → CV (Lo N) W pf cf pb cb c → Calls Tryz.prog 69 #[cv c.nm c.par (.slice pf c.fs.length cf) (.slice pb c.bs.length cb), .pointer (some ⟨a, 0, none⟩)] W (tBool (q c) W)) :
    Calls Tryz.prog 74 #[.slice p l.length cap, .func (.func 69) #[] #[.pointer (some ⟨a, 0, none⟩)]] w (tBool (l.any q) w) := by
  have IC := Lib.hid (orphan_ix l q p cap G N w ha hN a hq)
  have EQ := Lib.hid (idxI_any l q)
  clear ha hq
  generalize l.length = K at *
  generalize l.any q = c at *
  obtain ⟨i, hi⟩ : ∃ i, idxI (l.findIdx? q) = i := ⟨_, rfl⟩
  rw [hi] at IC EQ
  clear hi
  go_enter Tryz.func74, Tryz.ntmps74
  go_wp2_with (go_at_call 86; ((with_reducible refine IC.out.mono ?_); rintro e w1 ⟨rfl, hb⟩; have HB := Lib.hid hb; clear hb))
  go_ret
  exact tBool_mk (by rw [← EQ.out]) HB.out

set_option maxRecDepth 100000 in
set_option maxHeartbeats 4000000 in
theorem endless_ix (l : List Cl) (q : Cl → Bool) (p : Option Addr) (cap : Nat) (G : Nat → Nat → Value) (N : Nat) (w : World) (ha : RowA (Lo N) w .classes p cap G (List.map Cl.lf l)) (hN : N ≤ w.heap.size) (a : Nat) (hq : ∀ c ∈ l, ∀ W pf cf pb cb, Below w.heap.size w W → CV (Lo N) W pf cf pb cb c → Calls Tryz.prog 70 #[cv c.nm c.par (.slice pf c.fs.length cf) (.slice pb c.bs.length cb), .pointer (some ⟨a, 0, none⟩)] W (tBool (q c) W)) :
    Calls Tryz.prog 86 #[.slice p l.length cap, .func (.func 70) #[] #[.pointer (some ⟨a, 0, none⟩)]] w (tInt (idxI (l.findIdx? q)) w) := by
  have HA := Lib.hid ha
  have HQ := Lib.hid hq
  have hl := ha.hl
  rw [List.length_map] at hl
  simp only [byt] at hl
  obtain ⟨K, hK⟩ : ∃ K, l.length = K := ⟨_, rfl⟩
  have HK := Lib.hid hK
  rw [hK] at hl ⊢
  have hk : K ≤ 140737488351232 := by omega
  clear hK ha hl hq
  have HB0 := Lib.hid (Below.refl w.heap.size w)
  go_enter Tryz.func86, Tryz.ntmps86
  go_wp2
  go_loopw [8] (fun i wr => ∃ j : Nat, j ≤ K ∧ i = .int .i64 j ∧ Hid ((l.take j).findIdx? q = none) ∧ Hid (Below w.heap.size w wr)) (fun i _ => K - (intOf i).toNat)
  case atStart => exact ⟨0, Nat.zero_le _, rfl, Lib.hid rfl, HB0⟩
  case round =>
    obtain ⟨j, hj, rfl, FN, BW⟩ := hrel
    by_cases hlt : j < K
    · obtain ⟨c, hc⟩ : ∃ c, l[j]? = some c := ⟨_, List.getElem?_eq_getElem (by rw [HK.out]; exact hlt)⟩
      have hbw : Below N w wr := BW.out.mono hN
      obtain ⟨b, off, pf, cf, pb, cb, rfl, hb, c0, c1, c2, c3, hcv⟩ := (HA.out.under hbw).cl hc
      have CC := Lib.hid (HQ.out c (List.mem_of_getElem? hc) wr pf cf pb cb BW.out hcv)
      have HC := Lib.hid hc
      clear hc hbw hcv
      cases hs : q c
      · have FN2 := Lib.hid (idx_next HC.out hs FN.out)
        rw [hs] at CC
        clear hs
        go_wp2_with (go_at_call 70; ((with_reducible refine CC.out.mono ?_); rintro e w1 ⟨rfl, hb1⟩; have HB1 := Lib.hid (BW.out.then_ hb1); clear hb1))
        go_roundw
        case rel => exact ⟨j + 1, by omega, by go_num, FN2, HB1⟩
        case measure => simp [intOf]; omega
      · have FS := Lib.hid (idx_at HC.out hs FN.out)
        rw [hs] at CC
        clear hs
        go_wp2_with (go_at_call 70; ((with_reducible refine CC.out.mono ?_); rintro e w1 ⟨rfl, hb1⟩; have HB1 := Lib.hid (BW.out.then_ hb1); clear hb1))
        go_ret
        rw [FS.out]
        exact ⟨rfl, HB1.out⟩
    · have FN2 : Hid (l.findIdx? q = none) := Lib.hid (by have := FN.out; rw [List.take_of_length_le (by rw [HK.out]; omega)] at this; exact this)
      go_wp2
      go_ret
      rw [FN2.out]
      exact ⟨rfl, BW.out⟩

set_option maxRecDepth 100000 in
set_option maxHeartbeats 4000000 in
theorem endless_has (l : List Cl) (q : Cl → Bool) (p : Option Addr) (cap : Nat) (G : Nat → Nat → Value) (N : Nat) (w : World) (ha : RowA (Lo N) w .classes p cap G (List.map Cl.lf l)) (hN : N ≤ w.heap.size) (a : Nat) (hq : ∀ c ∈ l, ∀ W pf cf pb cb, Below w.heap.size w W → CV (Lo N) W pf cf pb cb c → Calls Tryz.prog 70 #[cv c.nm c.par (.slice pf c.fs.length cf) (.slice pb c.bs.length cb), .pointer (some ⟨a, 0, none⟩)] W (tBool (q c) W)) :
    Calls Tryz.prog 74 #[.slice p l.length cap, .func (.func 70) #[] #[.pointer (some ⟨a, 0, none⟩)]] w (tBool (l.any q) w) := by
  have IC := Lib.hid (endless_ix l q p cap G N w ha hN a hq)
  have EQ := Lib.hid (idxI_any l q)
  clear ha hq
  generalize l.length = K at *
  generalize l.any q = c at *
  obtain ⟨i, hi⟩ : ∃ i, idxI (l.findIdx? q) = i := ⟨_, rfl⟩
  rw [hi] at IC EQ
  clear hi
  go_enter Tryz.func74, Tryz.ntmps74
  go_wp2_with (go_at_call 86; ((with_reducible refine IC.out.mono ?_); rintro e w1 ⟨rfl, hb⟩; have HB := Lib.hid hb; clear hb))
  go_ret
  exact tBool_mk (by rw [← EQ.out]) HB.out

set_option maxRecDepth 100000 in
set_option maxHeartbeats 4000000 in
theorem refield_ix (l : List Cl) (q : Cl → Bool) (p : Option Addr) (cap : Nat) (G : Nat → Nat → Value) (N : Nat) (w : World) (ha : RowA (Lo N) w .classes p cap G (List.map Cl.lf l)) (hN : N ≤ w.heap.size) (a : Nat) (hq : ∀ c ∈ l, ∀ W pf cf pb cb, Below w.heap.size w W → CV (Lo N) W pf cf pb cb c → Calls Tryz.prog 72 #[cv c.nm c.par (.slice pf c.fs.length cf) (.slice pb c.bs.length cb), .pointer (some ⟨a, 0, none⟩)] W (tBool (q c) W)) :
    Calls Tryz.prog 86 #[.slice p l.length cap, .func (.func 72) #[] #[.pointer (some ⟨a, 0, none⟩)]] w (tInt (idxI (l.findIdx? q)) w) := by
  have HA := Lib.hid ha
  have HQ := Lib.hid hq
  have hl := ha.hl
  rw [List.length_map] at hl
  simp only [byt] at hl
  obtain ⟨K, hK⟩ : ∃ K, l.length = K := ⟨_, rfl⟩
  have HK := Lib.hid hK
  rw [hK] at hl ⊢
  have hk : K ≤ 140737488351232 := by omega
  clear hK ha hl hq
  have HB0 := Lib.hid (Below.refl w.heap.size w)
  go_enter Tryz.func86, Tryz.ntmps86
  go_wp2
  go_loopw [8] (fun i wr => ∃ j : Nat, j ≤ K ∧ i = .int .i64 j ∧ Hid ((l.take j).findIdx? q = none) ∧ Hid (Below w.heap.size w wr)) (fun i _ => K - (intOf i).toNat)
  case atStart => exact ⟨0, Nat.zero_le _, rfl, Lib.hid rfl, HB0⟩
  case round =>
    obtain ⟨j, hj, rfl, FN, BW⟩ := hrel
    by_cases hlt : j < K
    · obtain ⟨c, hc⟩ : ∃ c, l[j]? = some c := ⟨_, List.getElem?_eq_getElem (by rw [HK.out]; exact hlt)⟩
      have hbw : Below N w wr := BW.out.mono hN
      obtain ⟨b, off, pf, cf, pb, cb, rfl, hb, c0, c1, c2, c3, hcv⟩ := (HA.out.under hbw).cl hc
      have CC := Lib.hid (HQ.out c (List.mem_of_getElem? hc) wr pf cf pb cb BW.out hcv)
      have HC := Lib.hid hc
      clear hc hbw hcv
      cases hs : q c
      · have FN2 := Lib.hid (idx_next HC.out hs FN.out)
        rw [hs] at CC
        clear hs
        go_wp2_with (go_at_call 72; ((with_reducible refine CC.out.mono ?_); rintro e w1 ⟨rfl, hb1⟩; have HB1 := Lib.hid (BW.out.then_ hb1); clear hb1))
        go_roundw
        case rel => exact ⟨j + 1, by omega, by go_num, FN2, HB1⟩
        case measure => simp [intOf]; omega
      · have FS := Lib.hid (idx_at HC.out hs FN.out)
        rw [hs] at CC
        clear hs
        go_wp2_with (go_at_call 72; ((with_reducible refine CC.out.mono ?_); rintro e w1 ⟨rfl, hb1⟩; have HB1 := Lib.hid (BW.out.then_ hb1); clear hb1))
        go_ret
        rw [FS.out]
        exact ⟨rfl, HB1.out⟩
    · have FN2 : Hid (l.findIdx? q = none) := Lib.hid (by have := FN.out; rw [List.take_of_length_le (by rw [HK.out]; omega)] at this; exact this)
      go_wp2
      go_ret
      rw [FN2.out]
      exact ⟨rfl, BW.out⟩

set_option maxRecDepth 100000 in
set_option maxHeartbeats 4000000 in
theorem refield_has (l : List Cl) (q : Cl → Bool) (p : Option Addr) (cap : Nat) (G : Nat → Nat → Value) (N : Nat) (w : World) (ha : RowA (Lo N) w .classes p cap G (List.map Cl.lf l)) (hN : N ≤ w.heap.size) (a : Nat) (hq : ∀ c ∈ l, ∀ W pf cf pb cb, Below w.heap.size w W → CV (Lo N) W pf cf pb cb c → Calls Tryz.prog 72 #[cv c.nm c.par (.slice pf c.fs.length cf) (.slice pb c.bs.length cb), .pointer (some ⟨a, 0, none⟩)] W (tBool (q c) W)) :
    Calls Tryz.prog 74 #[.slice p l.length cap, .func (.func 72) #[] #[.pointer (some ⟨a, 0, none⟩)]] w (tBool (l.any q) w) := by
  have IC := Lib.hid (refield_ix l q p cap G N w ha hN a hq)
  have EQ := Lib.hid (idxI_any l q)
  clear ha hq
  generalize l.length = K at *
  generalize l.any q = c at *
  obtain ⟨i, hi⟩ : ∃ i, idxI (l.findIdx? q) = i := ⟨_, rfl⟩
  rw [hi] at IC EQ
  clear hi
  go_enter Tryz.func74, Tryz.ntmps74
  go_wp2_with (go_at_call 86; ((with_reducible refine IC.out.mono ?_); rintro e w1 ⟨rfl, hb⟩; have HB := Lib.hid hb; clear hb))
  go_ret
  exact tBool_mk (by rw [← EQ.out]) HB.out

set_option maxRecDepth 100000 in
set_option maxHeartbeats 4000000 in
theorem inmuch_ix (l : List Cl) (q : Cl → Bool) (p : Option Addr) (cap : Nat) (G : Nat → Nat → Value) (N : Nat) (w : World) (ha : RowA (Lo N) w .classes p cap G (List.map Cl.lf l)) (hN : N ≤ w.heap.size) (a : Nat) (hq : ∀ c ∈ l, ∀ W pf cf pb cb, Below w.heap.size w W → CV (Lo N) W pf cf pb cb c → Calls Tryz.prog 73 #[cv c.nm c.par (.slice pf c.fs.length cf) (.slice pb c.bs.length cb), .pointer (some ⟨a, 0, none⟩)] W (tBool (q c) W)) :
    Calls Tryz.prog 86 #[.slice p l.length cap, .func (.func 73) #[] #[.pointer (some ⟨a, 0, none⟩)]] w (tInt (idxI (l.findIdx? q)) w) := by
  have HA := Lib.hid ha
  have HQ := Lib.hid hq
  have hl := ha.hl
  rw [List.length_map] at hl
  simp only [byt] at hl
  obtain ⟨K, hK⟩ : ∃ K, l.length = K := ⟨_, rfl⟩
  have HK := Lib.hid hK
  rw [hK] at hl ⊢
  have hk : K ≤ 140737488351232 := by omega
  clear hK ha hl hq
  have HB0 := Lib.hid (Below.refl w.heap.size w)
  go_enter Tryz.func86, Tryz.ntmps86
  go_wp2
  go_loopw [8] (fun i wr => ∃ j : Nat, j ≤ K ∧ i = .int .i64 j ∧ Hid ((l.take j).findIdx? q = none) ∧ Hid (Below w.heap.size w wr)) (fun i _ => K - (intOf i).toNat)
  case atStart => exact ⟨0, Nat.zero_le _, rfl, Lib.hid rfl, HB0⟩
  case round =>
    obtain ⟨j, hj, rfl, FN, BW⟩ := hrel
    by_cases hlt : j < K
    · obtain ⟨c, hc⟩ : ∃ c, l[j]? = some c := ⟨_, List.getElem?_eq_getElem (by rw [HK.out]; exact hlt)⟩
      have hbw : Below N w wr := BW.out.mono hN
      obtain ⟨b, off, pf, cf, pb, cb, rfl, hb, c0, c1, c2, c3, hcv⟩ := (HA.out.under hbw).cl hc
      have CC := Lib.hid (HQ.out c (List.mem_of_getElem? hc) wr pf cf pb cb BW.out hcv)
      have HC := Lib.hid hc
      clear hc hbw hcv
      cases hs : q c
      · have FN2 := Lib.hid (idx_next HC.out hs FN.out)
        rw [hs] at CC
        clear hs
        go_wp2_with (go_at_call 73; ((with_reducible refine CC.out.mono ?_); rintro e w1 ⟨rfl, hb1⟩; have HB1 := Lib.hid (BW.out.then_ hb1); clear hb1))
        go_roundw
        case rel => exact ⟨j + 1, by omega, by go_num, FN2, HB1⟩
        case measure => simp [intOf]; omega
      · have FS := Lib.hid (idx_at HC.out hs FN.out)
        rw [hs] at CC
        clear hs
        go_wp2_with (go_at_call 73; ((with_reducible refine CC.out.mono ?_); rintro e w1 ⟨rfl, hb1⟩; have HB1 := Lib.hid (BW.out.then_ hb1); clear hb1))
        go_ret
        rw [FS.out]
        exact ⟨rfl, HB1.out⟩
    · have FN2 : Hid (l.findIdx? q = none) := Lib.hid (by have := FN.out; rw [List.take_of_length_le (by rw [HK.out]; omega)] at this; exact this)
      go_wp2
      go_ret
      rw [FN2.out]
      exact ⟨rfl, BW.out⟩

set_option maxRecDepth 100000 in
set_option maxHeartbeats 4000000 in
theorem inmuch_has (l : List Cl) (q : Cl → Bool) (p : Option Addr) (cap : Nat) (G : Nat → Nat → Value) (N : Nat) (w : World) (ha : RowA (Lo N) w .classes p cap G (List.map Cl.lf l)) (hN : N ≤ w.heap.size) (a : Nat) (hq : ∀ c ∈ l, ∀ W pf cf pb cb, Below w.heap.size w W → CV (Lo N) W pf cf pb cb c → Calls Tryz.prog 73 #[cv c.nm c.par (.slice pf c.fs.length cf) (.slice pb c.bs.length cb), .pointer (some ⟨a, 0, none⟩)] W (tBool (q c) W)) :
    Calls Tryz.prog 74 #[.slice p l.length cap, .func (.func 73) #[] #[.pointer (some ⟨a, 0, none⟩)]] w (tBool (l.any q) w) := by
  have IC := Lib.hid (inmuch_ix l q p cap G N w ha hN a hq)
  have EQ := Lib.hid (idxI_any l q)
  clear ha hq
  generalize l.length = K at *
  generalize l.any q = c at *
  obtain ⟨i, hi⟩ : ∃ i, idxI (l.findIdx? q) = i := ⟨_, rfl⟩
  rw [hi] at IC EQ
  clear hi
  go_enter Tryz.func74, Tryz.ntmps74
  go_wp2_with (go_at_call 86; ((with_reducible refine IC.out.mono ?_); rintro e w1 ⟨rfl, hb⟩; have HB := Lib.hid hb; clear hb))
  go_ret
  exact tBool_mk (by rw [← EQ.out]) HB.out

set_option maxRecDepth 100000 in
set_option maxHeartbeats 4000000 in
theorem repl_ix (l : List Bk) (q : Bk → Bool) (p : Option Addr) (cap : Nat) (G : Nat → Nat → Value) (N : Nat) (w : World) (ha : RowA (Lo N) w .blocks p cap G (List.map Bk.lf l)) (hN : N ≤ w.heap.size) (a : Nat) (hq : ∀ c ∈ l, ∀ W v, Below w.heap.size w W → Calls Tryz.prog 106 #[bv c.nm v, .pointer (some ⟨a, 0, none⟩)] W (tBool (q c) W)) :
    Calls Tryz.prog 105 #[.slice p l.length cap, .func (.func 106) #[] #[.pointer (some ⟨a, 0, none⟩)]] w (tInt (idxI (l.findIdx? q)) w) := by
  have HA := Lib.hid ha
  have HQ := Lib.hid hq
  have hl := ha.hl
  rw [List.length_map] at hl
  simp only [byt] at hl
  obtain ⟨K, hK⟩ : ∃ K, l.length = K := ⟨_, rfl⟩
  have HK := Lib.hid hK
  rw [hK] at hl ⊢
  have hk : K ≤ 140737488351232 := by omega
  clear hK ha hl hq
  have HB0 := Lib.hid (Below.refl w.heap.size w)
  go_enter Tryz.func105, Tryz.ntmps105
  go_wp2
  go_loopw [8] (fun i wr => ∃ j : Nat, j ≤ K ∧ i = .int .i64 j ∧ Hid ((l.take j).findIdx? q = none) ∧ Hid (Below w.heap.size w wr)) (fun i _ => K - (intOf i).toNat)
  case atStart => exact ⟨0, Nat.zero_le _, rfl, Lib.hid rfl, HB0⟩
  case round =>
    obtain ⟨j, hj, rfl, FN, BW⟩ := hrel
    by_cases hlt : j < K
    · obtain ⟨c, hc⟩ : ∃ c, l[j]? = some c := ⟨_, List.getElem?_eq_getElem (by rw [HK.out]; exact hlt)⟩
      have hbw : Below N w wr := BW.out.mono hN
      obtain ⟨b, off, pi, ci, rfl, hb, c0, c1, hsz, _⟩ := (HA.out.under hbw).bk hc
      have CC := Lib.hid (HQ.out c (List.mem_of_getElem? hc) wr (.slice pi c.it.length ci) BW.out)
      have HC := Lib.hid hc
      clear hc hbw
      cases hs : q c
      · have FN2 := Lib.hid (idx_next HC.out hs FN.out)
        rw [hs] at CC
        clear hs
        go_wp2_with (go_at_call 106; ((with_reducible refine CC.out.mono ?_); rintro e w1 ⟨rfl, hb1⟩; have HB1 := Lib.hid (BW.out.then_ hb1); clear hb1))
        go_roundw
        case rel => exact ⟨j + 1, by omega, by go_num, FN2, HB1⟩
        case measure => simp [intOf]; omega
      · have FS := Lib.hid (idx_at HC.out hs FN.out)
        rw [hs] at CC
        clear hs
        go_wp2_with (go_at_call 106; ((with_reducible refine CC.out.mono ?_); rintro e w1 ⟨rfl, hb1⟩; have HB1 := Lib.hid (BW.out.then_ hb1); clear hb1))
        go_ret
        rw [FS.out]
        exact ⟨rfl, HB1.out⟩
    · have FN2 : Hid (l.findIdx? q = none) := Lib.hid (by have := FN.out; rw [List.take_of_length_le (by rw [HK.out]; omega)] at this; exact this)
      go_wp2
      go_ret
      rw [FN2.out]
      exact ⟨rfl, BW.out⟩
end Go.Proofs.YtoigjeoncdfdmaaGreatDoor.ClW
