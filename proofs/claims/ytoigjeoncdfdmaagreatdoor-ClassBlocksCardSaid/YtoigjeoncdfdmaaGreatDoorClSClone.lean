/-
  What slices.Clone returns; rows in a block of the call's own.
-/
import Derived.Test.YtoigjeoncdfdmaaGreatDoorClSame
import Derived.OwnWalk
namespace Go.Proofs.YtoigjeoncdfdmaaGreatDoor.ClW
open Go Go.RowKit Go.Proofs.YtoigjeoncdfdmaaGreatDoor.NumM Go.Proofs.YtoigjeoncdfdmaaGreatDoor.LexW Go.Proofs.YtoigjeoncdfdmaaGreatDoor.LexM Go.Proofs.YtoigjeoncdfdmaaGreatDoor.ClM
open Go.«Sort»

/-- A row of K elements of k cells in a block of the call's own. -/
structure RowB (w : World) (g k K : Nat) (F : Nat → Nat → Value) : Prop where
  lt : g < w.heap.size
  cell : ∀ a r, a < K → r < k → w.cell? ⟨g, a * k + r, none⟩ = some (F a r)
  frz : ∀ o, w.frozen? ⟨g, o, none⟩ = false
theorem RowB.stay {w w' : World} {g k K : Nat} {F : Nat → Nat → Value} (h : RowB w g k K F) (hb : Below w.heap.size w w') : RowB w' g k K F :=
  ⟨Nat.lt_of_lt_of_le h.lt hb.size, fun a r ha hr => (hb.cell (p := ⟨g, a * k + r, none⟩) h.lt).trans (h.cell a r ha hr), fun o => (hb.frozen (p := ⟨g, o, none⟩) h.lt).trans (h.frz o)⟩
theorem RowB.alloc {w : World} {g k K : Nat} {F : Nat → Nat → Value} (h : RowB w g k K F) (o : Obj) : RowB (w.alloc o) g k K F := h.stay (ba w o)
theorem RowB.far {w : World} {g k K b o : Nat} {v : Value} {F : Nat → Nat → Value} (h : RowB w g k K F) (hn : g ≠ b) : RowB (w.setCell ⟨b, o, none⟩ v) g k K F :=
  ⟨by rw [setCell_size]; exact h.lt, fun a r ha hr => (World.cell?_setCell_other _ _ _ _ (fun e => hn (congrArg Addr.block e).symm)).trans (h.cell a r ha hr), fun o => by rw [World.frozen?_setCell]; exact h.frz o⟩
/-- Values one behind another. -/
def putN (w : World) (g o : Nat) : List Value → World
  | [] => w
  | y :: ys => putN (w.setCell ⟨g, o, none⟩ y) g (o + 1) ys
theorem putN_size (g : Nat) : ∀ (ys : List Value) (w : World) (o : Nat), (putN w g o ys).heap.size = w.heap.size
  | [], _, _ => rfl
  | y :: ys, w, o => by rw [putN, putN_size g ys, setCell_size]
theorem putN_frz (g b q : Nat) : ∀ (ys : List Value) (w : World) (o : Nat), (putN w g o ys).frozen? ⟨b, q, none⟩ = w.frozen? ⟨b, q, none⟩
  | [], _, _ => rfl
  | y :: ys, w, o => by rw [putN, putN_frz g b q ys, World.frozen?_setCell]
theorem putN_far (g b q : Nat) (hn : g ≠ b) : ∀ (ys : List Value) (w : World) (o : Nat), (putN w g o ys).cell? ⟨b, q, none⟩ = w.cell? ⟨b, q, none⟩
  | [], _, _ => rfl
  | y :: ys, w, o => by rw [putN, putN_far g b q hn ys, World.cell?_setCell_other _ _ _ _ (fun e => hn (congrArg Addr.block e))]
theorem putN_low (g q : Nat) : ∀ (ys : List Value) (w : World) (o : Nat), q < o ∨ o + ys.length ≤ q → (putN w g o ys).cell? ⟨g, q, none⟩ = w.cell? ⟨g, q, none⟩
  | [], _, _, _ => rfl
  | y :: ys, w, o, h => by
    rw [List.length_cons] at h
    rw [putN, putN_low g q ys _ _ (by omega), other _ _ (by omega)]
theorem putN_at (g q : Nat) : ∀ (ys : List Value) (w : World) (o : Nat) (v : Value), w.cell? ⟨g, q, none⟩ = some v → o ≤ q → q < o + ys.length → (putN w g o ys).cell? ⟨g, q, none⟩ = some (ys.getD (q - o) undef)
  | [], _, _, _, _, h1, h2 => by simp at h2; omega
  | y :: ys, w, o, v, hv, h1, h2 => by
    rw [List.length_cons] at h2
    rw [putN]
    rcases Nat.eq_or_lt_of_le h1 with e | e
    · subst e
      rw [putN_low g o ys _ _ (by omega), cell_set hv, Nat.sub_self]; rfl
    · rw [putN_at g q ys _ (o + 1) v (by rw [other _ _ (by omega)]; exact hv) e (by omega), show q - o = (q - (o + 1)) + 1 by omega]; rfl
theorem putN_below {w0 : World} {g : Nat} (hg : w0.heap.size ≤ g) : ∀ (ys : List Value) (w : World) (o : Nat), Below w0.heap.size w0 w → Below w0.heap.size w0 (putN w g o ys)
  | [], _, _, h => h
  | _ :: ys, _, _, h => putN_below hg ys _ _ (h.setCell hg _)
theorem RowB.putN {w : World} {g k K : Nat} {F : Nat → Nat → Value} (h : RowB w g k K F) {j : Nat} (hj : j < K) (ys : List Value) (hy : ys.length = k) : RowB (putN w g (j * k) ys) g k K (fun a r => if a = j then ys.getD r undef else F a r) := by
  refine ⟨by rw [putN_size]; exact h.lt, fun a r ha hr => ?_, fun o => by rw [putN_frz]; exact h.frz o⟩
  by_cases e : a = j
  · subst e
    rw [if_pos rfl, putN_at g _ ys w _ _ (h.cell a r ha hr) (by omega) (by omega)]
    rw [show a * k + r - a * k = r by omega]
  · rw [if_neg e, putN_low, h.cell a r ha hr]
    rcases Nat.lt_or_gt_of_ne e with q | q
    · left
      have := Nat.mul_le_mul_right k (show a + 1 ≤ j by omega)
      rw [Nat.succ_mul] at this; omega
    · right
      have := Nat.mul_le_mul_right k (show j + 1 ≤ a by omega)
      rw [Nat.succ_mul] at this; omega
theorem At.putN {lo g o : Nat} {w : World} {v : Value} {sh : Sh} {lf : Lf} (h : At (Hi lo w) w sh v lf) (hg : g < lo) (ys : List Value) : At (Hi lo (ClW.putN w g o ys)) (ClW.putN w g o ys) sh v lf :=
  h.kept (fun _ q => ⟨q.1, by rw [putN_size]; exact q.2⟩) (fun b _ q _ hv => by rw [putN_far g b _ (by omega)]; exact hv)
theorem At.one {S : Nat → Prop} {w : World} {sh : Sh} {v : Value} {lf : Lf} (h : At S w sh v lf) : v.oneCell' = true := by cases h <;> rfl
/-- The cells of a row. -/
def flatF (k K : Nat) (F : Nat → Nat → Value) : List Value := (List.range (K * k)).map (fun o => F (o / k) (o % k))
theorem flatF_len (k K : Nat) (F : Nat → Nat → Value) : (flatF k K F).length = K * k := by simp [flatF]
theorem flatF_at {k K : Nat} {F : Nat → Nat → Value} {o : Nat} {u : Value} (h : (flatF k K F)[o]? = some u) : o < K * k ∧ u = F (o / k) (o % k) := by
  have hl := (List.getElem?_eq_some_iff.1 h).1
  rw [flatF_len] at hl
  unfold flatF at h
  rw [List.getElem?_map, List.getElem?_range hl] at h
  exact ⟨hl, by simpa using h.symm⟩
theorem flatF_get {k K : Nat} {F : Nat → Nat → Value} {a r : Nat} (ha : a < K) (hr : r < k) : (flatF k K F)[a * k + r]? = some (F a r) := by
  have hl : a * k + r < K * k := by
    have := Nat.mul_le_mul_right k (show a + 1 ≤ K by omega)
    rw [Nat.succ_mul] at this; omega
  unfold flatF
  rw [List.getElem?_map, List.getElem?_range hl]
  have e1 : (a * k + r) / k = a := by rw [Nat.mul_comm, Nat.mul_add_div (by omega)]; rw [Nat.div_eq_of_lt hr]; rfl
  have e2 : (a * k + r) % k = r := by rw [Nat.mul_comm, Nat.mul_add_mod, Nat.mod_eq_of_lt hr]
  simp [e1, e2]
theorem addr_add (b off j : Nat) : (⟨b, off, none⟩ : Addr).add j = ⟨b, off + j, none⟩ := by
  unfold Addr.add
  by_cases h : j = 0
  · subst h; simp
  · simp [h]
theorem RowA.news {S : Nat → Prop} {w : World} {kd : Kd} {ad : Addr} {cap : Nat} {F : Nat → Nat → Value} {l : List (List Lf)} (h : RowA S w kd (some ad) cap F l) (j : Nat) (u : Value) (hu : (flatF (shp kd).length l.length F)[j]? = some u) : w.cell? (ad.add j) = some u ∧ S (ad.add j).block ∧ u.oneCell' = true := by
  obtain ⟨hj, rfl⟩ := flatF_at hu
  have hk : 0 < (shp kd).length := by cases kd <;> decide
  have hi : j / (shp kd).length < l.length := Nat.div_lt_of_lt_mul (by rw [Nat.mul_comm]; exact hj)
  have hr : j % (shp kd).length < (shp kd).length := Nat.mod_lt _ hk
  obtain ⟨b, off, e, hb, hc⟩ := h.hp (Nat.lt_of_le_of_lt (Nat.zero_le _) hi)
  cases e
  rw [addr_add]
  have := hc _ _ hi hr
  have e : off + j / (shp kd).length * (shp kd).length + j % (shp kd).length = off + j := by
    rw [Nat.add_assoc, Nat.div_add_mod']
  rw [e] at this
  refine ⟨this, hb, ?_⟩
  have hx : l[j / (shp kd).length]? = some (l[j / (shp kd).length]) := List.getElem?_eq_getElem hi
  have hw := h.hw _ _ hx
  exact (h.hx _ _ _ _ _ hx (List.getElem?_eq_getElem (by omega)) (List.getElem?_eq_getElem hr)).one
def tClone (k K : Nat) (F : Nat → Nat → Value) (w : World) (e : Ending) (w' : World) : Prop :=
  ∃ p' cap', e = .returned (.slice p' K cap') ∧ K ≤ cap' ∧ Below w.heap.size w w' ∧ (0 < K → ∃ g, p' = some ⟨g, 0, none⟩ ∧ w.heap.size ≤ g ∧ RowB w' g k K F)
theorem rowB_own {w : World} {B k K : Nat} {v : Value} {e : TypeId} {F : Nat → Nat → Value} (h : w.ownsRow B e k v K (flatF k K F)) : ∃ p' cap', v = .slice p' K cap' ∧ K ≤ cap' ∧ (0 < K → ∃ g, p' = some ⟨g, 0, none⟩ ∧ B ≤ g ∧ RowB w g k K F) := by
  obtain ⟨p, cap, rfl⟩ := own_len h
  refine ⟨p, cap, rfl, own_cap h, fun h0 => ?_⟩
  obtain ⟨g, rfl, hB, hg, hc⟩ := own_cells h h0
  refine ⟨g, rfl, hB, hg, fun a r ha hr => ?_, fun o => ?_⟩
  · have hl : a * k + r < K * k := by
      have := Nat.mul_le_mul_right k (show a + 1 ≤ K by omega)
      rw [Nat.succ_mul] at this; omega
    have := hc (a * k + r) hl
    rw [Nat.zero_add, List.getD_eq_getElem?_getD, flatF_get ha hr] at this
    exact this
  · obtain ⟨_, ⟨hv, _⟩ | ⟨g', c', cur, hv, _, hgg, _⟩⟩ := h
    · cases hv
    · cases hv
      simp only [World.frozen?, hgg]; simp
/-- A row in new memory is returned. -/
def tRow (kd : Kd) (l : List (List Lf)) (w : World) (e : Ending) (w' : World) : Prop :=
  ∃ p' cap', e = .returned (.slice p' l.length cap') ∧ At (Hi w.heap.size w') w' (.r kd) (.slice p' l.length cap') (.row kd l) ∧ Below w.heap.size w w'
theorem At.plain {S S' : Nat → Prop} {w w' : World} {sh : Sh} {v : Value} {lf : Lf} (h : At S w sh v lf) (hs : ∀ k, sh ≠ .r k) : At S' w' sh v lf := by
  cases h with
  | n i => exact .n i
  | s t h => exact .s t h
  | b v => exact .b v
  | row k l p cap F => exact absurd rfl (hs k)
theorem tClone_row {kd : Kd} {S : Nat → Prop} {p : Option Addr} {cap : Nat} {F : Nat → Nat → Value} {l : List (List Lf)} {w w' : World} {e : Ending} (ha : RowA S w kd p cap F l) (hs : ∀ sh ∈ shp kd, ∀ k, sh ≠ .r k) (h : tClone (shp kd).length l.length F w e w') : tRow kd l w e w' := by
  obtain ⟨p', cap', rfl, hc, hb, hr⟩ := h
  refine ⟨p', cap', rfl, RowA.at_ (F := F) ⟨ha.hl, hc, fun h0 => ?_, ha.hw, fun i x j y sh h1 h2 h3 => (ha.hx i x j y sh h1 h2 h3).plain (hs sh (List.mem_of_getElem? h3))⟩, hb⟩
  obtain ⟨g, rfl, hg, hB⟩ := hr h0
  exact ⟨g, 0, rfl, ⟨hg, hB.lt⟩, fun i j hi hj => by rw [Nat.zero_add]; exact hB.cell i j hi hj⟩

theorem infoFields : (Tryz.prog.info? 27).map (fun i => (i.zero, i.size, i.bytes)) = some (some (.agg #[.string ⟨#[]⟩, .int .i64 0, .int .i64 0, .int .i64 0, .int .i64 0]), 5, 48) := by kernel_rfl
set_option maxRecDepth 100000 in
set_option maxHeartbeats 4000000 in
theorem scloneFields (l : List (List Lf)) (p : Option Addr) (cap : Nat) (F : Nat → Nat → Value) (N : Nat) (w : World) (ha : RowA (Lo N) w .fields p cap F l) (hN : N ≤ w.heap.size) :
    Calls Tryz.prog 66 #[.slice p l.length cap] w (tClone 5 l.length F w) := by
  obtain ⟨i0, hi, hz0, hz1, hz2⟩ := info_parts infoFields
  have hl := ha.hl
  simp only [byt] at hl
  have HA := Lib.hid ha
  obtain ⟨K, hK⟩ : ∃ K, l.length = K := ⟨_, rfl⟩
  have HK := Lib.hid hK
  rw [hK] at hl ⊢
  have hk : K ≤ 140737488351232 := by omega
  clear hK ha
  cases p with
  | none =>
    have hK0 : K = 0 := by
      rcases Nat.eq_zero_or_pos K with h | h
      · exact h
      · obtain ⟨b, off, e, _⟩ := HA.out.hp (by rw [HK.out]; exact h)
        cases e
    have HK0 := Lib.hid hK0
    have he : ∀ W, (binOp .eql 22 (.slice none K cap) (.slice none 0 0)).run Tryz.prog W = .ok (.bool true) W := fun _ => rfl
    clear hK0
    go_enter Tryz.func66, Tryz.ntmps66
    go_wp2
    go_ret
    exact ⟨none, 0, by rw [HK0.out]; rfl, by rw [HK0.out]; omega, Below.refl _ _, fun h => by rw [HK0.out] at h; omega⟩
  | some ad =>
    have HN2 : Hid (∀ j u, (flatF 5 K F)[j]? = some u → w.cell? (ad.add j) = some u ∧ (ad.add j).block < N ∧ u.oneCell' = true) := Lib.hid fun j u hu => by
      rw [← HK.out] at hu
      exact HA.out.news j u hu
    have HB1 : Hid (Below w.heap.size w (w.alloc (.cells #[] 27))) := Lib.hid (ba w _)
    have HO : Hid ((w.alloc (.cells #[] 27)).ownsRow w.heap.size 27 5 (.slice (some ⟨w.heap.size, 0, none⟩) 0 0) 0 []) := Lib.hid ⟨rfl, .inr ⟨w.heap.size, 0, #[], rfl, Nat.le_refl _, heap_alloc_new _ _, Nat.le_refl _, Nat.zero_le _, rfl, rfl⟩⟩
    have HL := Lib.hid (flatF_len 5 K F)
    have he : ∀ W, (binOp .eql 22 (.slice (some ad) K cap) (.slice none 0 0)).run Tryz.prog W = .ok (.bool false) W := fun _ => rfl
    go_enter Tryz.func66, Tryz.ntmps66
    go_wp2_with (at_builtin; go_loud (refine wpList_append_own _ rfl _ _ 22 rfl w.heap.size 27 i0 (.agg #[.string ⟨#[]⟩, .int .i64 0, .int .i64 0, .int .i64 0, .int .i64 0]) 5 48 Tryz.underlying22 hi hz0 hz1 hz2 rfl (by decide) _ 0 [] rfl HO.out ad K cap (flatF 5 K F) rfl HL.out (fun j u hu => (HB1.out.cell (p := ad.add j) (Nat.lt_of_lt_of_le (HN2.out j u hu).2.1 hN)).trans (HN2.out j u hu).1) (fun u hu => by obtain ⟨j, hj, e⟩ := List.mem_iff_getElem.1 hu; exact (HN2.out j u (by rw [← e]; exact List.getElem?_eq_getElem hj)).2.2) (by unfold maxLen; omega) (by omega) (by simp) ?_); go_loud (intro v' w2 hown' hgrow _; have HO2 := Lib.hid hown'; have HG2 := Lib.hid hgrow; clear hown' hgrow))
    go_ret
    have HB2 : Below w.heap.size w w2 := HB1.out.grown HG2.out (by simp) (fun k e => Nat.le_of_eq (by have e' : (Value.slice (some ⟨w.heap.size, 0, none⟩) 0 0).ownBlock = some k := e; simpa [Value.ownBlock] using e'))
    have hown' := HO2.out
    rw [Nat.zero_add, List.nil_append] at hown'
    obtain ⟨p', cap', rfl, hcp, hrow⟩ := rowB_own hown'
    exact ⟨p', cap', rfl, hcp, HB2, hrow⟩
theorem cloneFields_any (l : List (List Lf)) (p : Option Addr) (cap : Nat) (N : Nat) (w : World) (ha : At (Lo N) w (.r .fields) (.slice p l.length cap) (.row .fields l)) (hN : N ≤ w.heap.size) :
    Calls Tryz.prog 66 #[.slice p l.length cap] w (tRow .fields l w) := by
  obtain ⟨_, _, F, e1, ra⟩ := ha.rowOf
  cases e1
  exact (scloneFields l _ _ F N w ra hN).mono fun e w' h => tClone_row ra (by intro sh hs k; simp only [shp, List.mem_cons, List.not_mem_nil, or_false] at hs; rcases hs with rfl | rfl | rfl | rfl | rfl <;> simp) h

theorem infoBlocks : (Tryz.prog.info? 54).map (fun i => (i.zero, i.size, i.bytes)) = some (some (.agg #[.string ⟨#[]⟩, .slice none 0 0]), 2, 40) := by kernel_rfl
set_option maxRecDepth 100000 in
set_option maxHeartbeats 4000000 in
theorem scloneBlocks (l : List (List Lf)) (p : Option Addr) (cap : Nat) (F : Nat → Nat → Value) (N : Nat) (w : World) (ha : RowA (Lo N) w .blocks p cap F l) (hN : N ≤ w.heap.size) :
    Calls Tryz.prog 83 #[.slice p l.length cap] w (tClone 2 l.length F w) := by
  obtain ⟨i0, hi, hz0, hz1, hz2⟩ := info_parts infoBlocks
  have hl := ha.hl
  simp only [byt] at hl
  have HA := Lib.hid ha
  obtain ⟨K, hK⟩ : ∃ K, l.length = K := ⟨_, rfl⟩
  have HK := Lib.hid hK
  rw [hK] at hl ⊢
  have hk : K ≤ 140737488351232 := by omega
  clear hK ha
  cases p with
  | none =>
    have hK0 : K = 0 := by
      rcases Nat.eq_zero_or_pos K with h | h
      · exact h
      · obtain ⟨b, off, e, _⟩ := HA.out.hp (by rw [HK.out]; exact h)
        cases e
    have HK0 := Lib.hid hK0
    have he : ∀ W, (binOp .eql 23 (.slice none K cap) (.slice none 0 0)).run Tryz.prog W = .ok (.bool true) W := fun _ => rfl
    clear hK0
    go_enter Tryz.func83, Tryz.ntmps83
    go_wp2
    go_ret
    exact ⟨none, 0, by rw [HK0.out]; rfl, by rw [HK0.out]; omega, Below.refl _ _, fun h => by rw [HK0.out] at h; omega⟩
  | some ad =>
    have HN2 : Hid (∀ j u, (flatF 2 K F)[j]? = some u → w.cell? (ad.add j) = some u ∧ (ad.add j).block < N ∧ u.oneCell' = true) := Lib.hid fun j u hu => by
      rw [← HK.out] at hu
      exact HA.out.news j u hu
    have HB1 : Hid (Below w.heap.size w (w.alloc (.cells #[] 54))) := Lib.hid (ba w _)
    have HO : Hid ((w.alloc (.cells #[] 54)).ownsRow w.heap.size 54 2 (.slice (some ⟨w.heap.size, 0, none⟩) 0 0) 0 []) := Lib.hid ⟨rfl, .inr ⟨w.heap.size, 0, #[], rfl, Nat.le_refl _, heap_alloc_new _ _, Nat.le_refl _, Nat.zero_le _, rfl, rfl⟩⟩
    have HL := Lib.hid (flatF_len 2 K F)
    have he : ∀ W, (binOp .eql 23 (.slice (some ad) K cap) (.slice none 0 0)).run Tryz.prog W = .ok (.bool false) W := fun _ => rfl
    go_enter Tryz.func83, Tryz.ntmps83
    go_wp2_with (at_builtin; go_loud (refine wpList_append_own _ rfl _ _ 23 rfl w.heap.size 54 i0 (.agg #[.string ⟨#[]⟩, .slice none 0 0]) 2 40 Tryz.underlying23 hi hz0 hz1 hz2 rfl (by decide) _ 0 [] rfl HO.out ad K cap (flatF 2 K F) rfl HL.out (fun j u hu => (HB1.out.cell (p := ad.add j) (Nat.lt_of_lt_of_le (HN2.out j u hu).2.1 hN)).trans (HN2.out j u hu).1) (fun u hu => by obtain ⟨j, hj, e⟩ := List.mem_iff_getElem.1 hu; exact (HN2.out j u (by rw [← e]; exact List.getElem?_eq_getElem hj)).2.2) (by unfold maxLen; omega) (by omega) (by simp) ?_); go_loud (intro v' w2 hown' hgrow _; have HO2 := Lib.hid hown'; have HG2 := Lib.hid hgrow; clear hown' hgrow))
    go_ret
    have HB2 : Below w.heap.size w w2 := HB1.out.grown HG2.out (by simp) (fun k e => Nat.le_of_eq (by have e' : (Value.slice (some ⟨w.heap.size, 0, none⟩) 0 0).ownBlock = some k := e; simpa [Value.ownBlock] using e'))
    have hown' := HO2.out
    rw [Nat.zero_add, List.nil_append] at hown'
    obtain ⟨p', cap', rfl, hcp, hrow⟩ := rowB_own hown'
    exact ⟨p', cap', rfl, hcp, HB2, hrow⟩
set_option maxRecDepth 100000 in
set_option maxHeartbeats 4000000 in
theorem scloneO (l : List (List Lf)) (p : Option Addr) (cap : Nat) (F : Nat → Nat → Value) (N : Nat) (w : World) (ha : RowA (Lo N) w .blocks p cap F l) (hN : N ≤ w.heap.size) :
    Calls Tryz.prog 83 #[.slice p l.length cap] w fun e w' => ∃ v, e = .returned v ∧ w'.ownsRow w.heap.size 54 2 v l.length (flatF 2 l.length F) ∧ Below w.heap.size w w' := by
  obtain ⟨i0, hi, hz0, hz1, hz2⟩ := info_parts infoBlocks
  have hl := ha.hl
  simp only [byt] at hl
  have HA := Lib.hid ha
  obtain ⟨K, hK⟩ : ∃ K, l.length = K := ⟨_, rfl⟩
  have HK := Lib.hid hK
  rw [hK] at hl ⊢
  have hk : K ≤ 140737488351232 := by omega
  clear hK ha
  cases p with
  | none =>
    have hK0 : K = 0 := by
      rcases Nat.eq_zero_or_pos K with h | h
      · exact h
      · obtain ⟨b, off, e, _⟩ := HA.out.hp (by rw [HK.out]; exact h)
        cases e
    have HK0 := Lib.hid hK0
    have he : ∀ W, (binOp .eql 23 (.slice none K cap) (.slice none 0 0)).run Tryz.prog W = .ok (.bool true) W := fun _ => rfl
    clear hK0
    go_enter Tryz.func83, Tryz.ntmps83
    go_wp2
    go_ret
    exact ⟨_, rfl, by rw [HK0.out]; exact World.ownsRow_nil _ _ _ _, Below.refl _ _⟩
  | some ad =>
    have HN2 : Hid (∀ j u, (flatF 2 K F)[j]? = some u → w.cell? (ad.add j) = some u ∧ (ad.add j).block < N ∧ u.oneCell' = true) := Lib.hid fun j u hu => by
      rw [← HK.out] at hu
      exact HA.out.news j u hu
    have HB1 : Hid (Below w.heap.size w (w.alloc (.cells #[] 54))) := Lib.hid (ba w _)
    have HO : Hid ((w.alloc (.cells #[] 54)).ownsRow w.heap.size 54 2 (.slice (some ⟨w.heap.size, 0, none⟩) 0 0) 0 []) := Lib.hid ⟨rfl, .inr ⟨w.heap.size, 0, #[], rfl, Nat.le_refl _, heap_alloc_new _ _, Nat.le_refl _, Nat.zero_le _, rfl, rfl⟩⟩
    have HL := Lib.hid (flatF_len 2 K F)
    have he : ∀ W, (binOp .eql 23 (.slice (some ad) K cap) (.slice none 0 0)).run Tryz.prog W = .ok (.bool false) W := fun _ => rfl
    go_enter Tryz.func83, Tryz.ntmps83
    go_wp2_with (at_builtin; go_loud (refine wpList_append_own _ rfl _ _ 23 rfl w.heap.size 54 i0 (.agg #[.string ⟨#[]⟩, .slice none 0 0]) 2 40 Tryz.underlying23 hi hz0 hz1 hz2 rfl (by decide) _ 0 [] rfl HO.out ad K cap (flatF 2 K F) rfl HL.out (fun j u hu => (HB1.out.cell (p := ad.add j) (Nat.lt_of_lt_of_le (HN2.out j u hu).2.1 hN)).trans (HN2.out j u hu).1) (fun u hu => by obtain ⟨j, hj, e⟩ := List.mem_iff_getElem.1 hu; exact (HN2.out j u (by rw [← e]; exact List.getElem?_eq_getElem hj)).2.2) (by unfold maxLen; omega) (by omega) (by simp) ?_); go_loud (intro v' w2 hown' hgrow _; have HO2 := Lib.hid hown'; have HG2 := Lib.hid hgrow; clear hown' hgrow))
    go_ret
    have HB2 : Below w.heap.size w w2 := HB1.out.grown HG2.out (by simp) (fun k e => Nat.le_of_eq (by have e' : (Value.slice (some ⟨w.heap.size, 0, none⟩) 0 0).ownBlock = some k := e; simpa [Value.ownBlock] using e'))
    have hown' := HO2.out
    rw [Nat.zero_add, List.nil_append] at hown'
    exact ⟨_, rfl, hown', HB2⟩

theorem infoItems : (Tryz.prog.info? 85).map (fun i => (i.zero, i.size, i.bytes)) = some (some (.agg #[.int .i64 0, .int .i64 0, .int .i64 0, .string ⟨#[]⟩, .slice none 0 0, .string ⟨#[]⟩, .string ⟨#[]⟩, .slice none 0 0, .slice none 0 0, .slice none 0 0, .slice none 0 0, .slice none 0 0]), 12, 216) := by kernel_rfl
set_option maxRecDepth 100000 in
set_option maxHeartbeats 4000000 in
theorem scloneItems (l : List (List Lf)) (p : Option Addr) (cap : Nat) (F : Nat → Nat → Value) (N : Nat) (w : World) (ha : RowA (Lo N) w .items p cap F l) (hN : N ≤ w.heap.size) :
    Calls Tryz.prog 100 #[.slice p l.length cap] w (tClone 12 l.length F w) := by
  obtain ⟨i0, hi, hz0, hz1, hz2⟩ := info_parts infoItems
  have hl := ha.hl
  simp only [byt] at hl
  have HA := Lib.hid ha
  obtain ⟨K, hK⟩ : ∃ K, l.length = K := ⟨_, rfl⟩
  have HK := Lib.hid hK
  rw [hK] at hl ⊢
  have hk : K ≤ 140737488351232 := by omega
  clear hK ha
  cases p with
  | none =>
    have hK0 : K = 0 := by
      rcases Nat.eq_zero_or_pos K with h | h
      · exact h
      · obtain ⟨b, off, e, _⟩ := HA.out.hp (by rw [HK.out]; exact h)
        cases e
    have HK0 := Lib.hid hK0
    have he : ∀ W, (binOp .eql 52 (.slice none K cap) (.slice none 0 0)).run Tryz.prog W = .ok (.bool true) W := fun _ => rfl
    clear hK0
    go_enter Tryz.func100, Tryz.ntmps100
    go_wp2
    go_ret
    exact ⟨none, 0, by rw [HK0.out]; rfl, by rw [HK0.out]; omega, Below.refl _ _, fun h => by rw [HK0.out] at h; omega⟩
  | some ad =>
    have HN2 : Hid (∀ j u, (flatF 12 K F)[j]? = some u → w.cell? (ad.add j) = some u ∧ (ad.add j).block < N ∧ u.oneCell' = true) := Lib.hid fun j u hu => by
      rw [← HK.out] at hu
      exact HA.out.news j u hu
    have HB1 : Hid (Below w.heap.size w (w.alloc (.cells #[] 85))) := Lib.hid (ba w _)
    have HO : Hid ((w.alloc (.cells #[] 85)).ownsRow w.heap.size 85 12 (.slice (some ⟨w.heap.size, 0, none⟩) 0 0) 0 []) := Lib.hid ⟨rfl, .inr ⟨w.heap.size, 0, #[], rfl, Nat.le_refl _, heap_alloc_new _ _, Nat.le_refl _, Nat.zero_le _, rfl, rfl⟩⟩
    have HL := Lib.hid (flatF_len 12 K F)
    have he : ∀ W, (binOp .eql 52 (.slice (some ad) K cap) (.slice none 0 0)).run Tryz.prog W = .ok (.bool false) W := fun _ => rfl
    go_enter Tryz.func100, Tryz.ntmps100
    go_wp2_with (at_builtin; go_loud (refine wpList_append_own _ rfl _ _ 52 rfl w.heap.size 85 i0 (.agg #[.int .i64 0, .int .i64 0, .int .i64 0, .string ⟨#[]⟩, .slice none 0 0, .string ⟨#[]⟩, .string ⟨#[]⟩, .slice none 0 0, .slice none 0 0, .slice none 0 0, .slice none 0 0, .slice none 0 0]) 12 216 Tryz.underlying52 hi hz0 hz1 hz2 rfl (by decide) _ 0 [] rfl HO.out ad K cap (flatF 12 K F) rfl HL.out (fun j u hu => (HB1.out.cell (p := ad.add j) (Nat.lt_of_lt_of_le (HN2.out j u hu).2.1 hN)).trans (HN2.out j u hu).1) (fun u hu => by obtain ⟨j, hj, e⟩ := List.mem_iff_getElem.1 hu; exact (HN2.out j u (by rw [← e]; exact List.getElem?_eq_getElem hj)).2.2) (by unfold maxLen; omega) (by omega) (by simp) ?_); go_loud (intro v' w2 hown' hgrow _; have HO2 := Lib.hid hown'; have HG2 := Lib.hid hgrow; clear hown' hgrow))
    go_ret
    have HB2 : Below w.heap.size w w2 := HB1.out.grown HG2.out (by simp) (fun k e => Nat.le_of_eq (by have e' : (Value.slice (some ⟨w.heap.size, 0, none⟩) 0 0).ownBlock = some k := e; simpa [Value.ownBlock] using e'))
    have hown' := HO2.out
    rw [Nat.zero_add, List.nil_append] at hown'
    obtain ⟨p', cap', rfl, hcp, hrow⟩ := rowB_own hown'
    exact ⟨p', cap', rfl, hcp, HB2, hrow⟩

theorem infoExprs : (Tryz.prog.info? 82).map (fun i => (i.zero, i.size, i.bytes)) = some (some (.agg #[.int .i64 0, .int .i64 0, .string ⟨#[]⟩, .slice none 0 0]), 4, 56) := by kernel_rfl
set_option maxRecDepth 100000 in
set_option maxHeartbeats 4000000 in
theorem scloneExprs (l : List (List Lf)) (p : Option Addr) (cap : Nat) (F : Nat → Nat → Value) (N : Nat) (w : World) (ha : RowA (Lo N) w .exprs p cap F l) (hN : N ≤ w.heap.size) :
    Calls Tryz.prog 122 #[.slice p l.length cap] w (tClone 4 l.length F w) := by
  obtain ⟨i0, hi, hz0, hz1, hz2⟩ := info_parts infoExprs
  have hl := ha.hl
  simp only [byt] at hl
  have HA := Lib.hid ha
  obtain ⟨K, hK⟩ : ∃ K, l.length = K := ⟨_, rfl⟩
  have HK := Lib.hid hK
  rw [hK] at hl ⊢
  have hk : K ≤ 140737488351232 := by omega
  clear hK ha
  cases p with
  | none =>
    have hK0 : K = 0 := by
      rcases Nat.eq_zero_or_pos K with h | h
      · exact h
      · obtain ⟨b, off, e, _⟩ := HA.out.hp (by rw [HK.out]; exact h)
        cases e
    have HK0 := Lib.hid hK0
    have he : ∀ W, (binOp .eql 80 (.slice none K cap) (.slice none 0 0)).run Tryz.prog W = .ok (.bool true) W := fun _ => rfl
    clear hK0
    go_enter Tryz.func122, Tryz.ntmps122
    go_wp2
    go_ret
    exact ⟨none, 0, by rw [HK0.out]; rfl, by rw [HK0.out]; omega, Below.refl _ _, fun h => by rw [HK0.out] at h; omega⟩
  | some ad =>
    have HN2 : Hid (∀ j u, (flatF 4 K F)[j]? = some u → w.cell? (ad.add j) = some u ∧ (ad.add j).block < N ∧ u.oneCell' = true) := Lib.hid fun j u hu => by
      rw [← HK.out] at hu
      exact HA.out.news j u hu
    have HB1 : Hid (Below w.heap.size w (w.alloc (.cells #[] 82))) := Lib.hid (ba w _)
    have HO : Hid ((w.alloc (.cells #[] 82)).ownsRow w.heap.size 82 4 (.slice (some ⟨w.heap.size, 0, none⟩) 0 0) 0 []) := Lib.hid ⟨rfl, .inr ⟨w.heap.size, 0, #[], rfl, Nat.le_refl _, heap_alloc_new _ _, Nat.le_refl _, Nat.zero_le _, rfl, rfl⟩⟩
    have HL := Lib.hid (flatF_len 4 K F)
    have he : ∀ W, (binOp .eql 80 (.slice (some ad) K cap) (.slice none 0 0)).run Tryz.prog W = .ok (.bool false) W := fun _ => rfl
    go_enter Tryz.func122, Tryz.ntmps122
    go_wp2_with (at_builtin; go_loud (refine wpList_append_own _ rfl _ _ 80 rfl w.heap.size 82 i0 (.agg #[.int .i64 0, .int .i64 0, .string ⟨#[]⟩, .slice none 0 0]) 4 56 Tryz.underlying80 hi hz0 hz1 hz2 rfl (by decide) _ 0 [] rfl HO.out ad K cap (flatF 4 K F) rfl HL.out (fun j u hu => (HB1.out.cell (p := ad.add j) (Nat.lt_of_lt_of_le (HN2.out j u hu).2.1 hN)).trans (HN2.out j u hu).1) (fun u hu => by obtain ⟨j, hj, e⟩ := List.mem_iff_getElem.1 hu; exact (HN2.out j u (by rw [← e]; exact List.getElem?_eq_getElem hj)).2.2) (by unfold maxLen; omega) (by omega) (by simp) ?_); go_loud (intro v' w2 hown' hgrow _; have HO2 := Lib.hid hown'; have HG2 := Lib.hid hgrow; clear hown' hgrow))
    go_ret
    have HB2 : Below w.heap.size w w2 := HB1.out.grown HG2.out (by simp) (fun k e => Nat.le_of_eq (by have e' : (Value.slice (some ⟨w.heap.size, 0, none⟩) 0 0).ownBlock = some k := e; simpa [Value.ownBlock] using e'))
    have hown' := HO2.out
    rw [Nat.zero_add, List.nil_append] at hown'
    obtain ⟨p', cap', rfl, hcp, hrow⟩ := rowB_own hown'
    exact ⟨p', cap', rfl, hcp, HB2, hrow⟩

theorem infoWeights : (Tryz.prog.info? 115).map (fun i => (i.zero, i.size, i.bytes)) = some (some (.agg #[.int .i64 0, .int .i64 0, .int .i64 0, .bool false]), 4, 32) := by kernel_rfl
set_option maxRecDepth 100000 in
set_option maxHeartbeats 4000000 in
theorem scloneWeights (l : List (List Lf)) (p : Option Addr) (cap : Nat) (F : Nat → Nat → Value) (N : Nat) (w : World) (ha : RowA (Lo N) w .weights p cap F l) (hN : N ≤ w.heap.size) :
    Calls Tryz.prog 102 #[.slice p l.length cap] w (tClone 4 l.length F w) := by
  obtain ⟨i0, hi, hz0, hz1, hz2⟩ := info_parts infoWeights
  have hl := ha.hl
  simp only [byt] at hl
  have HA := Lib.hid ha
  obtain ⟨K, hK⟩ : ∃ K, l.length = K := ⟨_, rfl⟩
  have HK := Lib.hid hK
  rw [hK] at hl ⊢
  have hk : K ≤ 140737488351232 := by omega
  clear hK ha
  cases p with
  | none =>
    have hK0 : K = 0 := by
      rcases Nat.eq_zero_or_pos K with h | h
      · exact h
      · obtain ⟨b, off, e, _⟩ := HA.out.hp (by rw [HK.out]; exact h)
        cases e
    have HK0 := Lib.hid hK0
    have he : ∀ W, (binOp .eql 83 (.slice none K cap) (.slice none 0 0)).run Tryz.prog W = .ok (.bool true) W := fun _ => rfl
    clear hK0
    go_enter Tryz.func102, Tryz.ntmps102
    go_wp2
    go_ret
    exact ⟨none, 0, by rw [HK0.out]; rfl, by rw [HK0.out]; omega, Below.refl _ _, fun h => by rw [HK0.out] at h; omega⟩
  | some ad =>
    have HN2 : Hid (∀ j u, (flatF 4 K F)[j]? = some u → w.cell? (ad.add j) = some u ∧ (ad.add j).block < N ∧ u.oneCell' = true) := Lib.hid fun j u hu => by
      rw [← HK.out] at hu
      exact HA.out.news j u hu
    have HB1 : Hid (Below w.heap.size w (w.alloc (.cells #[] 115))) := Lib.hid (ba w _)
    have HO : Hid ((w.alloc (.cells #[] 115)).ownsRow w.heap.size 115 4 (.slice (some ⟨w.heap.size, 0, none⟩) 0 0) 0 []) := Lib.hid ⟨rfl, .inr ⟨w.heap.size, 0, #[], rfl, Nat.le_refl _, heap_alloc_new _ _, Nat.le_refl _, Nat.zero_le _, rfl, rfl⟩⟩
    have HL := Lib.hid (flatF_len 4 K F)
    have he : ∀ W, (binOp .eql 83 (.slice (some ad) K cap) (.slice none 0 0)).run Tryz.prog W = .ok (.bool false) W := fun _ => rfl
    go_enter Tryz.func102, Tryz.ntmps102
    go_wp2_with (at_builtin; go_loud (refine wpList_append_own _ rfl _ _ 83 rfl w.heap.size 115 i0 (.agg #[.int .i64 0, .int .i64 0, .int .i64 0, .bool false]) 4 32 Tryz.underlying83 hi hz0 hz1 hz2 rfl (by decide) _ 0 [] rfl HO.out ad K cap (flatF 4 K F) rfl HL.out (fun j u hu => (HB1.out.cell (p := ad.add j) (Nat.lt_of_lt_of_le (HN2.out j u hu).2.1 hN)).trans (HN2.out j u hu).1) (fun u hu => by obtain ⟨j, hj, e⟩ := List.mem_iff_getElem.1 hu; exact (HN2.out j u (by rw [← e]; exact List.getElem?_eq_getElem hj)).2.2) (by unfold maxLen; omega) (by omega) (by simp) ?_); go_loud (intro v' w2 hown' hgrow _; have HO2 := Lib.hid hown'; have HG2 := Lib.hid hgrow; clear hown' hgrow))
    go_ret
    have HB2 : Below w.heap.size w w2 := HB1.out.grown HG2.out (by simp) (fun k e => Nat.le_of_eq (by have e' : (Value.slice (some ⟨w.heap.size, 0, none⟩) 0 0).ownBlock = some k := e; simpa [Value.ownBlock] using e'))
    have hown' := HO2.out
    rw [Nat.zero_add, List.nil_append] at hown'
    obtain ⟨p', cap', rfl, hcp, hrow⟩ := rowB_own hown'
    exact ⟨p', cap', rfl, hcp, HB2, hrow⟩
theorem cloneWeights_any (l : List (List Lf)) (p : Option Addr) (cap : Nat) (N : Nat) (w : World) (ha : At (Lo N) w (.r .weights) (.slice p l.length cap) (.row .weights l)) (hN : N ≤ w.heap.size) :
    Calls Tryz.prog 102 #[.slice p l.length cap] w (tRow .weights l w) := by
  obtain ⟨_, _, F, e1, ra⟩ := ha.rowOf
  cases e1
  exact (scloneWeights l _ _ F N w ra hN).mono fun e w' h => tClone_row ra (by intro sh hs k; simp only [shp, List.mem_cons, List.not_mem_nil, or_false] at hs; rcases hs with rfl | rfl | rfl | rfl <;> simp) h

theorem infoStrs : (Tryz.prog.info? 9).map (fun i => (i.zero, i.size, i.bytes)) = some (some (.string ⟨#[]⟩), 1, 16) := by kernel_rfl
set_option maxRecDepth 100000 in
set_option maxHeartbeats 4000000 in
theorem scloneStrs (l : List (List Lf)) (p : Option Addr) (cap : Nat) (F : Nat → Nat → Value) (N : Nat) (w : World) (ha : RowA (Lo N) w .strs p cap F l) (hN : N ≤ w.heap.size) :
    Calls Tryz.prog 103 #[.slice p l.length cap] w (tClone 1 l.length F w) := by
  obtain ⟨i0, hi, hz0, hz1, hz2⟩ := info_parts infoStrs
  have hl := ha.hl
  simp only [byt] at hl
  have HA := Lib.hid ha
  obtain ⟨K, hK⟩ : ∃ K, l.length = K := ⟨_, rfl⟩
  have HK := Lib.hid hK
  rw [hK] at hl ⊢
  have hk : K ≤ 140737488351232 := by omega
  clear hK ha
  cases p with
  | none =>
    have hK0 : K = 0 := by
      rcases Nat.eq_zero_or_pos K with h | h
      · exact h
      · obtain ⟨b, off, e, _⟩ := HA.out.hp (by rw [HK.out]; exact h)
        cases e
    have HK0 := Lib.hid hK0
    have he : ∀ W, (binOp .eql 45 (.slice none K cap) (.slice none 0 0)).run Tryz.prog W = .ok (.bool true) W := fun _ => rfl
    clear hK0
    go_enter Tryz.func103, Tryz.ntmps103
    go_wp2
    go_ret
    exact ⟨none, 0, by rw [HK0.out]; rfl, by rw [HK0.out]; omega, Below.refl _ _, fun h => by rw [HK0.out] at h; omega⟩
  | some ad =>
    have HN2 : Hid (∀ j u, (flatF 1 K F)[j]? = some u → w.cell? (ad.add j) = some u ∧ (ad.add j).block < N ∧ u.oneCell' = true) := Lib.hid fun j u hu => by
      rw [← HK.out] at hu
      exact HA.out.news j u hu
    have HB1 : Hid (Below w.heap.size w (w.alloc (.cells #[] 9))) := Lib.hid (ba w _)
    have HO : Hid ((w.alloc (.cells #[] 9)).ownsRow w.heap.size 9 1 (.slice (some ⟨w.heap.size, 0, none⟩) 0 0) 0 []) := Lib.hid ⟨rfl, .inr ⟨w.heap.size, 0, #[], rfl, Nat.le_refl _, heap_alloc_new _ _, Nat.le_refl _, Nat.zero_le _, rfl, rfl⟩⟩
    have HL := Lib.hid (flatF_len 1 K F)
    have he : ∀ W, (binOp .eql 45 (.slice (some ad) K cap) (.slice none 0 0)).run Tryz.prog W = .ok (.bool false) W := fun _ => rfl
    go_enter Tryz.func103, Tryz.ntmps103
    go_wp2_with (at_builtin; go_loud (refine wpList_append_own _ rfl _ _ 45 rfl w.heap.size 9 i0 (.string ⟨#[]⟩) 1 16 Tryz.underlying45 hi hz0 hz1 hz2 rfl (by decide) _ 0 [] rfl HO.out ad K cap (flatF 1 K F) rfl HL.out (fun j u hu => (HB1.out.cell (p := ad.add j) (Nat.lt_of_lt_of_le (HN2.out j u hu).2.1 hN)).trans (HN2.out j u hu).1) (fun u hu => by obtain ⟨j, hj, e⟩ := List.mem_iff_getElem.1 hu; exact (HN2.out j u (by rw [← e]; exact List.getElem?_eq_getElem hj)).2.2) (by unfold maxLen; omega) (by omega) (by simp) ?_); go_loud (intro v' w2 hown' hgrow _; have HO2 := Lib.hid hown'; have HG2 := Lib.hid hgrow; clear hown' hgrow))
    go_ret
    have HB2 : Below w.heap.size w w2 := HB1.out.grown HG2.out (by simp) (fun k e => Nat.le_of_eq (by have e' : (Value.slice (some ⟨w.heap.size, 0, none⟩) 0 0).ownBlock = some k := e; simpa [Value.ownBlock] using e'))
    have hown' := HO2.out
    rw [Nat.zero_add, List.nil_append] at hown'
    obtain ⟨p', cap', rfl, hcp, hrow⟩ := rowB_own hown'
    exact ⟨p', cap', rfl, hcp, HB2, hrow⟩
theorem cloneStrs_any (l : List (List Lf)) (p : Option Addr) (cap : Nat) (N : Nat) (w : World) (ha : At (Lo N) w (.r .strs) (.slice p l.length cap) (.row .strs l)) (hN : N ≤ w.heap.size) :
    Calls Tryz.prog 103 #[.slice p l.length cap] w (tRow .strs l w) := by
  obtain ⟨_, _, F, e1, ra⟩ := ha.rowOf
  cases e1
  exact (scloneStrs l _ _ F N w ra hN).mono fun e w' h => tClone_row ra (by intro sh hs k; simp only [shp, List.mem_cons, List.not_mem_nil, or_false] at hs; rcases hs with rfl <;> simp) h
end Go.Proofs.YtoigjeoncdfdmaaGreatDoor.ClW
