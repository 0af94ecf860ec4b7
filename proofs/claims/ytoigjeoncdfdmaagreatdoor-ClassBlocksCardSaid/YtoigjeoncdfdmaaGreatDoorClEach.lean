/-
  What cloneEach, cloneExpr, cloneItem, cloneBlock, cloneClass and Find return.
-/
import Derived.Test.YtoigjeoncdfdmaaGreatDoorClSClone
namespace Go.Proofs.YtoigjeoncdfdmaaGreatDoor.ClW
open Go Go.RowKit Go.Proofs.YtoigjeoncdfdmaaGreatDoor.NumM Go.Proofs.YtoigjeoncdfdmaaGreatDoor.LexW Go.Proofs.YtoigjeoncdfdmaaGreatDoor.LexM Go.Proofs.YtoigjeoncdfdmaaGreatDoor.ClM
open Go.«Sort»

/-- The first j elements of a row are clones. -/
def CRow (kd : Kd) (l : List (List Lf)) (F0 : Nat → Nat → Value) (gb K j : Nat) (wr : World) : Prop :=
  ∃ F, RowB wr gb (shp kd).length K F ∧ (∀ a r, j ≤ a → F a r = F0 a r) ∧ (∀ (a : Nat) (x : List Lf) (r : Nat) (y : Lf) (sh : Sh), a < j → l[a]? = some x → x[r]? = some y → (shp kd)[r]? = some sh → At (Hi (gb + 1) wr) wr sh (F a r) y)
theorem crow_step {kd : Kd} {l : List (List Lf)} {F0 : Nat → Nat → Value} {gb K j : Nat} {wr w5 : World} {x : List Lf} {ys : List Value} (h : CRow kd l F0 gb K j wr) (hb : Below wr.heap.size wr w5) (hj : j < K) (hx : l[j]? = some x) (hy : ys.length = (shp kd).length)
    (hat : ∀ (r : Nat) (y : Lf) (sh : Sh), x[r]? = some y → (shp kd)[r]? = some sh → At (Hi (gb + 1) w5) w5 sh (ys.getD r undef) y) : CRow kd l F0 gb K (j + 1) (putN w5 gb (j * (shp kd).length) ys) := by
  obtain ⟨F, hr, ho, ha⟩ := h
  refine ⟨_, (hr.stay hb).putN hj ys hy, fun a r h => ?_, fun a x' r y sh h1 h2 h3 h4 => ?_⟩
  · rw [if_neg (by omega)]; exact ho a r (by omega)
  · by_cases e : a = j
    · subst e
      rw [hx] at h2
      cases h2
      simp only [if_true]
      exact (hat r y sh h3 h4).putN (by omega) ys
    · simp only [if_neg e]
      exact ((ha a x' r y sh (by omega) h2 h3 h4).later hb).putN (by omega) ys
theorem crow_done {kd : Kd} {l : List (List Lf)} {F0 : Nat → Nat → Value} {gb K lo cap cap' : Nat} {wr w : World} {S : Nat → Prop} {p : Option Addr} (h : CRow kd l F0 gb K K wr) (ha : RowA S w kd p cap F0 l) (hK : l.length = K) (hc : K ≤ cap') (hlo : lo ≤ gb) :
    At (Hi lo wr) wr (.r kd) (.slice (some ⟨gb, 0, none⟩) K cap') (.row kd l) := by
  obtain ⟨F, hr, _, hat⟩ := h
  subst hK
  refine RowA.at_ (F := F) ⟨ha.hl, hc, fun h0 => ⟨gb, 0, rfl, ⟨hlo, hr.lt⟩, fun i j hi hj => by rw [Nat.zero_add]; exact hr.cell i j hi hj⟩, ha.hw, fun i x j y sh h1 h2 h3 => ?_⟩
  exact (hat i x j y sh (List.getElem?_eq_some_iff.1 h1).1 h1 h2 h3).low (by omega)
/-- The expression at a place, by its values. -/
theorem RowA.exV {S : Nat → Prop} {w : World} {p : Option Addr} {cap : Nat} {F : Nat → Nat → Value} {l : List (List Lf)} (h : RowA S w .exprs p cap F l) {i : Nat} {x : List Lf} (hi : l[i]? = some x) :
    ∃ o n s k pa ca, x = [.n o, .n n, .s s, .row .exprs k] ∧ F i 0 = .int .i64 o ∧ F i 1 = .int .i64 n ∧ F i 2 = .string s ∧ F i 3 = .slice pa k.length ca ∧ s.size ≤ 140737488351232 ∧ At S w (.r .exprs) (.slice pa k.length ca) (.row .exprs k) := by
  have hw := h.hw i x hi
  match x, hw with
  | [y0, y1, y2, y3], _ =>
    obtain ⟨o, e0, rfl⟩ := (h.hx i _ 0 y0 .n hi rfl rfl).nInv
    obtain ⟨n, e1, rfl⟩ := (h.hx i _ 1 y1 .n hi rfl rfl).nInv
    obtain ⟨s, e2, rfl, s2⟩ := (h.hx i _ 2 y2 .s hi rfl rfl).sInv
    have a3 := h.hx i _ 3 y3 (.r .exprs) hi rfl rfl
    obtain ⟨k, pa, ca, _, rfl, e3, _⟩ := a3.form
    rw [e3] at a3
    exact ⟨o, n, s, k, pa, ca, rfl, e0, e1, e2, e3, s2, a3⟩
/-- The block at a place, by its values. -/
theorem RowA.bkV {S : Nat → Prop} {w : World} {p : Option Addr} {cap : Nat} {F : Nat → Nat → Value} {l : List (List Lf)} (h : RowA S w .blocks p cap F l) {i : Nat} {x : List Lf} (hi : l[i]? = some x) :
    ∃ s k pa ca, x = [.s s, .row .items k] ∧ F i 0 = .string s ∧ F i 1 = .slice pa k.length ca ∧ s.size ≤ 140737488351232 ∧ At S w (.r .items) (.slice pa k.length ca) (.row .items k) := by
  have hw := h.hw i x hi
  match x, hw with
  | [y0, y1], _ =>
    obtain ⟨s, e0, rfl, s2⟩ := (h.hx i _ 0 y0 .s hi rfl rfl).sInv
    have a3 := h.hx i _ 1 y1 (.r .items) hi rfl rfl
    obtain ⟨k, pa, ca, _, rfl, e3, _⟩ := a3.form
    rw [e3] at a3
    exact ⟨s, k, pa, ca, rfl, e0, e3, s2, a3⟩
/-- The constraint at a place, by its values. -/
theorem RowA.ivV {S : Nat → Prop} {w : World} {p : Option Addr} {cap : Nat} {F : Nat → Nat → Value} {l : List (List Lf)} (h : RowA S w .items p cap F l) {i : Nat} {x : List Lf} (hi : l[i]? = some x) :
    ∃ (y : ItL) (q : ItP), x = y.lf ∧ (∀ r, r < 12 → F i r = (ic y q).getD r undef) ∧ IV S w q y := by
  have hw := h.hw i x hi
  match x, hw with
  | [y0, y1, y2, y3, y4, y5, y6, y7, y8, y9, y10, y11], _ =>
    obtain ⟨x0, e0, rfl⟩ := (h.hx i _ 0 y0 .n hi rfl rfl).nInv
    obtain ⟨x1, e1, rfl⟩ := (h.hx i _ 1 y1 .n hi rfl rfl).nInv
    obtain ⟨x2, e2, rfl⟩ := (h.hx i _ 2 y2 .n hi rfl rfl).nInv
    obtain ⟨x3, e3, rfl, s3⟩ := (h.hx i _ 3 y3 .s hi rfl rfl).sInv
    have a4 := h.hx i _ 4 y4 (.r .exprs) hi rfl rfl
    obtain ⟨x4, p4, k4, _, rfl, e4, _⟩ := a4.form
    obtain ⟨x5, e5, rfl, s5⟩ := (h.hx i _ 5 y5 .s hi rfl rfl).sInv
    obtain ⟨x6, e6, rfl, s6⟩ := (h.hx i _ 6 y6 .s hi rfl rfl).sInv
    have a7 := h.hx i _ 7 y7 (.r .weights) hi rfl rfl
    obtain ⟨x7, p7, k7, _, rfl, e7, _⟩ := a7.form
    have a8 := h.hx i _ 8 y8 (.r .items) hi rfl rfl
    obtain ⟨x8, p8, k8, _, rfl, e8, _⟩ := a8.form
    have a9 := h.hx i _ 9 y9 (.r .items) hi rfl rfl
    obtain ⟨x9, p9, k9, _, rfl, e9, _⟩ := a9.form
    have a10 := h.hx i _ 10 y10 (.r .strs) hi rfl rfl
    obtain ⟨x10, p10, k10, _, rfl, e10, _⟩ := a10.form
    have a11 := h.hx i _ 11 y11 (.r .strs) hi rfl rfl
    obtain ⟨x11, p11, k11, _, rfl, e11, _⟩ := a11.form
    rw [e4] at a4
    rw [e7] at a7
    rw [e8] at a8
    rw [e9] at a9
    rw [e10] at a10
    rw [e11] at a11
    refine ⟨⟨x0, x1, x2, x3, x4, x5, x6, x7, x8, x9, x10, x11⟩, ⟨p4, k4, p7, k7, p8, k8, p9, k9, p10, k10, p11, k11⟩, rfl, fun r hr => ?_, ⟨s3, s5, s6, a4, a7, a8, a9, a10, a11⟩⟩
    match r, hr with
    | 0, _ => exact e0
    | 1, _ => exact e1
    | 2, _ => exact e2
    | 3, _ => exact e3
    | 4, _ => exact e4
    | 5, _ => exact e5
    | 6, _ => exact e6
    | 7, _ => exact e7
    | 8, _ => exact e8
    | 9, _ => exact e9
    | 10, _ => exact e10
    | 11, _ => exact e11
def tEx (o n : Int) (s : ByteArray) (k : List (List Lf)) (w : World) (e : Ending) (w' : World) : Prop :=
  ∃ p' c', e = .returned (ev o n s (.slice p' k.length c')) ∧ At (Hi w.heap.size w') w' (.r .exprs) (.slice p' k.length c') (.row .exprs k) ∧ Below w.heap.size w w'
def tBk (s : ByteArray) (k : List (List Lf)) (w : World) (e : Ending) (w' : World) : Prop :=
  ∃ p' c', e = .returned (bv s (.slice p' k.length c')) ∧ At (Hi w.heap.size w') w' (.r .items) (.slice p' k.length c') (.row .items k) ∧ Below w.heap.size w w'
def tIt (y : ItL) (w : World) (e : Ending) (w' : World) : Prop :=
  ∃ q, e = .returned (iv y q) ∧ IV (Hi w.heap.size w') w' q y ∧ Below w.heap.size w w'

set_option maxRecDepth 100000 in
set_option maxHeartbeats 16000000 in
theorem eachExprs (l : List (List Lf)) (p : Option Addr) (cap : Nat) (G : Nat → Nat → Value) (N : Nat) (w : World) (ha : RowA (Lo N) w .exprs p cap G l) (hN : N ≤ w.heap.size)
    (hc : ∀ x ∈ l, ∀ (o n : Int) (s : ByteArray) (k : List (List Lf)) (pa : Option Addr) (ca : Nat) (W : World), x = [.n o, .n n, .s s, .row .exprs k] → Below w.heap.size w W → At (Lo N) W (.r .exprs) (.slice pa k.length ca) (.row .exprs k) → Calls Tryz.prog 101 #[ev o n s (.slice pa k.length ca)] W (tEx o n s k W)) :
    Calls Tryz.prog 114 #[.slice p l.length cap, .func (.func 101) #[] #[]] w (tRow .exprs l w) := by
  have CC := scloneExprs l p cap G N w ha hN
  have HA := Lib.hid ha
  have HC := Lib.hid hc
  have hl := ha.hl
  simp only [byt] at hl
  have HP : Hid (∀ p' cap' w', At (Hi w.heap.size w') w' (.r .exprs) (.slice p' l.length cap') (.row .exprs l) → Below w.heap.size w w' → tRow .exprs l w (.returned (.slice p' l.length cap')) w') := Lib.hid fun p' cap' w' h1 h2 => ⟨p', cap', rfl, h1, h2⟩
  obtain ⟨K, hK⟩ : ∃ K, l.length = K := ⟨_, rfl⟩
  have HK := Lib.hid hK
  rw [hK] at hl CC HP ⊢
  have hk : K ≤ 140737488351232 := by omega
  have CC := Lib.hid CC
  clear hK ha hc hl
  go_enter Tryz.func114, Tryz.ntmps114
  go_wp2_with (go_at_call 122; ((with_reducible refine CC.out.mono ?_); rintro e w2 ⟨p', cap', rfl, hcp, hb2, hrow⟩; have HR := Lib.hid hrow; have HB2 := Lib.hid hb2; have HCP := Lib.hid hcp; clear hrow hb2 hcp))
  obtain ⟨gb, hgb⟩ : ∃ gb, 0 < K → p' = some ⟨gb, 0, none⟩ ∧ w.heap.size ≤ gb ∧ RowB w2 gb 4 K G := by
    rcases Nat.eq_zero_or_pos K with h | h
    · exact ⟨0, fun x => by omega⟩
    · obtain ⟨gb, e1, e2, e3⟩ := HR.out h
      exact ⟨gb, fun _ => ⟨e1, e2, e3⟩⟩
  have HG := Lib.hid hgb
  clear hgb HR
  go_loopw [11] (fun i wr => ∃ j : Nat, j ≤ K ∧ i = .int .i64 j ∧ Hid (Below w.heap.size w wr) ∧ Hid (0 < K → CRow .exprs l G gb K j wr)) (fun i _ => K - (intOf i).toNat)
  case atStart => exact ⟨0, Nat.zero_le _, rfl, HB2, Lib.hid fun h => ⟨G, (HG.out h).2.2, fun _ _ _ => rfl, fun a x r y sh h => by omega⟩⟩
  case round =>
    obtain ⟨j, hj, rfl, BW, RW⟩ := hrel
    by_cases hlt : j < K
    · obtain ⟨rfl, hgw, _⟩ := HG.out (by omega)
      obtain ⟨F, hrow, horg, _⟩ := RW.out (by omega)
      obtain ⟨x, hx⟩ : ∃ x, l[j]? = some x := ⟨_, List.getElem?_eq_getElem (by rw [HK.out]; exact hlt)⟩
      have hbw : Below N w wr := BW.out.mono hN
      obtain ⟨o, n, s, k, pa, ca, hex, q0, q1, q2, q3, hsz, hat⟩ := (HA.out.under hbw).exV hx
      have HX := Lib.hid hx
      have HEX := Lib.hid hex
      have ca0 : wr.cell? ⟨gb, j * 4, none⟩ = some (.int .i64 o) := (hrow.cell j 0 hlt (by decide)).trans (by rw [horg j _ (Nat.le_refl _), q0])
      have ca1 : wr.cell? ⟨gb, j * 4 + 1, none⟩ = some (.int .i64 n) := (hrow.cell j 1 hlt (by decide)).trans (by rw [horg j _ (Nat.le_refl _), q1])
      have ca2 : wr.cell? ⟨gb, j * 4 + 2, none⟩ = some (.string s) := (hrow.cell j 2 hlt (by decide)).trans (by rw [horg j _ (Nat.le_refl _), q2])
      have ca3 : wr.cell? ⟨gb, j * 4 + 3, none⟩ = some (.slice pa k.length ca) := (hrow.cell j 3 hlt (by decide)).trans (by rw [horg j _ (Nat.le_refl _), q3])
      have hgl := hrow.lt
      have fz := hrow.frz
      have fz0 := fz (j * 4)
      have fz1 := fz (j * 4 + 1)
      have fz2 := fz (j * 4 + 2)
      have fz3 := fz (j * 4 + 3)
      have NB := Lib.hid (Blk.new wr [.int .i64 o, .int .i64 n, .string s, .slice pa k.length ca] 82)
      have NB' := NB.out
      have nb0 := NB'.c 0 _ rfl
      have nb1 := NB'.c 1 _ rfl
      have nb2 := NB'.c 2 _ rfl
      have nb3 := NB'.c 3 _ rfl
      have HBA : Hid (Below wr.heap.size wr (wr.alloc (.cells [.int .i64 o, .int .i64 n, .string s, .slice pa k.length ca].toArray 82))) := Lib.hid (ba wr _)
      have EC := Lib.hid (HC.out x (List.mem_of_getElem? hx) o n s k pa ca _ hex (BW.out.then_ HBA.out) (hat.under (HBA.out.mono (by have := BW.out.size; omega))))
      have HRW := Lib.hid hrow
      clear hbw hx hrow horg fz NB' hat hex q0 q1 q2 q3
      go_wp2_with (go_at_call 101; ((with_reducible refine EC.out.mono ?_); rintro e w5 ⟨p5, c5, rfl, ha5, hb5⟩; have HB5 := Lib.hid (HBA.out.then_ hb5); have HA5 := Lib.hid ha5; have hz5 := HB5.out.size; have R5 := HRW.out.stay HB5.out; have rl := R5.lt; have rf := R5.frz; have v0 : w5.cell? ⟨gb, j * 4, none⟩ = some _ := R5.cell j 0 hlt (by decide); have z0 := rf (j * 4); have v1 : w5.cell? ⟨gb, j * 4 + 1, none⟩ = some _ := R5.cell j 1 hlt (by decide); have z1 := rf (j * 4 + 1); have v2 : w5.cell? ⟨gb, j * 4 + 2, none⟩ = some _ := R5.cell j 2 hlt (by decide); have z2 := rf (j * 4 + 2); have v3 : w5.cell? ⟨gb, j * 4 + 3, none⟩ = some _ := R5.cell j 3 hlt (by decide); have z3 := rf (j * 4 + 3); clear hb5 ha5 rf R5; try clear fz0 ca0 nb0; try clear fz1 ca1 nb1; try clear fz2 ca2 nb2; try clear fz3 ca3 nb3; skip))
      go_roundw
      case rel =>
        refine ⟨j + 1, by omega, by go_num, Lib.hid ?_, Lib.hid fun h => ?_⟩
        · exact putN_below hgw [.int .i64 o, .int .i64 n, .string s, .slice p5 k.length c5] _ (j * 4) (BW.out.then_ HB5.out)
        · exact crow_step (ys := [.int .i64 o, .int .i64 n, .string s, .slice p5 k.length c5]) (RW.out h) HB5.out hlt HX.out rfl (fun r yy sh h1 h2 => by
            rw [HEX.out] at h1
            match r, h1, h2 with
            | 0, h1, h2 => cases h1; cases h2; exact .n o
            | 1, h1, h2 => cases h1; cases h2; exact .n n
            | 2, h1, h2 => cases h1; cases h2; exact .s s hsz
            | 3, h1, h2 => cases h1; cases h2; exact (HA5.out.low (by simp; omega))
            | r + 4, h1, _ => simp at h1)
      case measure => simp [intOf]; omega
    · obtain rfl : K = j := by omega
      go_wp2
      go_ret
      refine HP.out _ _ _ ?_ BW.out
      rcases Nat.eq_zero_or_pos K with h | h
      · have : l = [] := List.length_eq_zero_iff.1 (by rw [HK.out]; exact h)
        subst this
        subst h
        exact .nilRow _ _ _
      · obtain ⟨rfl, hgw, _⟩ := HG.out h
        exact crow_done (RW.out h) HA.out HK.out HCP.out hgw

set_option maxRecDepth 100000 in
set_option maxHeartbeats 16000000 in
theorem eachBlocks (l : List (List Lf)) (p : Option Addr) (cap : Nat) (G : Nat → Nat → Value) (N : Nat) (w : World) (ha : RowA (Lo N) w .blocks p cap G l) (hN : N ≤ w.heap.size)
    (hc : ∀ x ∈ l, ∀ (s : ByteArray) (k : List (List Lf)) (pa : Option Addr) (ca : Nat) (W : World), x = [.s s, .row .items k] → Below w.heap.size w W → At (Lo N) W (.r .items) (.slice pa k.length ca) (.row .items k) → Calls Tryz.prog 68 #[bv s (.slice pa k.length ca)] W (tBk s k W)) :
    Calls Tryz.prog 67 #[.slice p l.length cap, .func (.func 68) #[] #[]] w (tRow .blocks l w) := by
  have CC := scloneBlocks l p cap G N w ha hN
  have HA := Lib.hid ha
  have HC := Lib.hid hc
  have hl := ha.hl
  simp only [byt] at hl
  have HP : Hid (∀ p' cap' w', At (Hi w.heap.size w') w' (.r .blocks) (.slice p' l.length cap') (.row .blocks l) → Below w.heap.size w w' → tRow .blocks l w (.returned (.slice p' l.length cap')) w') := Lib.hid fun p' cap' w' h1 h2 => ⟨p', cap', rfl, h1, h2⟩
  obtain ⟨K, hK⟩ : ∃ K, l.length = K := ⟨_, rfl⟩
  have HK := Lib.hid hK
  rw [hK] at hl CC HP ⊢
  have hk : K ≤ 140737488351232 := by omega
  have CC := Lib.hid CC
  clear hK ha hc hl
  go_enter Tryz.func67, Tryz.ntmps67
  go_wp2_with (go_at_call 83; ((with_reducible refine CC.out.mono ?_); rintro e w2 ⟨p', cap', rfl, hcp, hb2, hrow⟩; have HR := Lib.hid hrow; have HB2 := Lib.hid hb2; have HCP := Lib.hid hcp; clear hrow hb2 hcp))
  obtain ⟨gb, hgb⟩ : ∃ gb, 0 < K → p' = some ⟨gb, 0, none⟩ ∧ w.heap.size ≤ gb ∧ RowB w2 gb 2 K G := by
    rcases Nat.eq_zero_or_pos K with h | h
    · exact ⟨0, fun x => by omega⟩
    · obtain ⟨gb, e1, e2, e3⟩ := HR.out h
      exact ⟨gb, fun _ => ⟨e1, e2, e3⟩⟩
  have HG := Lib.hid hgb
  clear hgb HR
  go_loopw [11] (fun i wr => ∃ j : Nat, j ≤ K ∧ i = .int .i64 j ∧ Hid (Below w.heap.size w wr) ∧ Hid (0 < K → CRow .blocks l G gb K j wr)) (fun i _ => K - (intOf i).toNat)
  case atStart => exact ⟨0, Nat.zero_le _, rfl, HB2, Lib.hid fun h => ⟨G, (HG.out h).2.2, fun _ _ _ => rfl, fun a x r y sh h => by omega⟩⟩
  case round =>
    obtain ⟨j, hj, rfl, BW, RW⟩ := hrel
    by_cases hlt : j < K
    · obtain ⟨rfl, hgw, _⟩ := HG.out (by omega)
      obtain ⟨F, hrow, horg, _⟩ := RW.out (by omega)
      obtain ⟨x, hx⟩ : ∃ x, l[j]? = some x := ⟨_, List.getElem?_eq_getElem (by rw [HK.out]; exact hlt)⟩
      have hbw : Below N w wr := BW.out.mono hN
      obtain ⟨s, k, pa, ca, hex, q0, q1, hsz, hat⟩ := (HA.out.under hbw).bkV hx
      have HX := Lib.hid hx
      have HEX := Lib.hid hex
      have ca0 : wr.cell? ⟨gb, j * 2, none⟩ = some (.string s) := (hrow.cell j 0 hlt (by decide)).trans (by rw [horg j _ (Nat.le_refl _), q0])
      have ca1 : wr.cell? ⟨gb, j * 2 + 1, none⟩ = some (.slice pa k.length ca) := (hrow.cell j 1 hlt (by decide)).trans (by rw [horg j _ (Nat.le_refl _), q1])
      have hgl := hrow.lt
      have fz := hrow.frz
      have fz0 := fz (j * 2)
      have fz1 := fz (j * 2 + 1)
      have NB := Lib.hid (Blk.new wr [.string s, .slice pa k.length ca] 54)
      have NB' := NB.out
      have nb0 := NB'.c 0 _ rfl
      have nb1 := NB'.c 1 _ rfl
      have HBA : Hid (Below wr.heap.size wr (wr.alloc (.cells [.string s, .slice pa k.length ca].toArray 54))) := Lib.hid (ba wr _)
      have EC := Lib.hid (HC.out x (List.mem_of_getElem? hx) s k pa ca _ hex (BW.out.then_ HBA.out) (hat.under (HBA.out.mono (by have := BW.out.size; omega))))
      have HRW := Lib.hid hrow
      clear hbw hx hrow horg fz NB' hat hex q0 q1
      go_wp2_with (go_at_call 68; ((with_reducible refine EC.out.mono ?_); rintro e w5 ⟨p5, c5, rfl, ha5, hb5⟩; have HB5 := Lib.hid (HBA.out.then_ hb5); have HA5 := Lib.hid ha5; have hz5 := HB5.out.size; have R5 := HRW.out.stay HB5.out; have rl := R5.lt; have rf := R5.frz; have v0 : w5.cell? ⟨gb, j * 2, none⟩ = some _ := R5.cell j 0 hlt (by decide); have z0 := rf (j * 2); have v1 : w5.cell? ⟨gb, j * 2 + 1, none⟩ = some _ := R5.cell j 1 hlt (by decide); have z1 := rf (j * 2 + 1); clear hb5 ha5 rf R5; try clear fz0 ca0 nb0; try clear fz1 ca1 nb1; skip))
      go_roundw
      case rel =>
        refine ⟨j + 1, by omega, by go_num, Lib.hid ?_, Lib.hid fun h => ?_⟩
        · exact putN_below hgw [.string s, .slice p5 k.length c5] _ (j * 2) (BW.out.then_ HB5.out)
        · exact crow_step (ys := [.string s, .slice p5 k.length c5]) (RW.out h) HB5.out hlt HX.out rfl (fun r yy sh h1 h2 => by
            rw [HEX.out] at h1
            match r, h1, h2 with
            | 0, h1, h2 => cases h1; cases h2; exact .s s hsz
            | 1, h1, h2 => cases h1; cases h2; exact (HA5.out.low (by simp; omega))
            | r + 2, h1, _ => simp at h1)
      case measure => simp [intOf]; omega
    · obtain rfl : K = j := by omega
      go_wp2
      go_ret
      refine HP.out _ _ _ ?_ BW.out
      rcases Nat.eq_zero_or_pos K with h | h
      · have : l = [] := List.length_eq_zero_iff.1 (by rw [HK.out]; exact h)
        subst this
        subst h
        exact .nilRow _ _ _
      · obtain ⟨rfl, hgw, _⟩ := HG.out h
        exact crow_done (RW.out h) HA.out HK.out HCP.out hgw

set_option maxRecDepth 100000 in
set_option maxHeartbeats 16000000 in
theorem eachItems (l : List (List Lf)) (p : Option Addr) (cap : Nat) (G : Nat → Nat → Value) (N : Nat) (w : World) (ha : RowA (Lo N) w .items p cap G l) (hN : N ≤ w.heap.size)
    (hc : ∀ x ∈ l, ∀ (y : ItL) (q : ItP) (W : World), x = y.lf → Below w.heap.size w W → IV (Lo N) W q y → Calls Tryz.prog 85 #[iv y q] W (tIt y W)) :
    Calls Tryz.prog 84 #[.slice p l.length cap, .func (.func 85) #[] #[]] w (tRow .items l w) := by
  have CC := scloneItems l p cap G N w ha hN
  have HA := Lib.hid ha
  have HC := Lib.hid hc
  have hl := ha.hl
  simp only [byt] at hl
  have HP : Hid (∀ p' cap' w', At (Hi w.heap.size w') w' (.r .items) (.slice p' l.length cap') (.row .items l) → Below w.heap.size w w' → tRow .items l w (.returned (.slice p' l.length cap')) w') := Lib.hid fun p' cap' w' h1 h2 => ⟨p', cap', rfl, h1, h2⟩
  obtain ⟨K, hK⟩ : ∃ K, l.length = K := ⟨_, rfl⟩
  have HK := Lib.hid hK
  rw [hK] at hl CC HP ⊢
  have hk : K ≤ 140737488351232 := by omega
  have CC := Lib.hid CC
  clear hK ha hc hl
  go_enter Tryz.func84, Tryz.ntmps84
  go_wp2_with (go_at_call 100; ((with_reducible refine CC.out.mono ?_); rintro e w2 ⟨p', cap', rfl, hcp, hb2, hrow⟩; have HR := Lib.hid hrow; have HB2 := Lib.hid hb2; have HCP := Lib.hid hcp; clear hrow hb2 hcp))
  obtain ⟨gb, hgb⟩ : ∃ gb, 0 < K → p' = some ⟨gb, 0, none⟩ ∧ w.heap.size ≤ gb ∧ RowB w2 gb 12 K G := by
    rcases Nat.eq_zero_or_pos K with h | h
    · exact ⟨0, fun x => by omega⟩
    · obtain ⟨gb, e1, e2, e3⟩ := HR.out h
      exact ⟨gb, fun _ => ⟨e1, e2, e3⟩⟩
  have HG := Lib.hid hgb
  clear hgb HR
  go_loopw [11] (fun i wr => ∃ j : Nat, j ≤ K ∧ i = .int .i64 j ∧ Hid (Below w.heap.size w wr) ∧ Hid (0 < K → CRow .items l G gb K j wr)) (fun i _ => K - (intOf i).toNat)
  case atStart => exact ⟨0, Nat.zero_le _, rfl, HB2, Lib.hid fun h => ⟨G, (HG.out h).2.2, fun _ _ _ => rfl, fun a x r y sh h => by omega⟩⟩
  case round =>
    obtain ⟨j, hj, rfl, BW, RW⟩ := hrel
    by_cases hlt : j < K
    · obtain ⟨rfl, hgw, _⟩ := HG.out (by omega)
      obtain ⟨F, hrow, horg, _⟩ := RW.out (by omega)
      obtain ⟨x, hx⟩ : ∃ x, l[j]? = some x := ⟨_, List.getElem?_eq_getElem (by rw [HK.out]; exact hlt)⟩
      have hbw : Below N w wr := BW.out.mono hN
      obtain ⟨y, q, hex, hq, hat⟩ := (HA.out.under hbw).ivV hx
      have HX := Lib.hid hx
      have HEX := Lib.hid hex
      have ca0 : wr.cell? ⟨gb, j * 12, none⟩ = some (.int .i64 y.kd) := (hrow.cell j 0 hlt (by decide)).trans (by rw [horg j _ (Nat.le_refl _), hq 0 (by omega)]; rfl)
      have ca1 : wr.cell? ⟨gb, j * 12 + 1, none⟩ = some (.int .i64 y.op) := (hrow.cell j 1 hlt (by decide)).trans (by rw [horg j _ (Nat.le_refl _), hq 1 (by omega)]; rfl)
      have ca2 : wr.cell? ⟨gb, j * 12 + 2, none⟩ = some (.int .i64 y.n) := (hrow.cell j 2 hlt (by decide)).trans (by rw [horg j _ (Nat.le_refl _), hq 2 (by omega)]; rfl)
      have ca3 : wr.cell? ⟨gb, j * 12 + 3, none⟩ = some (.string y.en) := (hrow.cell j 3 hlt (by decide)).trans (by rw [horg j _ (Nat.le_refl _), hq 3 (by omega)]; rfl)
      have ca4 : wr.cell? ⟨gb, j * 12 + 4, none⟩ = some (.slice q.p4 y.ea.length q.c4) := (hrow.cell j 4 hlt (by decide)).trans (by rw [horg j _ (Nat.le_refl _), hq 4 (by omega)]; rfl)
      have ca5 : wr.cell? ⟨gb, j * 12 + 5, none⟩ = some (.string y.nm) := (hrow.cell j 5 hlt (by decide)).trans (by rw [horg j _ (Nat.le_refl _), hq 5 (by omega)]; rfl)
      have ca6 : wr.cell? ⟨gb, j * 12 + 6, none⟩ = some (.string y.ix) := (hrow.cell j 6 hlt (by decide)).trans (by rw [horg j _ (Nat.le_refl _), hq 6 (by omega)]; rfl)
      have ca7 : wr.cell? ⟨gb, j * 12 + 7, none⟩ = some (.slice q.p7 y.ws.length q.c7) := (hrow.cell j 7 hlt (by decide)).trans (by rw [horg j _ (Nat.le_refl _), hq 7 (by omega)]; rfl)
      have ca8 : wr.cell? ⟨gb, j * 12 + 8, none⟩ = some (.slice q.p8 y.it.length q.c8) := (hrow.cell j 8 hlt (by decide)).trans (by rw [horg j _ (Nat.le_refl _), hq 8 (by omega)]; rfl)
      have ca9 : wr.cell? ⟨gb, j * 12 + 9, none⟩ = some (.slice q.p9 y.el.length q.c9) := (hrow.cell j 9 hlt (by decide)).trans (by rw [horg j _ (Nat.le_refl _), hq 9 (by omega)]; rfl)
      have ca10 : wr.cell? ⟨gb, j * 12 + 10, none⟩ = some (.slice q.p10 y.bf.length q.c10) := (hrow.cell j 10 hlt (by decide)).trans (by rw [horg j _ (Nat.le_refl _), hq 10 (by omega)]; rfl)
      have ca11 : wr.cell? ⟨gb, j * 12 + 11, none⟩ = some (.slice q.p11 y.af.length q.c11) := (hrow.cell j 11 hlt (by decide)).trans (by rw [horg j _ (Nat.le_refl _), hq 11 (by omega)]; rfl)
      have hgl := hrow.lt
      have fz := hrow.frz
      have fz0 := fz (j * 12)
      have fz1 := fz (j * 12 + 1)
      have fz2 := fz (j * 12 + 2)
      have fz3 := fz (j * 12 + 3)
      have fz4 := fz (j * 12 + 4)
      have fz5 := fz (j * 12 + 5)
      have fz6 := fz (j * 12 + 6)
      have fz7 := fz (j * 12 + 7)
      have fz8 := fz (j * 12 + 8)
      have fz9 := fz (j * 12 + 9)
      have fz10 := fz (j * 12 + 10)
      have fz11 := fz (j * 12 + 11)
      have NB := Lib.hid (Blk.new wr [.int .i64 y.kd, .int .i64 y.op, .int .i64 y.n, .string y.en, .slice q.p4 y.ea.length q.c4, .string y.nm, .string y.ix, .slice q.p7 y.ws.length q.c7, .slice q.p8 y.it.length q.c8, .slice q.p9 y.el.length q.c9, .slice q.p10 y.bf.length q.c10, .slice q.p11 y.af.length q.c11] 85)
      have NB' := NB.out
      have nb0 := NB'.c 0 _ rfl
      have nb1 := NB'.c 1 _ rfl
      have nb2 := NB'.c 2 _ rfl
      have nb3 := NB'.c 3 _ rfl
      have nb4 := NB'.c 4 _ rfl
      have nb5 := NB'.c 5 _ rfl
      have nb6 := NB'.c 6 _ rfl
      have nb7 := NB'.c 7 _ rfl
      have nb8 := NB'.c 8 _ rfl
      have nb9 := NB'.c 9 _ rfl
      have nb10 := NB'.c 10 _ rfl
      have nb11 := NB'.c 11 _ rfl
      have HBA : Hid (Below wr.heap.size wr (wr.alloc (.cells [.int .i64 y.kd, .int .i64 y.op, .int .i64 y.n, .string y.en, .slice q.p4 y.ea.length q.c4, .string y.nm, .string y.ix, .slice q.p7 y.ws.length q.c7, .slice q.p8 y.it.length q.c8, .slice q.p9 y.el.length q.c9, .slice q.p10 y.bf.length q.c10, .slice q.p11 y.af.length q.c11].toArray 85))) := Lib.hid (ba wr _)
      have EC := Lib.hid (HC.out x (List.mem_of_getElem? hx) y q _ hex (BW.out.then_ HBA.out) (hat.under (HBA.out.mono (by have := BW.out.size; omega))))
      have HRW := Lib.hid hrow
      clear hbw hx hrow horg fz NB' hat hex hq
      go_wp2_with (go_at_call 85; ((with_reducible refine EC.out.mono ?_); rintro e w5 ⟨q5, rfl, ha5, hb5⟩; simp only [iv, ic]; have HB5 := Lib.hid (HBA.out.then_ hb5); have HA5 := Lib.hid ha5; have hz5 := HB5.out.size; have R5 := HRW.out.stay HB5.out; have rl := R5.lt; have rf := R5.frz; have v0 : w5.cell? ⟨gb, j * 12, none⟩ = some _ := R5.cell j 0 hlt (by decide); have z0 := rf (j * 12); have v1 : w5.cell? ⟨gb, j * 12 + 1, none⟩ = some _ := R5.cell j 1 hlt (by decide); have z1 := rf (j * 12 + 1); have v2 : w5.cell? ⟨gb, j * 12 + 2, none⟩ = some _ := R5.cell j 2 hlt (by decide); have z2 := rf (j * 12 + 2); have v3 : w5.cell? ⟨gb, j * 12 + 3, none⟩ = some _ := R5.cell j 3 hlt (by decide); have z3 := rf (j * 12 + 3); have v4 : w5.cell? ⟨gb, j * 12 + 4, none⟩ = some _ := R5.cell j 4 hlt (by decide); have z4 := rf (j * 12 + 4); have v5 : w5.cell? ⟨gb, j * 12 + 5, none⟩ = some _ := R5.cell j 5 hlt (by decide); have z5 := rf (j * 12 + 5); have v6 : w5.cell? ⟨gb, j * 12 + 6, none⟩ = some _ := R5.cell j 6 hlt (by decide); have z6 := rf (j * 12 + 6); have v7 : w5.cell? ⟨gb, j * 12 + 7, none⟩ = some _ := R5.cell j 7 hlt (by decide); have z7 := rf (j * 12 + 7); have v8 : w5.cell? ⟨gb, j * 12 + 8, none⟩ = some _ := R5.cell j 8 hlt (by decide); have z8 := rf (j * 12 + 8); have v9 : w5.cell? ⟨gb, j * 12 + 9, none⟩ = some _ := R5.cell j 9 hlt (by decide); have z9 := rf (j * 12 + 9); have v10 : w5.cell? ⟨gb, j * 12 + 10, none⟩ = some _ := R5.cell j 10 hlt (by decide); have z10 := rf (j * 12 + 10); have v11 : w5.cell? ⟨gb, j * 12 + 11, none⟩ = some _ := R5.cell j 11 hlt (by decide); have z11 := rf (j * 12 + 11); clear hb5 ha5 rf R5; try clear fz0 ca0 nb0; try clear fz1 ca1 nb1; try clear fz2 ca2 nb2; try clear fz3 ca3 nb3; try clear fz4 ca4 nb4; try clear fz5 ca5 nb5; try clear fz6 ca6 nb6; try clear fz7 ca7 nb7; try clear fz8 ca8 nb8; try clear fz9 ca9 nb9; try clear fz10 ca10 nb10; try clear fz11 ca11 nb11; skip))
      go_roundw
      case rel =>
        refine ⟨j + 1, by omega, by go_num, Lib.hid ?_, Lib.hid fun h => ?_⟩
        · exact putN_below hgw [.int .i64 y.kd, .int .i64 y.op, .int .i64 y.n, .string y.en, .slice q5.p4 y.ea.length q5.c4, .string y.nm, .string y.ix, .slice q5.p7 y.ws.length q5.c7, .slice q5.p8 y.it.length q5.c8, .slice q5.p9 y.el.length q5.c9, .slice q5.p10 y.bf.length q5.c10, .slice q5.p11 y.af.length q5.c11] _ (j * 12) (BW.out.then_ HB5.out)
        · exact crow_step (ys := [.int .i64 y.kd, .int .i64 y.op, .int .i64 y.n, .string y.en, .slice q5.p4 y.ea.length q5.c4, .string y.nm, .string y.ix, .slice q5.p7 y.ws.length q5.c7, .slice q5.p8 y.it.length q5.c8, .slice q5.p9 y.el.length q5.c9, .slice q5.p10 y.bf.length q5.c10, .slice q5.p11 y.af.length q5.c11]) (RW.out h) HB5.out hlt HX.out rfl (fun r yy sh h1 h2 => by
            have B5 := HA5.out
            rw [HEX.out] at h1
            have lw : ∀ {sh : Sh} {v : Value} {lf : Lf}, At (Hi (wr.alloc (.cells [.int .i64 y.kd, .int .i64 y.op, .int .i64 y.n, .string y.en, .slice q.p4 y.ea.length q.c4, .string y.nm, .string y.ix, .slice q.p7 y.ws.length q.c7, .slice q.p8 y.it.length q.c8, .slice q.p9 y.el.length q.c9, .slice q.p10 y.bf.length q.c10, .slice q.p11 y.af.length q.c11].toArray 85)).heap.size w5) w5 sh v lf → At (Hi (gb + 1) w5) w5 sh v lf := fun h => h.low (by simp; omega)
            match r, h1, h2 with
            | 0, h1, h2 => cases h1; cases h2; exact .n _
            | 1, h1, h2 => cases h1; cases h2; exact .n _
            | 2, h1, h2 => cases h1; cases h2; exact .n _
            | 3, h1, h2 => cases h1; cases h2; exact .s _ B5.en
            | 4, h1, h2 => cases h1; cases h2; exact lw B5.ea
            | 5, h1, h2 => cases h1; cases h2; exact .s _ B5.nm
            | 6, h1, h2 => cases h1; cases h2; exact .s _ B5.ix
            | 7, h1, h2 => cases h1; cases h2; exact lw B5.ws
            | 8, h1, h2 => cases h1; cases h2; exact lw B5.it
            | 9, h1, h2 => cases h1; cases h2; exact lw B5.el
            | 10, h1, h2 => cases h1; cases h2; exact lw B5.bf
            | 11, h1, h2 => cases h1; cases h2; exact lw B5.af
            | r + 12, h1, _ => simp [ItL.lf] at h1)
      case measure => simp [intOf]; omega
    · obtain rfl : K = j := by omega
      go_wp2
      go_ret
      refine HP.out _ _ _ ?_ BW.out
      rcases Nat.eq_zero_or_pos K with h | h
      · have : l = [] := List.length_eq_zero_iff.1 (by rw [HK.out]; exact h)
        subst this
        subst h
        exact .nilRow _ _ _
      · obtain ⟨rfl, hgw, _⟩ := HG.out h
        exact crow_done (RW.out h) HA.out HK.out HCP.out hgw
end Go.Proofs.YtoigjeoncdfdmaaGreatDoor.ClW
