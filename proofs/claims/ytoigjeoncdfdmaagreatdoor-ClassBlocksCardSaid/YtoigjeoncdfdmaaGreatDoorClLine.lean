/-
  What lineOf returns, where every parent is there.
-/
import Derived.Test.YtoigjeoncdfdmaaGreatDoorClFlat
import Derived.WalkKit
import Derived.Deep.AppendLies
namespace Go.Proofs.YtoigjeoncdfdmaaGreatDoor.ClW
open Go Go.RowKit Go.Shelf Go.Proofs.YtoigjeoncdfdmaaGreatDoor.NumM Go.Proofs.YtoigjeoncdfdmaaGreatDoor.LexW Go.Proofs.YtoigjeoncdfdmaaGreatDoor.LexM Go.Proofs.YtoigjeoncdfdmaaGreatDoor.ClM

attribute [local go_sem] Oper.semAt_some

theorem infoCl : (Tryz.prog.info? 25).map (fun i => (i.zero, i.size, i.bytes)) = some (some (.agg #[.string ⟨#[]⟩, .string ⟨#[]⟩, .slice none 0 0, .slice none 0 0]), 4, 80) := by kernel_rfl
/-- The cells of a class. -/
abbrev cc4 (c : Cl) (pf : Option Addr) (cf : Nat) (pb : Option Addr) (cb : Nat) : List Value := [.string c.nm, .string c.par, .slice pf c.fs.length cf, .slice pb c.bs.length cb]
/-- The cells of a row of classes. -/
structure CkC (N : Nat) (w : World) (cs : List Cl) (xs : List Value) : Prop where
  at_ : ∀ (i : Nat) (c : Cl), cs[i]? = some c → ∃ pf cf pb cb, xs[i * 4]? = some (.string c.nm) ∧ xs[i * 4 + 1]? = some (.string c.par) ∧ xs[i * 4 + 2]? = some (.slice pf c.fs.length cf) ∧ xs[i * 4 + 3]? = some (.slice pb c.bs.length cb) ∧ CV (Lo N) w pf cf pb cb c
/-- A row of classes of the call's own; their lists lie below block N. -/
def LRow (N B : Nat) (w : World) (v : Value) (cs : List Cl) : Prop := ∃ xs, w.ownsRow B 25 4 v cs.length xs ∧ CkC N w cs xs
theorem CV.grown {N : Nat} {w w' : World} {row : Option Nat} {pf : Option Addr} {cf : Nat} {pb : Option Addr} {cb : Nat} {c : Cl} (h : CV (Lo N) w pf cf pb cb c) (hg : w.grownBy w' row) (hN : N ≤ w.heap.size) (hr : ∀ b, row = some b → N ≤ b) : CV (Lo N) w' pf cf pb cb c := ⟨h.nm, h.par, h.fs.grown hg hN hr, h.bs.grown hg hN hr⟩
theorem LRow.grown {N B : Nat} {w w' : World} {v : Value} {cs : List Cl} {row : Option Nat} (h : LRow N B w v cs) (hg : w.grownBy w' row) (hN : N ≤ w.heap.size) (hr : ∀ b, row = some b → N ≤ b ∧ v.ownBlock ≠ some b) : LRow N B w' v cs := by
  obtain ⟨xs, ho, hc⟩ := h
  refine ⟨xs, own_grown ho hg (fun b hb e => (hr b e).2 hb), ⟨fun i b hi => ?_⟩⟩
  obtain ⟨pf, cf, pb, cb, h1, h2, h3, h4, h5⟩ := hc.at_ i b hi
  exact ⟨pf, cf, pb, cb, h1, h2, h3, h4, h5.grown hg hN (fun b e => (hr b e).1)⟩
theorem LRow.later {N B : Nat} {w w' : World} {v : Value} {cs : List Cl} (h : LRow N B w v cs) (hb : Below w.heap.size w w') (hN : N ≤ w.heap.size) : LRow N B w' v cs := h.grown (grown_below hb none) hN (fun b e => by cases e)
theorem LRow.far {N B : Nat} {w : World} {v : Value} {cs : List Cl} (h : LRow N B w v cs) (hN : N ≤ w.heap.size) {g i : Nat} (u : Value) (h1 : N ≤ g) (h2 : v.ownBlock ≠ some g) : LRow N B (w.setCell ⟨g, i, none⟩ u) v cs :=
  h.grown (grown_set w g i u) hN (fun b e => by cases e; exact ⟨h1, h2⟩)
theorem LRow.rowA {N B : Nat} {w : World} {v : Value} {cs : List Cl} (h : LRow N B w v cs) (hl : cs.length ≤ 100000) : ∃ p cap G, v = .slice p cs.length cap ∧ RowA (fun b => b < N ∨ (B ≤ b ∧ b < w.heap.size)) w .classes p cap G (cs.map Cl.lf) := by
  obtain ⟨xs, ho, hc⟩ := h
  obtain ⟨p, cap, rfl⟩ := own_len ho
  refine ⟨p, cap, _, rfl, rowA_own (k := .classes) ho (List.length_map _) (by simp only [byt]; omega) (fun i x hx => ?_) (fun i x j y sh hx hy hsh => ?_) (fun g h1 h2 h3 => .inr ⟨h1, h2⟩)⟩
  · rw [List.getElem?_map] at hx
    obtain ⟨b, _, rfl⟩ := Option.map_eq_some_iff.1 hx
    rfl
  · rw [List.getElem?_map] at hx
    obtain ⟨b, hb, rfl⟩ := Option.map_eq_some_iff.1 hx
    obtain ⟨pf, cf, pb, cb, h1, h2, h3, h4, h5⟩ := hc.at_ i b hb
    match j, hy, hsh with
    | 0, hy, hsh =>
      cases hy
      cases hsh
      have e : xs.getD (i * (shp Kd.classes).length + 0) undef = .string b.nm := by
        rw [List.getD_eq_getElem?_getD, show i * (shp Kd.classes).length + 0 = i * 4 from rfl, h1]; rfl
      rw [e]
      exact .s _ h5.nm
    | 1, hy, hsh =>
      cases hy
      cases hsh
      have e : xs.getD (i * (shp Kd.classes).length + 1) undef = .string b.par := by
        rw [List.getD_eq_getElem?_getD, show i * (shp Kd.classes).length + 1 = i * 4 + 1 from rfl, h2]; rfl
      rw [e]
      exact .s _ h5.par
    | 2, hy, hsh =>
      cases hy
      cases hsh
      have e : xs.getD (i * (shp Kd.classes).length + 2) undef = .slice pf b.fs.length cf := by
        rw [List.getD_eq_getElem?_getD, show i * (shp Kd.classes).length + 2 = i * 4 + 2 from rfl, h3]; rfl
      rw [e]
      exact h5.fs.weak (fun b h => .inl h)
    | 3, hy, hsh =>
      cases hy
      cases hsh
      have e : xs.getD (i * (shp Kd.classes).length + 3) undef = .slice pb b.bs.length cb := by
        rw [List.getD_eq_getElem?_getD, show i * (shp Kd.classes).length + 3 = i * 4 + 3 from rfl, h4]; rfl
      rw [e]
      exact h5.bs.weak (fun b h => .inl h)
    | j + 4, hy, _ => simp [Cl.lf] at hy
theorem LRow.snoc {N B : Nat} {w w' : World} {v v' : Value} {cs : List Cl} {c : Cl} {xs : List Value} {pf : Option Addr} {cf : Nat} {pb : Option Addr} {cb : Nat} (hc : CkC N w cs xs) (hl : xs.length = cs.length * 4) (hat : CV (Lo N) w pf cf pb cb c)
    (ho : w'.ownsRow B 25 4 v' (cs.length + 1) (xs ++ cc4 c pf cf pb cb)) (hg : w.grownBy w' v.ownBlock) (hN : N ≤ w.heap.size) (hv : ∀ g, v.ownBlock = some g → N ≤ g) : LRow N B w' v' (cs ++ [c]) := by
  refine ⟨_, by rw [List.length_append]; exact ho, ⟨fun i x hi => ?_⟩⟩
  rcases Nat.lt_or_ge i cs.length with h | h
  · rw [List.getElem?_append_left h] at hi
    obtain ⟨pf, cf, pb, cb, h1, h2, h3, h4, h5⟩ := hc.at_ i x hi
    refine ⟨pf, cf, pb, cb, ?_, ?_, ?_, ?_, h5.grown hg hN hv⟩
    · rw [List.getElem?_append_left (by omega)]; exact h1
    · rw [List.getElem?_append_left (by omega)]; exact h2
    · rw [List.getElem?_append_left (by omega)]; exact h3
    · rw [List.getElem?_append_left (by omega)]; exact h4
  · have hil := (List.getElem?_eq_some_iff.1 hi).1
    rw [List.length_append] at hil
    have e : i = cs.length := by simp at hil; omega
    subst e
    rw [List.getElem?_append_right (Nat.le_refl _), Nat.sub_self] at hi
    obtain rfl : c = x := by simpa using hi
    refine ⟨pf, cf, pb, cb, ?_, ?_, ?_, ?_, hat.grown hg hN hv⟩
    · rw [List.getElem?_append_right (by omega), show cs.length * 4 - xs.length = 0 by omega]; rfl
    · rw [List.getElem?_append_right (by omega), show cs.length * 4 + 1 - xs.length = 1 by omega]; rfl
    · rw [List.getElem?_append_right (by omega), show cs.length * 4 + 2 - xs.length = 2 by omega]; rfl
    · rw [List.getElem?_append_right (by omega), show cs.length * 4 + 3 - xs.length = 3 by omega]; rfl
theorem LRow.one {N : Nat} {w : World} {c : Cl} {pf : Option Addr} {cf : Nat} {pb : Option Addr} {cb : Nat} {B g : Nat} (hg : w.heap.size = g) (hB : B ≤ g) (h : CV (Lo N) w pf cf pb cb c) (hN : N ≤ w.heap.size) : LRow N B (w.alloc (.cells (cc4 c pf cf pb cb).toArray 25)) (.slice (some ⟨g, 0, none⟩) 1 1) [c] := by
  subst hg
  refine ⟨cc4 c pf cf pb cb, ⟨rfl, .inr ⟨w.heap.size, 1, (cc4 c pf cf pb cb).toArray, rfl, hB, heap_alloc_new _ _, Nat.le_refl _, by decide, rfl, rfl⟩⟩, ⟨fun i x hi => ?_⟩⟩
  have hil := (List.getElem?_eq_some_iff.1 hi).1
  have e : i = 0 := by simp at hil; omega
  subst e
  obtain rfl : c = x := by simpa using hi
  exact ⟨pf, cf, pb, cb, rfl, rfl, rfl, rfl, h.under ((ba _ _).mono hN)⟩
theorem CkC.grown {N : Nat} {w w' : World} {cs : List Cl} {xs : List Value} {row : Option Nat} (hc : CkC N w cs xs) (hg : w.grownBy w' row) (hN : N ≤ w.heap.size) (hr : ∀ b, row = some b → N ≤ b) : CkC N w' cs xs :=
  ⟨fun i b hi => by
    obtain ⟨pf, cf, pb, cb, h1, h2, h3, h4, h5⟩ := hc.at_ i b hi
    exact ⟨pf, cf, pb, cb, h1, h2, h3, h4, h5.grown hg hN hr⟩⟩
/-- Four cells of a block are stored, and a block is made. -/
abbrev put4 (w : World) (g : Nat) (c : Cl) (pf : Option Addr) (cf : Nat) (pb : Option Addr) (cb : Nat) (t : TypeId) : World :=
  ((((w.setCell ⟨g, 0, none⟩ (.string c.nm)).setCell ⟨g, 1, none⟩ (.string c.par)).setCell ⟨g, 2, none⟩ (.slice pf c.fs.length cf)).setCell ⟨g, 3, none⟩ (.slice pb c.bs.length cb)).alloc (.cells (cc4 c pf cf pb cb).toArray t)
theorem put4_grown (w : World) (g : Nat) (c : Cl) (pf : Option Addr) (cf : Nat) (pb : Option Addr) (cb : Nat) (t : TypeId) : w.grownBy (put4 w g c pf cf pb cb t) (some g) :=
  ((((grown_set w g 0 _).trans (grown_set _ g 1 _)).trans (grown_set _ g 2 _)).trans (grown_set _ g 3 _)).trans (grown_below (ba _ _) _)
theorem put4_size (w : World) (g : Nat) (c : Cl) (pf : Option Addr) (cf : Nat) (pb : Option Addr) (cb : Nat) (t : TypeId) : (put4 w g c pf cf pb cb t).heap.size = w.heap.size + 1 := by
  simp
theorem put4_blk {w : World} {g : Nat} {c d : Cl} {qf : Option Addr} {kf : Nat} {qb : Option Addr} {kb : Nat} (h : Blk w g (cc4 d qf kf qb kb)) (pf : Option Addr) (cf : Nat) (pb : Option Addr) (cb : Nat) (t : TypeId) : Blk (put4 w g c pf cf pb cb t) g (cc4 c pf cf pb cb) :=
  ((((h.set 0 (.string c.nm) (by simp)).set 1 (.string c.par) (by simp)).set 2 (.slice pf c.fs.length cf) (by simp)).set 3 (.slice pb c.bs.length cb) (by simp)).alloc _
/-- What is held between two rounds of lineOf. -/
structure LnI (src : List Cl) (c : Cl) (w wr : World) (v : Value) (j : Nat) : Prop where
  ex : ∃ pre d pf cf pb cb, pre.length = j ∧ chain src src.length c = pre ++ chain src (src.length - j) d ∧ d ∈ src ∧ Blk wr w.heap.size (cc4 d pf cf pb cb) ∧ CV (Lo w.heap.size) wr pf cf pb cb d ∧ LRow w.heap.size (w.heap.size + 1) wr v (pre ++ [d])
  low : Below w.heap.size w wr
def lenOf : Value → Nat
  | .slice _ n _ => n
  | _ => 0
/-- A line is returned. -/
def tLine (N : Nat) (l : List Cl) (w : World) (e : Ending) (w' : World) : Prop := ∃ v, e = .returned v ∧ LRow N w.heap.size w' v l ∧ Below w.heap.size w w'
theorem same_nil {a : ByteArray} {v : Bool} (h : same a emp = v) : (a.toList == ([] : List UInt8)) = v := by
  have := same_walk h
  simpa [emp] using this
set_option maxRecDepth 100000 in
set_option maxHeartbeats 8000000 in
theorem lineOf_any (src : List Cl) (c : Cl) (p : Option Addr) (cap : Nat) (G : Nat → Nat → Value) (pf : Option Addr) (cf : Nat) (pb : Option Addr) (cb : Nat) (w : World) (ha : RowA (Lo w.heap.size) w .classes p cap G (src.map Cl.lf)) (hc : CV (Lo w.heap.size) w pf cf pb cb c) (hm : c ∈ src) (hn : src.length ≤ 10000)
    (hno : ∀ d ∈ src, orphan src d = false) : Calls Tryz.prog 71 #[.slice p src.length cap, cv c.nm c.par (.slice pf c.fs.length cf) (.slice pb c.bs.length cb)] w (tLine w.heap.size (chain src src.length c) w) := by
  obtain ⟨i0, hi, hz0, hz1, hz2⟩ := info_parts infoCl
  have HA := Lib.hid ha
  have HNO := Lib.hid hno
  have hb1 : Below w.heap.size w (w.alloc (.cells (cc4 c pf cf pb cb).toArray 25)) := ba w _
  have FB := Blk.new w (cc4 c pf cf pb cb) 25
  have hL0 : LnI src c w ((w.alloc (.cells (cc4 c pf cf pb cb).toArray 25)).alloc (.cells (cc4 c pf cf pb cb).toArray 25)) (.slice (some ⟨w.heap.size + 1, 0, none⟩) 1 1) 0 :=
    ⟨⟨[], c, pf, cf, pb, cb, rfl, rfl, hm, FB.alloc _, (hc.under hb1).under ((ba _ _).mono (by simp)), LRow.one (by simp) (Nat.le_refl _) (hc.under hb1) (by simp)⟩, hb1.then_ (ba _ _)⟩
  have HL0 := Lib.hid hL0
  obtain ⟨n, hnn⟩ : ∃ n, src.length = n := ⟨_, rfl⟩
  have HN := Lib.hid hnn
  rw [hnn] at hn ⊢
  clear ha hno hb1 FB hL0 hm hnn hc
  go_enter Tryz.func71, Tryz.ntmps71
  go_wp2
  go_loopw [5] (fun v wr => ∃ (j : Nat) (p5 : Option Addr) (c5 : Nat), j ≤ n ∧ v = .slice p5 (j + 1) c5 ∧ Hid (LnI src c w wr v j)) (fun v _ => n + 1 - lenOf v)
  case atStart => exact ⟨0, _, _, Nat.zero_le _, rfl, HL0⟩
  case round =>
    obtain ⟨j, p5, c5, hj, rfl, LI⟩ := hrel
    obtain ⟨⟨pre, d, qf, kf, qb, kb, h1, h2, h3, h4, h5, h6⟩, h7⟩ := LI.out
    have k0 := h4.c 0 _ rfl
    have k1 := h4.c 1 _ rfl
    have k2 := h4.c 2 _ rfl
    have k3 := h4.c 3 _ rfl
    have kl := h4.lt
    have H2 := Lib.hid h2
    have H3 := Lib.hid h3
    have H4 := Lib.hid h4
    have H5 := Lib.hid h5
    have H6 := Lib.hid h6
    have H7 := Lib.hid h7
    clear h2 h3 h4 h5 h6 h7 LI
    have hz7 := H7.out.size
    have hre : ∀ l : List Cl, chain src n c = pre ++ l → l = [d] → tLine w.heap.size (chain src n c) w (.returned (.slice p5 (j + 1) c5)) wr := fun l e1 e2 => ⟨_, rfl, by rw [e1, e2]; obtain ⟨xs, ho, hc⟩ := H6.out; exact ⟨xs, own_low ho (by omega), hc⟩, H7.out⟩
    have HRE := Lib.hid hre
    clear hre
    cases hs : same d.par emp
    · have e1 := same_nil hs
      by_cases hlt : j < n
      · have d0 : ((j : Int) + 1) ≤ (n : Int) := by omega
        obtain ⟨d', hd'⟩ : ∃ d', fnd src d.par = some d' := by
          have := HNO.out d H3.out
          unfold orphan at this
          rw [hs] at this
          cases hf : fnd src d.par with
          | none => rw [hf] at this; simp at this
          | some d' => exact ⟨d', rfl⟩
        have FC : Hid (∀ W, Below w.heap.size w W → Calls Tryz.prog 47 #[.slice p n cap, .string d.par] W (tFnd w.heap.size (some d') W)) := Lib.hid fun W hW => by
          have := first_any src d.par p cap G w.heap.size W (HA.out.under hW) hW.size
          rw [hd', HN.out] at this
          exact this
        have HD := Lib.hid (find_mem hd').1
        have HC : Hid (chain src n c = (pre ++ [d]) ++ chain src (n - (j + 1)) d') := Lib.hid (by
          have := H2.out
          rw [HN.out] at this
          rw [this, List.append_assoc]
          congr 1
          obtain ⟨k, hk⟩ : ∃ k, n - j = k + 1 := ⟨n - j - 1, by omega⟩
          rw [hk, chain, if_neg (by rw [hs]; simp), hd', show n - (j + 1) = k by omega]
          rfl)
        clear hs hd' HRE
        obtain ⟨xs0, ho0, hc0⟩ := H6.out
        have hpl : (pre ++ [d]).length = j + 1 := by rw [List.length_append, h1]; rfl
        rw [hpl] at ho0
        have HO0 := Lib.hid ho0
        have HC0 := Lib.hid hc0
        have HPL := Lib.hid hpl
        clear ho0 hc0 hpl
        go_wp2_with (first
          | (go_at_call 47; ((with_reducible refine (FC.out _ H7.out).mono ?_); rintro e w5 ⟨qf5, kf5, qb5, kb5, rfl, hcv, hb5⟩; have Y5 := H4.out.stay hb5; have y0 := Y5.f 0; have y1 := Y5.f 1; have y2 := Y5.f 2; have y3 := Y5.f 3; have yl := Y5.lt; have z0 := Y5.c 0 _ rfl; have z1 := Y5.c 1 _ rfl; have z2 := Y5.c 2 _ rfl; have z3 := Y5.c 3 _ rfl; have HY := Lib.hid Y5; have HCV5 : Hid (CV (Lo w.heap.size) w5 qf5 kf5 qb5 kb5 d') := Lib.hid hcv; have HB5 := Lib.hid hb5; have GT : Hid (wr.grownBy (put4 w5 w.heap.size d' qf5 kf5 qb5 kb5 25) (some w.heap.size)) := Lib.hid ((grown_below hb5 _).trans (put4_grown _ _ _ _ _ _ _ _)); have HO6 : Hid ((put4 w5 w.heap.size d' qf5 kf5 qb5 kb5 25).ownsRow (w.heap.size + 1) 25 4 (.slice p5 (j + 1) c5) (j + 1) xs0) := Lib.hid (own_grown HO0.out GT.out (fun b hb e => by cases e; have := (HO0.out.lt _ hb).1; omega)); have hz5 := hb5.size; clear hcv hb5 k0 k1 k2 k3))
          | (at_builtin; go_loud (refine wpList_append_lies _ rfl _ _ 38 rfl (w.heap.size + 1) 25 i0 (.agg #[.string ⟨#[]⟩, .string ⟨#[]⟩, .slice none 0 0, .slice none 0 0]) 4 80 Tryz.underlying38 hi hz0 hz1 hz2 rfl (by decide) _ (j + 1) xs0 rfl HO6.out ⟨w5.heap.size, 0, none⟩ 1 1 (cc4 d' qf5 kf5 qb5 kb5) rfl rfl (cells_at (by simp only [setCell_size]) (cc4 d' qf5 kf5 qb5 kb5) _) (by intro u hu; simp only [List.mem_cons, List.not_mem_nil, or_false] at hu; rcases hu with rfl | rfl | rfl | rfl <;> rfl) (by omega) (by unfold maxLen; omega) (by omega) (by simp only [World.size_alloc, setCell_size]; omega) _ rfl ?_); go_loud (intro g7 k7 w3 hown' hgrow hat7 _; have HO3 := Lib.hid hown'; have HG3 := Lib.hid hgrow; clear hown' hgrow hat7)))
        go_roundw
        case rel =>
          have hs4 := put4_size w5 w.heap.size d' qf5 kf5 qb5 kb5 25
          have hsT := GT.out.size
          have hNW : w.heap.size ≤ wr.heap.size := hz7
          have hcv6 : CV (Lo w.heap.size) (put4 w5 w.heap.size d' qf5 kf5 qb5 kb5 25) qf5 kf5 qb5 kb5 d' := HCV5.out.grown (put4_grown _ _ _ _ _ _ _ _) (by omega) (fun b e => by cases e; exact Nat.le_refl _)
          have hvb : ∀ b, (Value.slice p5 (j + 1) c5).ownBlock = some b → w.heap.size + 1 ≤ b := fun b e => (HO6.out.lt b e).1
          refine ⟨j + 1, some ⟨g7, 0, none⟩, k7, by omega, by rfl, Lib.hid ⟨⟨pre ++ [d], d', qf5, kf5, qb5, kb5, HPL.out, by rw [HN.out]; exact HC.out, HD.out, (put4_blk HY.out qf5 kf5 qb5 kb5 _).grown HG3.out (fun e => by have := hvb _ e.symm; omega), hcv6.grown HG3.out (by omega) (fun b e => by have := hvb _ e; omega), ?_⟩, ?_⟩⟩
          · exact LRow.snoc (v := .slice p5 (j + 1) c5) (HC0.out.grown GT.out hNW (fun b e => by cases e; exact Nat.le_refl _)) (by rw [HPL.out]; exact HO6.out.1) hcv6 (by rw [HPL.out]; exact HO3.out) HG3.out (by omega) (fun g e => by have := hvb _ e; omega)
          · exact (H7.out.grown GT.out hNW (fun b e => by cases e; exact Nat.le_refl _)).grown HG3.out (by omega) (fun b e => by have := hvb _ e; omega)
        case measure => simp [lenOf]; omega
      · have d0 : ¬ ((j : Int) + 1) ≤ (n : Int) := by omega
        have R := Lib.hid (HRE.out _ (by rw [← HN.out]; exact H2.out) (by rw [HN.out, show n - j = 0 by omega]; rfl))
        clear HRE
        go_wp2
        go_ret
        exact R.out
    · have e1 := same_nil hs
      have R := Lib.hid (HRE.out _ (by rw [← HN.out]; exact H2.out) (by
        cases hk : src.length - j with
        | zero => rfl
        | succ k => rw [chain, if_pos hs]))
      clear HRE
      go_wp2
      go_ret
      exact R.out
end Go.Proofs.YtoigjeoncdfdmaaGreatDoor.ClW
