/-
  What Check, Find, lineOfNamed, Line and Flatten return.
-/
import Derived.Test.YtoigjeoncdfdmaaGreatDoorClFam
import Derived.Test.YtoigjeoncdfdmaaGreatDoorClValid
import Derived.Test.YtoigjeoncdfdmaaGreatDoorClRefM
namespace Go.Proofs.YtoigjeoncdfdmaaGreatDoor.ClW
open Go Go.RowKit Go.Proofs.YtoigjeoncdfdmaaGreatDoor.NumM Go.Proofs.YtoigjeoncdfdmaaGreatDoor.LexW Go.Proofs.YtoigjeoncdfdmaaGreatDoor.LexM Go.Proofs.YtoigjeoncdfdmaaGreatDoor.ClM

theorem zero_next {α : Type} {f : α → Int} {l : List α} {k : Nat} {x : α} (h : l[k]? = some x) (hz : ∀ y ∈ (l.map f).take k, y = 0) (hf : f x = 0) : ∀ y ∈ (l.map f).take (k + 1), y = 0 := by
  obtain ⟨hk, he⟩ := List.getElem?_eq_some_iff.1 h
  intro y hy
  rw [List.take_succ_eq_append_getElem (by rw [List.length_map]; exact hk), List.mem_append] at hy
  rcases hy with hy | hy
  · exact hz y hy
  · rw [List.mem_singleton, List.getElem_map, he] at hy; rw [hy]; exact hf
theorem zero_here {α : Type} {f : α → Int} {l : List α} {k : Nat} {x : α} (h : l[k]? = some x) (hz : ∀ y ∈ (l.map f).take k, y = 0) (hf : f x ≠ 0) : firstE (l.map f) = f x :=
  firstE_at (by rw [List.getElem?_map, h]; rfl) hf hz
theorem zero_all {α : Type} {f : α → Int} {l : List α} {k : Nat} (hk : l.length ≤ k) (hz : ∀ y ∈ (l.map f).take k, y = 0) : firstE (l.map f) = 0 := by
  rw [firstE_zero]
  rw [List.take_of_length_le (by rw [List.length_map]; exact hk)] at hz
  exact hz
theorem val_small {c : Cl} (h : validE c = 0) : c.fs.length ≤ 16 ∧ c.bs.length ≤ 16 := by
  have := (validE_zero.1 h).lg
  unfold large at this
  simp only [Bool.or_eq_false_iff, decide_eq_false_iff_not] at this
  omega
set_option maxRecDepth 100000 in
set_option maxHeartbeats 8000000 in
theorem check_any (src : List Cl) (p : Option Addr) (cap : Nat) (G : Nat → Nat → Value) (N : Nat) (w : World) (ha : RowA (Lo N) w .classes p cap G (src.map Cl.lf)) (hN : N ≤ w.heap.size) (ht : Tab w) :
    Calls Tryz.prog 20 #[.slice p src.length cap] w (tInt (checkE src) w) := by
  by_cases hn : 32 < src.length
  · have E : Hid (checkE src = 2) := Lib.hid (by unfold checkE; rw [if_pos hn])
    have hl := ha.hl
    rw [List.length_map] at hl
    simp only [byt] at hl
    have hn1 : (32 : Int) < src.length := by omega
    rw [E.out]
    clear E hn ha
    generalize src.length = K at *
    go_enter Tryz.func20, Tryz.ntmps20
    go_wp2
    go_ret
    exact ⟨rfl, Below.refl _ _⟩
  · have E : Hid (checkE src = if firstE (src.map validE) ≠ 0 then firstE (src.map validE) else famE src) := Lib.hid (by unfold checkE; rw [if_neg hn])
    have HA := Lib.hid ha
    have HT := Lib.hid ht
    have FC : Hid ((∀ d ∈ src, d.fs.length ≤ 16 ∧ d.bs.length ≤ 16) → ∀ W, Below w.heap.size w W → Calls Tryz.prog 49 #[.slice p src.length cap] W (tInt (famE src) W)) := Lib.hid fun h W hW => family_any src p cap G N W (ha.under (hW.mono hN)) (Nat.le_trans hN hW.size) (by omega) h
    obtain ⟨K, hK⟩ : ∃ K, src.length = K := ⟨_, rfl⟩
    have HK := Lib.hid hK
    rw [hK] at hn FC ⊢
    have hk : K ≤ 32 := by omega
    have hn1 : decide ((32 : Int) < K) = false := decide_eq_false (by omega)
    have HB0 := Lib.hid (Below.refl w.heap.size w)
    clear hK hn ha ht
    go_enter Tryz.func20, Tryz.ntmps20
    go_wp2
    go_loopw [11] (fun i wr => ∃ j : Nat, j ≤ K ∧ i = .int .i64 j ∧ Hid (∀ x ∈ (src.map validE).take j, x = 0) ∧ Hid (Below w.heap.size w wr)) (fun i _ => K - (intOf i).toNat)
    case atStart => exact ⟨0, Nat.zero_le _, rfl, Lib.hid (by simp), HB0⟩
    case round =>
      obtain ⟨j, hj, rfl, FZ, BW⟩ := hrel
      clear hn1
      by_cases hlt : j < K
      · obtain ⟨c, hc⟩ : ∃ c, src[j]? = some c := ⟨_, List.getElem?_eq_getElem (by rw [HK.out]; exact hlt)⟩
        obtain ⟨b, off, pf, cf, pb, cb, rfl, hb, c0, c1, c2, c3, hcv⟩ := (HA.out.under (BW.out.mono hN)).cl hc
        have FN := Blk.new wr [.string c.nm, .string c.par, .slice pf c.fs.length cf, .slice pb c.bs.length cb] 25
        have HBA : Hid (Below w.heap.size w (wr.alloc (.cells #[.string c.nm, .string c.par, .slice pf c.fs.length cf, .slice pb c.bs.length cb] 25))) := Lib.hid (BW.out.then_ (ba _ _))
        have VC := Lib.hid (valid_any c pf cf pb cb N (wr.alloc (.cells #[.string c.nm, .string c.par, .slice pf c.fs.length cf, .slice pb c.bs.length cb] 25)) (hcv.under ((ba _ _).mono (Nat.le_trans hN BW.out.size))) (Nat.le_trans hN HBA.out.size) (HT.out.later HBA.out))
        have d0 := FN.c 0 _ rfl
        have d1 := FN.c 1 _ rfl
        have d2 := FN.c 2 _ rfl
        have d3 := FN.c 3 _ rfl
        have HC := Lib.hid hc
        clear hc hcv FN hb
        by_cases hz : validE c = 0
        · have FZ2 := Lib.hid (zero_next HC.out FZ.out hz)
          rw [hz] at VC
          clear hz
          go_wp2_with (go_at_call 15; ((with_reducible refine VC.out.mono ?_); rintro e w9 ⟨rfl, hb9⟩; have HB9 := Lib.hid (HBA.out.then_ hb9); clear hb9))
          go_roundw
          case rel => exact ⟨j + 1, by omega, by go_num, FZ2, HB9⟩
          case measure => simp [intOf]; omega
        · have E2 : Hid (checkE src = validE c) := Lib.hid (by have := zero_here HC.out FZ.out hz; rw [E.out, this, if_pos hz])
          have hze : (validE c == 0) = false := by rw [beq_eq_false_iff_ne]; exact hz
          have hzn : ¬ validE c = 0 := hz
          rw [E2.out]
          generalize validE c = q at *
          clear hz
          go_wp2_with (go_at_call 15; ((with_reducible refine VC.out.mono ?_); rintro e w9 ⟨rfl, hb9⟩; have HB9 := Lib.hid (HBA.out.then_ hb9); clear hb9))
          go_ret
          exact ⟨rfl, HB9.out⟩
      · have FZ2 := Lib.hid (zero_all (k := j) (by rw [HK.out]; omega) FZ.out)
        have E2 : Hid (checkE src = famE src) := Lib.hid (by rw [E.out, FZ2.out]; rfl)
        have FC2 := Lib.hid (FC.out (fun d hd => val_small (firstE_zero.1 FZ2.out _ (List.mem_map_of_mem hd))) wr BW.out)
        clear E FC FZ FZ2
        generalize famE src = q at *
        go_wp2_with (go_at_call 49; ((with_reducible refine FC2.out.mono ?_); rintro e w9 ⟨rfl, hb9⟩; have HB9 := Lib.hid (BW.out.then_ hb9); clear hb9))
        go_ret
        exact tInt_mk E2.out.symm HB9.out
/-- A class and whether there is one; all of it below the world's end. -/
def tFind (o : Option Cl) (w : World) (e : Ending) (w' : World) : Prop :=
  ∃ pf cf pb cb, e = .returned (.tuple #[cv (o.getD zCl).nm (o.getD zCl).par (.slice pf (o.getD zCl).fs.length cf) (.slice pb (o.getD zCl).bs.length cb), .bool o.isSome]) ∧ CV (Lo w'.heap.size) w' pf cf pb cb (o.getD zCl) ∧ Below w.heap.size w w'
/-- The world once four cells of a new block are stored. -/
theorem four_set {w : World} {g : Nat} {xs : List Value} (h : Blk w g xs) (hx : xs.length = 4) (a b c d : Value) : Blk ((((w.setCell ⟨g, 0, none⟩ a).setCell ⟨g, 1, none⟩ b).setCell ⟨g, 2, none⟩ c).setCell ⟨g, 3, none⟩ d) g [a, b, c, d] := by
  match xs, hx with
  | [x, y, z, t], _ => exact (((h.set 0 a (by simp)).set 1 b (by simp)).set 2 c (by simp)).set 3 d (by simp)
theorem four_grown (w : World) (g : Nat) (a b c d : Value) : w.grownBy ((((w.setCell ⟨g, 0, none⟩ a).setCell ⟨g, 1, none⟩ b).setCell ⟨g, 2, none⟩ c).setCell ⟨g, 3, none⟩ d) (some g) :=
  (((grown_set w g 0 a).trans (grown_set _ g 1 b)).trans (grown_set _ g 2 c)).trans (grown_set _ g 3 d)
/-- What lies in new blocks stays when the call's own first block is stored into. -/
theorem CV.four {lo g : Nat} {w : World} {pf : Option Addr} {cf : Nat} {pb : Option Addr} {cb : Nat} {x : Cl} (h : CV (Hi lo w) w pf cf pb cb x) (hg : g < lo) (a b c d : Value) : CV (Lo w.heap.size) ((((w.setCell ⟨g, 0, none⟩ a).setCell ⟨g, 1, none⟩ b).setCell ⟨g, 2, none⟩ c).setCell ⟨g, 3, none⟩ d) pf cf pb cb x :=
  h.kept (fun _ q => q.2) (fun k o q v hv => (World.cell?_of_block (w := w) (a := ⟨k, o, none⟩) ((four_grown w g a b c d).block k q.2 (fun e => by cases e; have := q.1; omega))).trans hv)
set_option maxRecDepth 100000 in
set_option maxHeartbeats 8000000 in
theorem findC_any (src : List Cl) (x : ByteArray) (p : Option Addr) (cap : Nat) (G : Nat → Nat → Value) (N : Nat) (w : World) (ha : RowA (Lo N) w .classes p cap G (src.map Cl.lf)) (hN : N ≤ w.heap.size) :
    Calls Tryz.prog 18 #[.slice p src.length cap, .string x] w (tFind (fnd src x) w) := by
  have hb0 := ba w (.cells #[.string ⟨#[]⟩, .string ⟨#[]⟩, .slice none 0 0, .slice none 0 0] 25)
  have Z0 := Lib.hid (Blk.new w [.string ⟨#[]⟩, .string ⟨#[]⟩, .slice none 0 0, .slice none 0 0] 25)
  have FC := Lib.hid (first_any src x p cap G N (w.alloc (.cells #[.string ⟨#[]⟩, .string ⟨#[]⟩, .slice none 0 0, .slice none 0 0] 25)) (ha.under (hb0.mono hN)) (by simp; omega))
  have HB0 := Lib.hid hb0
  generalize fnd src x = o at *
  clear ha hb0
  go_enter Tryz.func18, Tryz.ntmps18
  go_wp2_with (first
    | (go_at_call 47; ((with_reducible refine FC.out.mono ?_); rintro e w5 ⟨pf, cf, pb, cb, rfl, hcv, hb5⟩; generalize ho : o.getD zCl = y at *; have HCV := Lib.hid hcv; have HO := Lib.hid ho; have HB5 := Lib.hid (HB0.out.then_ hb5); have Z5 := Lib.hid (Z0.out.stay hb5); clear hcv ho hb5))
    | (go_at_call 48; ((with_reducible refine (cloneClass_any y pf cf pb cb N _ (HCV.out.under ((ba _ _).mono (Nat.le_trans hN HB5.out.size))) (by have := HB5.out.size; simp; omega)).mono ?_); rintro e w6 ⟨p6, c6, q6, d6, rfl, hcv6, hb6⟩; have Y6 := (Z5.out.alloc _).stay hb6; have HCV6 := Lib.hid hcv6; have HB6 := Lib.hid ((HB5.out.then_ (ba _ _)).then_ hb6); have HZ5 := Lib.hid Z5.out.lt; have Z6 := Lib.hid Y6; have z0 := Y6.c 0 _ rfl; have z1 := Y6.c 1 _ rfl; have z2 := Y6.c 2 _ rfl; have z3 := Y6.c 3 _ rfl; have f0 := Y6.f 0; have f1 := Y6.f 1; have f2 := Y6.f 2; have f3 := Y6.f 3; have yl := Y6.lt; clear hcv6 hb6 Y6)))
  have P := four_set Z6.out rfl (.string y.nm) (.string y.par) (.slice p6 y.fs.length c6) (.slice q6 y.bs.length d6)
  have p0 := P.c 0 _ rfl
  have p1 := P.c 1 _ rfl
  have p2 := P.c 2 _ rfl
  have p3 := P.c 3 _ rfl
  have HCV7 := HCV6.out.four (g := w.heap.size) (by have := HZ5.out; simp; omega) (.string y.nm) (.string y.par) (.slice p6 y.fs.length c6) (.slice q6 y.bs.length d6)
  have HB7 := HB6.out.grown (four_grown w6 w.heap.size (.string y.nm) (.string y.par) (.slice p6 y.fs.length c6) (.slice q6 y.bs.length d6)) HB6.out.size (fun k e => by cases e; exact Nat.le_refl _)
  refine bodyPost_ret (v := .tuple #[cv y.nm y.par (.slice p6 y.fs.length c6) (.slice q6 y.bs.length d6), .bool o.isSome]) (by simp [results, Tryz.results18, go_sem, p0, p1, p2, p3]) rfl ?_
  refine ⟨p6, c6, q6, d6, by rw [HO.out], ?_, HB7⟩
  rw [HO.out]
  exact HCV7.wide (by simp only [setCell_size]; exact Nat.le_refl _)

/-- A list of classes and an error. -/
def tNamed (l : List Cl) (en : Int) (w : World) (e : Ending) (w' : World) : Prop :=
  ∃ p cap G, e = .returned (.tuple #[.slice p l.length cap, .int .i64 en]) ∧ RowA (Lo w'.heap.size) w' .classes p cap G (l.map Cl.lf) ∧ Below w.heap.size w w'
theorem rowA_nil (S : Nat → Prop) (w : World) (k : Kd) (p : Option Addr) (cap : Nat) (G : Nat → Nat → Value) : RowA S w k p cap G [] :=
  ⟨by simp, by simp, fun h => by simp at h, fun _ _ h => by simp at h, fun _ _ _ _ _ h => by simp at h⟩
theorem tNamed_nil {en : Int} {w w' : World} (hb : Below w.heap.size w w') : tNamed [] en w (.returned (.tuple #[.slice none 0 0, .int .i64 en])) w' :=
  ⟨none, 0, fun _ _ => .bool false, rfl, rowA_nil _ _ _ _ _ _, hb⟩
theorem tNamed_of {l : List Cl} {v : Value} {en : Int} {N B : Nat} {w w' : World} (h : LRow N B w' v l) (hl : l.length ≤ 100000) (hN : N ≤ w'.heap.size) (hb : Below w.heap.size w w') : tNamed l en w (.returned (.tuple #[v, .int .i64 en])) w' := by
  obtain ⟨p, cap, G, rfl, r⟩ := h.toLo hl hN
  exact ⟨p, cap, G, rfl, r, hb⟩
/-- A list of texts and an error. -/
def tNames (l : List ByteArray) (en : Int) (w : World) (e : Ending) (w' : World) : Prop :=
  ∃ p cap G, e = .returned (.tuple #[.slice p l.length cap, .int .i64 en]) ∧ RowA (Lo w'.heap.size) w' .strs p cap G (SL l) ∧ Below w.heap.size w w'
/-- A class and an error. -/
def tFlatE (c : Cl) (en : Int) (w : World) (e : Ending) (w' : World) : Prop :=
  ∃ pf cf pb cb, e = .returned (.tuple #[cv c.nm c.par (.slice pf c.fs.length cf) (.slice pb c.bs.length cb), .int .i64 en]) ∧ CV (Lo w'.heap.size) w' pf cf pb cb c ∧ Below w.heap.size w w'

set_option maxRecDepth 100000 in
set_option maxHeartbeats 8000000 in
theorem lineNamed_any (src : List Cl) (x : ByteArray) (p : Option Addr) (cap : Nat) (G : Nat → Nat → Value) (N : Nat) (w : World) (ha : RowA (Lo N) w .classes p cap G (src.map Cl.lf)) (hN : N ≤ w.heap.size) (ht : Tab w) :
    Calls Tryz.prog 54 #[.slice p src.length cap, .string x] w (tNamed (lineE src x).1 (lineE src x).2 w) := by
  have CC := Lib.hid (check_any src p cap G N w ha hN ht)
  by_cases hz : checkE src = 0
  · have hg := checkE_zero.1 hz
    have FC : Hid (∀ W, Below w.heap.size w W → Calls Tryz.prog 47 #[.slice p src.length cap, .string x] W (tFnd N (fnd src x) W)) := Lib.hid fun W hW => first_any src x p cap G N W (ha.under (hW.mono hN)) (Nat.le_trans hN hW.size)
    rw [hz] at CC
    cases hf : fnd src x with
    | none =>
      have E : Hid (lineE src x = ([], 12)) := Lib.hid (by unfold lineE; rw [if_neg (by rw [hz]; simp), hf])
      rw [hf] at FC
      clear hf hz ha hg
      rw [E.out]
      generalize src.length = K at *
      go_enter Tryz.func54, Tryz.ntmps54
      go_wp2_with (first
        | (go_at_call 20; ((with_reducible refine CC.out.mono ?_); rintro e w1 ⟨rfl, hb1⟩; have HB1 := Lib.hid hb1; clear hb1))
        | (go_at_call 47; ((with_reducible refine (FC.out _ HB1.out).mono ?_); rintro e w2 ⟨qf, kf, qb, kb, rfl, _, hb2⟩; have HB2 := Lib.hid (HB1.out.then_ hb2); clear hb2)))
      go_ret2
      exact tNamed_nil (HB2.out.then_ (ba _ _))
    | some c =>
      have E : Hid (lineE src x = (lineOf src c, 0)) := Lib.hid (lineE_of hg hf)
      have hm := (find_mem hf).1
      have LC : Hid (∀ W pf cf pb cb, Below w.heap.size w W → CV (Lo N) W pf cf pb cb c → Calls Tryz.prog 71 #[.slice p src.length cap, cv c.nm c.par (.slice pf c.fs.length cf) (.slice pb c.bs.length cb)] W (tLine W.heap.size (lineOf src c) W)) := Lib.hid fun W pf cf pb cb hW hc => lineOf_any src c p cap G pf cf pb cb W ((ha.under (hW.mono hN)).wide (Nat.le_trans hN hW.size)) (hc.wide (Nat.le_trans hN hW.size)) hm (by have := hg.len; omega) hg.par
      have LL : Hid ((lineOf src c).length ≤ 40) := Lib.hid (line_len hg.len c)
      rw [hf] at FC
      clear hf hz ha hg
      rw [E.out]
      generalize src.length = K at *
      go_enter Tryz.func54, Tryz.ntmps54
      go_wp2_with (first
        | (go_at_call 20; ((with_reducible refine CC.out.mono ?_); rintro e w1 ⟨rfl, hb1⟩; have HB1 := Lib.hid hb1; clear hb1))
        | (go_at_call 47; ((with_reducible refine (FC.out _ HB1.out).mono ?_); rintro e w2 ⟨qf, kf, qb, kb, rfl, hcv, hb2⟩; have HB2 := Lib.hid (HB1.out.then_ hb2); have HCV : Hid (CV (Lo N) w2 qf kf qb kb c) := Lib.hid hcv; clear hb2 hcv))
        | (go_at_call 71; ((with_reducible refine (LC.out _ qf kf qb kb (HB2.out.then_ (ba _ _)) (HCV.out.under ((ba _ _).mono (Nat.le_trans hN HB2.out.size)))).mono ?_); rintro e w3 ⟨v3, rfl, hl3, hb3⟩; have HB3 := Lib.hid ((HB2.out.then_ (ba _ _)).then_ hb3); have HL3 := Lib.hid hl3; have HZ3 := Lib.hid hb3.size; clear hl3 hb3)))
      go_ret2
      exact tNamed_of HL3.out (by have := LL.out; omega) HZ3.out HB3.out
  · have E : Hid (lineE src x = ([], checkE src)) := Lib.hid (by unfold lineE; rw [if_pos hz])
    rw [E.out]
    have hze : (checkE src == 0) = false := by rw [beq_eq_false_iff_ne]; exact hz
    have hzn : ¬ checkE src = 0 := hz
    generalize checkE src = q at *
    generalize src.length = K at *
    clear hz ha
    go_enter Tryz.func54, Tryz.ntmps54
    go_wp2_with (go_at_call 20; ((with_reducible refine CC.out.mono ?_); rintro e w1 ⟨rfl, hb1⟩; have HB1 := Lib.hid hb1; clear hb1))
    go_ret2
    exact tNamed_nil HB1.out

set_option maxRecDepth 100000 in
set_option maxHeartbeats 8000000 in
theorem line_any (src : List Cl) (x : ByteArray) (p : Option Addr) (cap : Nat) (G : Nat → Nat → Value) (N : Nat) (w : World) (ha : RowA (Lo N) w .classes p cap G (src.map Cl.lf)) (hN : N ≤ w.heap.size) (ht : Tab w) :
    Calls Tryz.prog 23 #[.slice p src.length cap, .string x] w (tNames ((lineE src x).1.map Cl.nm) (lineE src x).2 w) := by
  have LC := Lib.hid (lineNamed_any src x p cap G N w ha hN ht)
  have LL : Hid ((lineE src x).1.length ≤ 100000) := Lib.hid (by
    unfold lineE
    split
    · simp
    · rename_i h
      have hg := checkE_zero.1 (Classical.byContradiction h)
      split
      · rename_i c _; have := line_len hg.len c; show (lineOf src c).length ≤ _; omega
      · simp)
  generalize (lineE src x).1 = l at *
  generalize (lineE src x).2 = en at *
  generalize src.length = K at *
  clear ha
  go_enter Tryz.func23, Tryz.ntmps23
  go_wp2_with (first
    | (go_at_call 54; ((with_reducible refine LC.out.mono ?_); rintro e w1 ⟨p1, c1, G1, rfl, r1, hb1⟩; have HB1 := Lib.hid hb1; have NC := Lib.hid (namesC_any l p1 c1 G1 w1.heap.size w1 r1 (Nat.le_refl _)); have SZ := Lib.hid r1.csz; clear hb1 r1))
    | (go_at_call 55; ((with_reducible refine NC.out.mono ?_); rintro e w2 ⟨v2, rfl, ho2, hb2⟩; have HB2 := Lib.hid (HB1.out.then_ hb2); have HO := Lib.hid ho2; clear ho2 hb2)))
  go_ret2
  obtain ⟨p5, c5, G5, rfl, r5⟩ := strs_own HO.out SZ.out (by rw [List.length_map]; have := LL.out; omega)
  exact ⟨p5, c5, G5, rfl, r5.toLo, HB2.out⟩
theorem flat_nm_size {M : Nat} {l : List Cl} (h : ∀ s ∈ l.map Cl.nm, s.size ≤ M) : (flatL l).nm.size ≤ M := by
  cases l with
  | nil => exact Nat.zero_le _
  | cons a r => exact h _ (List.mem_cons_self ..)
theorem tFlat_cv {N B : Nat} {w : World} {c : Cl} {pf : Option Addr} {cf : Nat} {pb : Option Addr} {cb : Nat} (h1 : At (Hi B w) w (.r .fields) (.slice pf c.fs.length cf) (.row .fields (c.fs.map Fld.lf))) (h2 : BRow N B w (.slice pb c.bs.length cb) c.bs) (hN : N ≤ w.heap.size) (hl : c.bs.length ≤ 100000) (hn : c.nm.size ≤ 140737488351232) (hp : c.par.size ≤ 140737488351232) : CV (Lo w.heap.size) w pf cf pb cb c := by
  obtain ⟨G, r, _⟩ := h2.rowA2 hl
  have := (r.kept (S' := Lo w.heap.size) (fun b hb => by rcases hb with hb | hb; exact Nat.lt_of_lt_of_le hb hN; exact hb.2) (fun _ _ _ _ hv => hv)).at_
  rw [List.length_map] at this
  exact ⟨hn, hp, h1.toLo, this⟩
set_option maxRecDepth 100000 in
set_option maxHeartbeats 8000000 in
theorem flatten_any (src : List Cl) (x : ByteArray) (p : Option Addr) (cap : Nat) (G : Nat → Nat → Value) (N : Nat) (w : World) (ha : RowA (Lo N) w .classes p cap G (src.map Cl.lf)) (hN : N ≤ w.heap.size) (ht : Tab w) :
    Calls Tryz.prog 25 #[.slice p src.length cap, .string x] w (tFlatE (flatE src x).1 (flatE src x).2 w) := by
  have hb0 := ba w (.cells #[.string ⟨#[]⟩, .string ⟨#[]⟩, .slice none 0 0, .slice none 0 0] 25)
  have Z0 := Lib.hid (Blk.new w [.string ⟨#[]⟩, .string ⟨#[]⟩, .slice none 0 0, .slice none 0 0] 25)
  have LC := Lib.hid (lineNamed_any src x p cap G N (w.alloc (.cells #[.string ⟨#[]⟩, .string ⟨#[]⟩, .slice none 0 0, .slice none 0 0] 25)) (ha.under (hb0.mono hN)) (by simp; omega) (ht.later hb0))
  have HB0 := Lib.hid hb0
  have LL : Hid ((lineE src x).1.length ≤ 40 ∧ ∀ c ∈ (lineE src x).1, c.fs.length ≤ 16 ∧ c.bs.length ≤ 16) := Lib.hid (by
    unfold lineE
    split
    · simp
    · rename_i h
      have hg := checkE_zero.1 (Classical.byContradiction h)
      split
      · rename_i c hc; exact ⟨line_len hg.len c, fun d hd => val_small (validE_zero.2 (hg.val d (chain_mem (find_mem hc).1 d hd)))⟩
      · simp)
  unfold flatE
  generalize (lineE src x).1 = l at *
  generalize (lineE src x).2 = en at *
  generalize src.length = K at *
  simp only
  clear ha hb0
  obtain ⟨y, hy⟩ : ∃ y, flatL l = y := ⟨_, rfl⟩
  have HY := Lib.hid hy
  rw [hy]
  clear hy
  go_enter Tryz.func25, Tryz.ntmps25
  go_wp2_with (first
    | (go_at_call 54; ((with_reducible refine LC.out.mono ?_); rintro e w1 ⟨p1, c1, G1, rfl, r1, hb1⟩; have HB1 := Lib.hid (HB0.out.then_ hb1); have Z1 := Lib.hid (Z0.out.stay hb1); have FC := Lib.hid (flat_any l p1 c1 G1 w1 r1 LL.out.1 LL.out.2); have NS := Lib.hid (flat_nm_size r1.csz); rw [HY.out] at FC NS; clear hb1 r1))
    | (go_at_call 58; ((with_reducible refine FC.out.mono ?_); rintro e w2 ⟨p2, c2, q2, d2, rfl, ha2, hr2, hb2⟩; have HB2 := Lib.hid (HB1.out.then_ hb2); have Z2 := Lib.hid (Z1.out.stay hb2); have HA2 := Lib.hid ha2; have HR2 := Lib.hid hr2; have HS2 := Lib.hid hb2.size; clear hb2 ha2 hr2))
    | (go_at_call 48; ((with_reducible refine (cloneClass_any y p2 c2 q2 d2 w2.heap.size w2 (tFlat_cv HA2.out HR2.out HS2.out (by have := flatL_len LL.out.2; rw [HY.out] at this; have := LL.out.1; omega) NS.out (by rw [← HY.out, flat_par]; decide)) (Nat.le_refl _)).mono ?_); rintro e w6 ⟨p6, c6, q6, d6, rfl, hcv6, hb6⟩; have Y6 := Z2.out.stay hb6; have HCV6 := Lib.hid hcv6; have HB6 := Lib.hid (HB2.out.then_ hb6); have HZ5 := Lib.hid Z2.out.lt; have Z6 := Lib.hid Y6; have z0 := Y6.c 0 _ rfl; have z1 := Y6.c 1 _ rfl; have z2 := Y6.c 2 _ rfl; have z3 := Y6.c 3 _ rfl; have f0 := Y6.f 0; have f1 := Y6.f 1; have f2 := Y6.f 2; have f3 := Y6.f 3; have yl := Y6.lt; clear hcv6 hb6 Y6)))
  have P := four_set Z6.out rfl (.string y.nm) (.string y.par) (.slice p6 y.fs.length c6) (.slice q6 y.bs.length d6)
  have p0 := P.c 0 _ rfl
  have p1 := P.c 1 _ rfl
  have p2 := P.c 2 _ rfl
  have p3 := P.c 3 _ rfl
  have HCV7 := HCV6.out.four (g := w.heap.size) HZ5.out (.string y.nm) (.string y.par) (.slice p6 y.fs.length c6) (.slice q6 y.bs.length d6)
  have HB7 := HB6.out.grown (four_grown w6 w.heap.size (.string y.nm) (.string y.par) (.slice p6 y.fs.length c6) (.slice q6 y.bs.length d6)) HB6.out.size (fun k e => by cases e; exact Nat.le_refl _)
  refine bodyPost_ret (v := .tuple #[cv y.nm y.par (.slice p6 y.fs.length c6) (.slice q6 y.bs.length d6), .int .i64 en]) (by simp [results, Tryz.results25, go_sem, p0, p1, p2, p3]) rfl ?_
  exact ⟨p6, c6, q6, d6, rfl, HCV7.wide (by simp only [setCell_size]; exact Nat.le_refl _), HB7⟩
end Go.Proofs.YtoigjeoncdfdmaaGreatDoor.ClW
