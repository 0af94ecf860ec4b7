/-
  What the specification's line, Line and Flatten return.
-/
import Derived.Test.YtoigjeoncdfdmaaGreatDoorClRCheck
namespace Go.Proofs.YtoigjeoncdfdmaaGreatDoor.ClW
open Go Go.RowKit Go.Proofs.YtoigjeoncdfdmaaGreatDoor.NumM Go.Proofs.YtoigjeoncdfdmaaGreatDoor.LexW Go.Proofs.YtoigjeoncdfdmaaGreatDoor.LexM Go.Proofs.YtoigjeoncdfdmaaGreatDoor.ClM

/-- A list of classes and an error; what it reaches lies below block N or is new. -/
def tNamedS (N : Nat) (l : List Cl) (en : Int) (w : World) (e : Ending) (w' : World) : Prop :=
  ∃ p cap G, e = .returned (.tuple #[.slice p l.length cap, .int .i64 en]) ∧ RowA (fun b => b < N ∨ (w.heap.size ≤ b ∧ b < w'.heap.size)) w' .classes p cap G (l.map Cl.lf) ∧ Below w.heap.size w w'
theorem tNamedS_nil {N : Nat} {en : Int} {w w' : World} (hb : Below w.heap.size w w') : tNamedS N [] en w (.returned (.tuple #[.slice none 0 0, .int .i64 en])) w' :=
  ⟨none, 0, fun _ _ => .bool false, rfl, rowA_nil _ _ _ _ _ _, hb⟩
theorem tNamedS_of {l : List Cl} {v : Value} {en : Int} {N B : Nat} {w w' : World} (h : LRow N B w' v l) (hl : l.length ≤ 100000) (hB : w.heap.size ≤ B) (hb : Below w.heap.size w w') : tNamedS N l en w (.returned (.tuple #[v, .int .i64 en])) w' := by
  obtain ⟨p, cap, G, rfl, r⟩ := h.rowA hl
  exact ⟨p, cap, G, rfl, r.kept (fun b hb => by rcases hb with hb | hb; exact .inl hb; exact .inr ⟨Nat.le_trans hB hb.1, hb.2⟩) (fun _ _ _ _ hv => hv), hb⟩

set_option maxRecDepth 100000 in
set_option maxHeartbeats 8000000 in
theorem lineRN_any (src : List Cl) (x : ByteArray) (p : Option Addr) (cap : Nat) (G : Nat → Nat → Value) (N : Nat) (w : World) (ha : RowA (Lo N) w .classes p cap G (src.map Cl.lf)) (hN : N ≤ w.heap.size) :
    Calls Tryz.prog 57 #[.slice p src.length cap, .string x] w (tNamedS N (lineE src x).1 (lineE src x).2 w) := by
  have CC := Lib.hid ((by have := checkR_any src p cap G N w ha hN; rw [checkR_eq] at this; exact this))
  by_cases hz : checkE src = 0
  · have hg := checkE_zero.1 hz
    have FC : Hid (∀ W, Below w.heap.size w W → Calls Tryz.prog 19 #[.slice p src.length cap, .string x] W (tFnd N (fnd src x) W)) := Lib.hid fun W hW => find_any src x p cap G N W (ha.under (hW.mono hN)) (Nat.le_trans hN hW.size)
    rw [hz] at CC
    cases hf : fnd src x with
    | none =>
      have E : Hid (lineE src x = ([], 12)) := Lib.hid (by unfold lineE; rw [if_neg (by rw [hz]; simp), hf])
      rw [hf] at FC
      clear hf hz ha hg
      rw [E.out]
      generalize src.length = K at *
      go_enter Tryz.func57, Tryz.ntmps57
      go_wp2_with (first
        | (go_at_call 21; ((with_reducible refine CC.out.mono ?_); rintro e w1 ⟨rfl, hb1⟩; have HB1 := Lib.hid hb1; clear hb1))
        | (go_at_call 19; ((with_reducible refine (FC.out _ HB1.out).mono ?_); rintro e w2 ⟨qf, kf, qb, kb, rfl, _, hb2⟩; have HB2 := Lib.hid (HB1.out.then_ hb2); clear hb2)))
      go_ret2
      exact tNamedS_nil (HB2.out.then_ (ba _ _))
    | some c =>
      have E : Hid (lineE src x = (lineOf src c, 0)) := Lib.hid (lineE_of hg hf)
      have hm := (find_mem hf).1
      have LC : Hid (∀ W pf cf pb cb, Below w.heap.size w W → CV (Lo N) W pf cf pb cb c → Calls Tryz.prog 50 #[.slice p src.length cap, cv c.nm c.par (.slice pf c.fs.length cf) (.slice pb c.bs.length cb)] W (tLine N (lineOf src c) W)) := Lib.hid fun W pf cf pb cb hW hc => (by rw [← hg.lineR hm]; exact up_any src c p cap G pf cf pb cb N W (ha.under (hW.mono hN)) hc (Nat.le_trans hN hW.size))
      have LL : Hid ((lineOf src c).length ≤ 40) := Lib.hid (line_len hg.len c)
      rw [hf] at FC
      clear hf hz ha hg
      rw [E.out]
      generalize src.length = K at *
      go_enter Tryz.func57, Tryz.ntmps57
      go_wp2_with (first
        | (go_at_call 21; ((with_reducible refine CC.out.mono ?_); rintro e w1 ⟨rfl, hb1⟩; have HB1 := Lib.hid hb1; clear hb1))
        | (go_at_call 19; ((with_reducible refine (FC.out _ HB1.out).mono ?_); rintro e w2 ⟨qf, kf, qb, kb, rfl, hcv, hb2⟩; have HB2 := Lib.hid (HB1.out.then_ hb2); have HCV : Hid (CV (Lo N) w2 qf kf qb kb c) := Lib.hid hcv; clear hb2 hcv))
        | (go_at_call 50; ((with_reducible refine (LC.out _ qf kf qb kb (HB2.out.then_ (ba _ _)) (HCV.out.under ((ba _ _).mono (Nat.le_trans hN HB2.out.size)))).mono ?_); rintro e w3 ⟨v3, rfl, hl3, hb3⟩; have HB3 := Lib.hid ((HB2.out.then_ (ba _ _)).then_ hb3); have HL3 := Lib.hid hl3; clear hl3 hb3)))
      go_ret2
      exact tNamedS_of HL3.out (by have := LL.out; omega) (by have := HB2.out.size; simp; omega) HB3.out
  · have E : Hid (lineE src x = ([], checkE src)) := Lib.hid (by unfold lineE; rw [if_pos hz])
    rw [E.out]
    have hze : (checkE src == 0) = false := by rw [beq_eq_false_iff_ne]; exact hz
    have hzn : ¬ checkE src = 0 := hz
    generalize checkE src = q at *
    generalize src.length = K at *
    clear hz ha
    go_enter Tryz.func57, Tryz.ntmps57
    go_wp2_with (go_at_call 21; ((with_reducible refine CC.out.mono ?_); rintro e w1 ⟨rfl, hb1⟩; have HB1 := Lib.hid hb1; clear hb1))
    go_ret2
    exact tNamedS_nil HB1.out

theorem lineE_len (src : List Cl) (x : ByteArray) : (lineE src x).1.length ≤ 40 ∧ ∀ c ∈ (lineE src x).1, c.fs.length ≤ 16 ∧ c.bs.length ≤ 16 := by
  unfold lineE
  split
  · simp
  · rename_i h
    have hg := checkE_zero.1 (Classical.byContradiction h)
    split
    · rename_i c hc; exact ⟨line_len hg.len c, fun d hd => val_small (validE_zero.2 (hg.val d (chain_mem (find_mem hc).1 d hd)))⟩
    · simp
theorem lineE_cons {src : List Cl} {x : ByteArray} (h : (lineE src x).2 = 0) : ∃ c r, (lineE src x).1 = c :: r := by
  obtain ⟨_, c, _, e⟩ := lineE_ok (src := src) (x := x) (l := (lineE src x).1) (by rw [← h])
  obtain ⟨r, hr⟩ := chain_head src src.length c
  exact ⟨c, r, by rw [e]; exact hr⟩
set_option maxRecDepth 100000 in
set_option maxHeartbeats 8000000 in
theorem lineRL_any (src : List Cl) (x : ByteArray) (p : Option Addr) (cap : Nat) (G : Nat → Nat → Value) (N : Nat) (w : World) (ha : RowA (Lo N) w .classes p cap G (src.map Cl.lf)) (hN : N ≤ w.heap.size) :
    Calls Tryz.prog 24 #[.slice p src.length cap, .string x] w (tNames ((lineE src x).1.map Cl.nm) (lineE src x).2 w) := by
  obtain ⟨i0, hi, hz0, hz1, hz2⟩ := info_parts infoS
  have LC := Lib.hid (lineRN_any src x p cap G N w ha hN)
  have LL := Lib.hid (lineE_len src x).1
  have EN := Lib.hid (lineE_no (src := src) (x := x))
  generalize (lineE src x).1 = l at *
  generalize (lineE src x).2 = en at *
  generalize src.length = K0 at *
  clear ha
  by_cases hz : en = 0
  · subst hz
    obtain ⟨K, hK⟩ : ∃ K, l.length = K := ⟨_, rfl⟩
    have HK := Lib.hid hK
    have hk : K ≤ 40 := by rw [← hK]; exact LL.out
    have HP : Hid (∀ v w', w'.ownsRow w.heap.size 9 1 v l.length (l.map (fun c => Value.string c.nm)) → (∀ s ∈ l.map Cl.nm, s.size ≤ 140737488351232) → Below w.heap.size w w' → tNames (l.map Cl.nm) 0 w (.returned (.tuple #[v, .int .i64 0])) w') := Lib.hid fun v w' ho hs hb => by
      obtain ⟨p5, c5, G5, rfl, r5⟩ := strs_own (l := l.map Cl.nm) (by rw [List.length_map, List.map_map]; exact ho) hs (by rw [List.length_map]; have := LL.out; omega)
      exact ⟨p5, c5, G5, rfl, r5.toLo, hb⟩
    clear hK
    go_enter Tryz.func24, Tryz.ntmps24
    go_wp2_with (go_at_call 57; ((with_reducible refine LC.out.mono ?_); rintro e w1 ⟨p1, c1, G1, rfl, r1, hb1⟩; rw [HK.out]; have HB1 := Lib.hid hb1; have HR1 : Hid (RowA (Lo w1.heap.size) w1 .classes p1 c1 G1 (l.map Cl.lf)) := Lib.hid (r1.kept (fun b h => by rcases h with h | h; exact Nat.lt_of_lt_of_le h (Nat.le_trans hN hb1.size); exact h.2) (fun _ _ _ _ hv => hv)); have HS1 := Lib.hid r1.csz; have HO1 := Lib.hid (World.ownsRow_nil w1 w1.heap.size 9 1); have HB0 := Lib.hid (Below.refl w1.heap.size w1); clear hb1 r1))
    go_loopw [8, 9] (fun u i wr => ∃ j : Nat, j ≤ K ∧ i = .int .i64 j ∧ Hid (wr.ownsRow w1.heap.size 9 1 u j ((l.take j).map (fun c => Value.string c.nm))) ∧ Hid (Below w1.heap.size w1 wr)) (fun _ i _ => K - (intOf i).toNat)
    case atStart => exact ⟨0, Nat.zero_le _, rfl, HO1, HB0⟩
    case round =>
      obtain ⟨j, hj, rfl, OW, BW⟩ := hrel
      by_cases hlt : j < K
      · obtain ⟨c, hc⟩ : ∃ c, l[j]? = some c := ⟨_, List.getElem?_eq_getElem (by rw [HK.out]; exact hlt)⟩
        obtain ⟨b, off, pf, cf, pb, cb, rfl, hb, d0, d1, d2, d3, hcv⟩ := (HR1.out.under BW.out).cl hc
        have MS := Lib.hid (map_snoc (f := fun c : Cl => Value.string c.nm) hc)
        have HBA : Hid (Below w1.heap.size w1 (wr.alloc (.cells [.string c.nm].toArray 9))) := Lib.hid (BW.out.then_ (ba _ _))
        have OA := Lib.hid (OW.out.alloc (.cells [.string c.nm].toArray 9))
        obtain ⟨q, qc, rfl⟩ := own_len OW.out
        clear hc OW hb hcv d1 d2 d3
        go_wp2_with (at_builtin; go_loud (refine wpList_append_own _ rfl _ _ 45 rfl w1.heap.size 9 i0 (.string ⟨#[]⟩) 1 16 Tryz.underlying45 hi hz0 hz1 hz2 rfl (by decide) _ j _ rfl OA.out ⟨wr.heap.size, 0, none⟩ 1 1 [.string c.nm] rfl rfl (cell_one_at rfl _ _) (by simp [Value.oneCell']) (by unfold maxLen; omega) (by omega) HBA.out.size ?_); go_loud (intro v' w2 hown' hgrow _; have O2 := Lib.hid hown'; have H2 := Lib.hid (HBA.out.grown hgrow HBA.out.size (own_block OA.out)); clear hown' hgrow))
        go_roundw
        case rel => exact ⟨j + 1, by omega, by go_num, by rw [MS.out]; exact O2, H2⟩
        case measure => simp [intOf]; omega
      · have OF : Hid (wr.ownsRow w1.heap.size 9 1 u8 l.length (l.map (fun c => Value.string c.nm))) := Lib.hid (by have := OW.out; rw [show j = K by omega, List.take_of_length_le (by rw [HK.out]; exact Nat.le_refl _)] at this; rw [HK.out]; exact this)
        go_wp2
        go_ret2
        exact HP.out _ _ (own_low OF.out HB1.out.size) HS1.out (HB1.out.then_ BW.out)
  · have hze : (en == 0) = false := by rw [beq_eq_false_iff_ne]; exact hz
    have hzn : ¬ en = 0 := hz
    obtain rfl := EN.out hz
    clear hz EN
    go_enter Tryz.func24, Tryz.ntmps24
    go_wp2_with (go_at_call 57; ((with_reducible refine LC.out.mono ?_); rintro e w1 ⟨p1, c1, G1, rfl, r1, hb1⟩; have HB1 := Lib.hid hb1; clear hb1 r1))
    go_ret2
    exact ⟨none, 0, fun _ _ => .bool false, rfl, rowA_nil _ _ _ _ _ _, HB1.out⟩
set_option maxRecDepth 100000 in
set_option maxHeartbeats 8000000 in
theorem flattenR_any (src : List Cl) (x : ByteArray) (p : Option Addr) (cap : Nat) (G : Nat → Nat → Value) (N : Nat) (w : World) (ha : RowA (Lo N) w .classes p cap G (src.map Cl.lf)) (hN : N ≤ w.heap.size) :
    Calls Tryz.prog 26 #[.slice p src.length cap, .string x] w (tFlatE (flatE src x).1 (flatE src x).2 w) := by
  have hb0 := ba w (.cells #[.string ⟨#[]⟩, .string ⟨#[]⟩, .slice none 0 0, .slice none 0 0] 25)
  have Z0 := Lib.hid (Blk.new w [.string ⟨#[]⟩, .string ⟨#[]⟩, .slice none 0 0, .slice none 0 0] 25)
  have LC := Lib.hid (lineRN_any src x p cap G N (w.alloc (.cells #[.string ⟨#[]⟩, .string ⟨#[]⟩, .slice none 0 0, .slice none 0 0] 25)) (ha.under (hb0.mono hN)) (by simp; omega))
  have HB0 := Lib.hid hb0
  have LL := Lib.hid (lineE_len src x)
  have EN := Lib.hid (lineE_no (src := src) (x := x))
  have EC := Lib.hid (lineE_cons (src := src) (x := x))
  unfold flatE
  generalize (lineE src x).1 = l at *
  generalize (lineE src x).2 = en at *
  generalize src.length = K at *
  simp only
  clear ha hb0
  by_cases hz : en = 0
  · subst hz
    obtain ⟨c, r, hcr⟩ := EC.out rfl
    obtain ⟨y, hy⟩ : ∃ y, flatL l = y := ⟨_, rfl⟩
    have HY := Lib.hid hy
    have FC : Hid (∀ q k M W, ∀ (S : Nat → Prop), (∀ b, S b → b < W.heap.size) → RowA S W .classes q k M (l.map Cl.lf) → Calls Tryz.prog 52 #[.slice q l.length k] W fun e w' => ∃ pf cf pb cb, e = .returned (cv y.nm y.par (.slice pf y.fs.length cf) (.slice pb y.bs.length cb)) ∧ CV (fun b => S b ∨ (W.heap.size + 2 ≤ b ∧ b < w'.heap.size)) w' pf cf pb cb y ∧ Below W.heap.size W w') := Lib.hid fun q k M W S hS h => by
      have hl := LL.out
      rw [← hy]
      rw [hcr] at h hl ⊢
      exact flatR_any c r q k M S W h hS hl.1 hl.2
    rw [hy]
    clear hy EC EN hcr
    go_enter Tryz.func26, Tryz.ntmps26
    go_wp2_with (first
      | (go_at_call 57; ((with_reducible refine LC.out.mono ?_); rintro e w1 ⟨p1, c1, G1, rfl, r1, hb1⟩; have HB1 := Lib.hid (HB0.out.then_ hb1); have Z1 := Lib.hid (Z0.out.stay hb1); have FC1 := Lib.hid (FC.out p1 c1 G1 w1 _ (fun b h => by rcases h with h | h; exact Nat.lt_of_lt_of_le h (Nat.le_trans (Nat.le_trans hN HB0.out.size) hb1.size); exact h.2) r1); have HZ1 := Lib.hid hb1.size; clear hb1 r1))
      | (go_at_call 52; ((with_reducible refine FC1.out.mono ?_); rintro e w6 ⟨p6, c6, q6, d6, rfl, hcv6, hb6⟩; have Y6 := Z1.out.stay hb6; have HCV6 := Lib.hid hcv6; have HB16 := Lib.hid hb6.size; have HB6 := Lib.hid (HB1.out.then_ hb6); have Z6 := Lib.hid Y6; have z0 := Y6.c 0 _ rfl; have z1 := Y6.c 1 _ rfl; have z2 := Y6.c 2 _ rfl; have z3 := Y6.c 3 _ rfl; have f0 := Y6.f 0; have f1 := Y6.f 1; have f2 := Y6.f 2; have f3 := Y6.f 3; have yl := Y6.lt; clear hcv6 hb6 Y6)))
    have P := four_set Z6.out rfl (.string y.nm) (.string y.par) (.slice p6 y.fs.length c6) (.slice q6 y.bs.length d6)
    have p0 := P.c 0 _ rfl
    have p1' := P.c 1 _ rfl
    have p2 := P.c 2 _ rfl
    have p3 := P.c 3 _ rfl
    have hz1 := HZ1.out
    have hz6 := HB16.out
    simp only [World.size_alloc] at hz1
    have hS6 : ∀ b, ((b < N ∨ ((w.alloc (.cells #[.string ⟨#[]⟩, .string ⟨#[]⟩, .slice none 0 0, .slice none 0 0] 25)).heap.size ≤ b ∧ b < w1.heap.size)) ∨ (w1.heap.size + 2 ≤ b ∧ b < w6.heap.size)) → b ≠ w.heap.size ∧ b < w6.heap.size := fun b h => by
      simp only [World.size_alloc] at h
      omega
    have HCV7 := HCV6.out.fourNe (g := w.heap.size) hS6 (.string y.nm) (.string y.par) (.slice p6 y.fs.length c6) (.slice q6 y.bs.length d6)
    have HB7 := HB6.out.grown (four_grown w6 w.heap.size (.string y.nm) (.string y.par) (.slice p6 y.fs.length c6) (.slice q6 y.bs.length d6)) HB6.out.size (fun k e => by cases e; exact Nat.le_refl _)
    refine bodyPost_ret (v := .tuple #[cv y.nm y.par (.slice p6 y.fs.length c6) (.slice q6 y.bs.length d6), .int .i64 0]) (by simp [results, Tryz.results26, go_sem, p0, p1', p2, p3]) rfl ?_
    exact ⟨p6, c6, q6, d6, rfl, HCV7.kept (fun b h => by simp only [setCell_size]; exact (hS6 b h).2) (fun _ _ _ _ hv => hv), HB7⟩
  · have hze : (en == 0) = false := by rw [beq_eq_false_iff_ne]; exact hz
    have hzn : ¬ en = 0 := hz
    obtain rfl := EN.out hz
    clear hz EN EC
    go_enter Tryz.func26, Tryz.ntmps26
    go_wp2_with (go_at_call 57; ((with_reducible refine LC.out.mono ?_); rintro e w1 ⟨p1, c1, G1, rfl, r1, hb1⟩; have HB1 := Lib.hid (HB0.out.then_ hb1); have Y6 := Z0.out.stay hb1; have Z6 := Lib.hid Y6; have z0 := Y6.c 0 _ rfl; have z1 := Y6.c 1 _ rfl; have z2 := Y6.c 2 _ rfl; have z3 := Y6.c 3 _ rfl; have f0 := Y6.f 0; have f1 := Y6.f 1; have f2 := Y6.f 2; have f3 := Y6.f 3; have yl := Y6.lt; clear hb1 r1 Y6))
    have P := four_set Z6.out rfl (.string ⟨#[]⟩) (.string ⟨#[]⟩) (.slice none 0 0) (.slice none 0 0)
    have p0 := P.c 0 _ rfl
    have p1 := P.c 1 _ rfl
    have p2 := P.c 2 _ rfl
    have p3 := P.c 3 _ rfl
    have HB7 := HB1.out.grown (four_grown w1 w.heap.size (.string ⟨#[]⟩) (.string ⟨#[]⟩) (.slice none 0 0) (.slice none 0 0)) HB1.out.size (fun k e => by cases e; exact Nat.le_refl _)
    refine bodyPost_ret (v := .tuple #[cv ⟨#[]⟩ ⟨#[]⟩ (.slice none 0 0) (.slice none 0 0), .int .i64 en]) (by simp [results, Tryz.results26, go_sem, p0, p1, p2, p3]) rfl ?_
    exact ⟨none, 0, none, 0, rfl, .zero _ _, HB7⟩
end Go.Proofs.YtoigjeoncdfdmaaGreatDoor.ClW
