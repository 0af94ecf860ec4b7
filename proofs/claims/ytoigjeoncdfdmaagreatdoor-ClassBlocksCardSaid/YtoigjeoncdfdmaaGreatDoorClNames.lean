/-
  What namesOf and repeats return.
-/
import Derived.Test.YtoigjeoncdfdmaaGreatDoorClOwn
import Derived.Maps.OwnIn
import Derived.Maps.AppendAt
import Derived.Maps.Views
namespace Go.Proofs.YtoigjeoncdfdmaaGreatDoor.ClW
open Go Go.RowKit Go.Proofs.YtoigjeoncdfdmaaGreatDoor.NumM Go.Proofs.YtoigjeoncdfdmaaGreatDoor.LexW Go.Proofs.YtoigjeoncdfdmaaGreatDoor.LexM Go.Proofs.YtoigjeoncdfdmaaGreatDoor.ClM
open Go.«Sort»

set_option maxRecDepth 100000 in
set_option maxHeartbeats 4000000 in
theorem namesF_any (l : List Fld) (p : Option Addr) (cap : Nat) (G : Nat → Nat → Value) (N : Nat) (w : World) (ha : RowA (Lo N) w .fields p cap G (l.map Fld.lf)) (hN : N ≤ w.heap.size) :
    Calls Tryz.prog 43 #[.slice p l.length cap, .func (.func 44) #[] #[]] w (tStrs (l.map Fld.nm) w) := by
  obtain ⟨i0, hi, hz0, hz1, hz2⟩ := info_parts infoS
  have HA := Lib.hid ha
  have hl := ha.hl
  rw [List.length_map] at hl
  simp only [byt] at hl
  have HP : Hid (∀ v w', w'.ownsRow w.heap.size 9 1 v l.length (l.map (fun c => Value.string c.nm)) → Below w.heap.size w w' → tStrs (l.map Fld.nm) w (.returned v) w') := Lib.hid fun v w' ho hb => ⟨v, rfl, by rw [List.length_map, List.map_map]; exact ho, hb⟩
  obtain ⟨K, hK⟩ : ∃ K, l.length = K := ⟨_, rfl⟩
  have HK := Lib.hid hK
  rw [hK] at hl HP ⊢
  have hk : K ≤ 140737488351232 := by omega
  clear hK ha
  have HB0 := Lib.hid (Below.refl w.heap.size w)
  have HO0 := Lib.hid (World.ownsRow_nil w w.heap.size 9 1)
  go_enter Tryz.func43, Tryz.ntmps43
  go_wp2
  go_loopw [5, 10] (fun u i wr => ∃ j : Nat, j ≤ K ∧ i = .int .i64 j ∧ Hid (wr.ownsRow w.heap.size 9 1 u j ((l.take j).map (fun c => Value.string c.nm))) ∧ Hid (Below w.heap.size w wr)) (fun _ i _ => K - (intOf i).toNat)
  case atStart => exact ⟨0, Nat.zero_le _, rfl, HO0, HB0⟩
  case round =>
    obtain ⟨j, hj, rfl, OW, BW⟩ := hrel
    by_cases hlt : j < K
    · obtain ⟨c, hc⟩ : ∃ c, l[j]? = some c := ⟨_, List.getElem?_eq_getElem (by rw [HK.out]; exact hlt)⟩
      have hbw : Below N w wr := BW.out.mono hN
      obtain ⟨b, off, rfl, hb, c0, c1, c2, c3, c4, hsz⟩ := (HA.out.under hbw).fd hc
      have FN := Blk.new wr [.string c.nm, .int .i64 c.wd, .int .i64 c.sz, .int .i64 c.md, .int .i64 c.ini] 27
      have d0 := FN.c 0 _ rfl
      have d1 := FN.c 1 _ rfl
      have d2 := FN.c 2 _ rfl
      have d3 := FN.c 3 _ rfl
      have d4 := FN.c 4 _ rfl
      have MS := Lib.hid (map_snoc (f := fun c : Fld => Value.string c.nm) hc)
      have HBA : Hid (Below w.heap.size w (wr.alloc (.cells [.string c.nm, .int .i64 c.wd, .int .i64 c.sz, .int .i64 c.md, .int .i64 c.ini].toArray 27))) := Lib.hid (BW.out.alloc BW.out.size _)
      have OA := Lib.hid (OW.out.alloc (.cells [.string c.nm, .int .i64 c.wd, .int .i64 c.sz, .int .i64 c.md, .int .i64 c.ini].toArray 27))
      obtain ⟨q, qc, rfl⟩ := own_len OW.out
      clear hc hbw FN OW
      go_wp2_with (first
        | (go_at_call 44; ((with_reducible refine (fName_any _ _ _ _ _ _).mono ?_); rintro e w1 ⟨rfl, hb1⟩; have OB := Lib.hid ((own_later OA.out hb1).alloc (.cells #[.string c.nm] 9)); have HB1 := Lib.hid (HBA.out.then_ hb1); have HB2 := Lib.hid (HB1.out.alloc HB1.out.size (.cells #[.string c.nm] 9)); clear hb1))
        | (at_builtin; go_loud (refine wpList_append_own _ rfl _ _ 45 rfl w.heap.size 9 i0 (.string ⟨#[]⟩) 1 16 Tryz.underlying45 hi hz0 hz1 hz2 rfl (by decide) _ j _ rfl OB.out ⟨w1.heap.size, 0, none⟩ 1 1 [.string c.nm] rfl rfl (cell_one_at rfl _ _) (by simp [Value.oneCell']) (by unfold maxLen; omega) (by omega) HB2.out.size ?_); go_loud (intro v' w2 hown' hgrow _; have O2 := Lib.hid hown'; have H2 := Lib.hid (HB2.out.grown hgrow HB2.out.size (own_block OB.out)); clear hown' hgrow)))
      go_roundw
      case rel => exact ⟨j + 1, by omega, by go_num, by rw [MS.out]; exact O2, H2⟩
      case measure => simp [intOf]; omega
    · have OF : Hid (wr.ownsRow w.heap.size 9 1 u5 K (l.map (fun c => Value.string c.nm))) := Lib.hid (by have := OW.out; rw [show j = K by omega, List.take_of_length_le (by rw [HK.out]; exact Nat.le_refl _)] at this; exact this)
      go_wp2
      go_ret
      exact HP.out _ _ OF.out BW.out

set_option maxRecDepth 100000 in
set_option maxHeartbeats 4000000 in
theorem namesB_any (l : List Bk) (p : Option Addr) (cap : Nat) (G : Nat → Nat → Value) (N : Nat) (w : World) (ha : RowA (Lo N) w .blocks p cap G (l.map Bk.lf)) (hN : N ≤ w.heap.size) :
    Calls Tryz.prog 38 #[.slice p l.length cap, .func (.func 39) #[] #[]] w (tStrs (l.map Bk.nm) w) := by
  obtain ⟨i0, hi, hz0, hz1, hz2⟩ := info_parts infoS
  have HA := Lib.hid ha
  have hl := ha.hl
  rw [List.length_map] at hl
  simp only [byt] at hl
  have HP : Hid (∀ v w', w'.ownsRow w.heap.size 9 1 v l.length (l.map (fun c => Value.string c.nm)) → Below w.heap.size w w' → tStrs (l.map Bk.nm) w (.returned v) w') := Lib.hid fun v w' ho hb => ⟨v, rfl, by rw [List.length_map, List.map_map]; exact ho, hb⟩
  obtain ⟨K, hK⟩ : ∃ K, l.length = K := ⟨_, rfl⟩
  have HK := Lib.hid hK
  rw [hK] at hl HP ⊢
  have hk : K ≤ 140737488351232 := by omega
  clear hK ha
  have HB0 := Lib.hid (Below.refl w.heap.size w)
  have HO0 := Lib.hid (World.ownsRow_nil w w.heap.size 9 1)
  go_enter Tryz.func38, Tryz.ntmps38
  go_wp2
  go_loopw [5, 10] (fun u i wr => ∃ j : Nat, j ≤ K ∧ i = .int .i64 j ∧ Hid (wr.ownsRow w.heap.size 9 1 u j ((l.take j).map (fun c => Value.string c.nm))) ∧ Hid (Below w.heap.size w wr)) (fun _ i _ => K - (intOf i).toNat)
  case atStart => exact ⟨0, Nat.zero_le _, rfl, HO0, HB0⟩
  case round =>
    obtain ⟨j, hj, rfl, OW, BW⟩ := hrel
    by_cases hlt : j < K
    · obtain ⟨c, hc⟩ : ∃ c, l[j]? = some c := ⟨_, List.getElem?_eq_getElem (by rw [HK.out]; exact hlt)⟩
      have hbw : Below N w wr := BW.out.mono hN
      obtain ⟨b, off, pi, ci, rfl, hb, c0, c1, hsz, _⟩ := (HA.out.under hbw).bk hc
      have FN := Blk.new wr [.string c.nm, .slice pi c.it.length ci] 54
      have d0 := FN.c 0 _ rfl
      have d1 := FN.c 1 _ rfl
      have MS := Lib.hid (map_snoc (f := fun c : Bk => Value.string c.nm) hc)
      have HBA : Hid (Below w.heap.size w (wr.alloc (.cells [.string c.nm, .slice pi c.it.length ci].toArray 54))) := Lib.hid (BW.out.alloc BW.out.size _)
      have OA := Lib.hid (OW.out.alloc (.cells [.string c.nm, .slice pi c.it.length ci].toArray 54))
      obtain ⟨q, qc, rfl⟩ := own_len OW.out
      clear hc hbw FN OW
      go_wp2_with (first
        | (go_at_call 39; ((with_reducible refine (bName_any _ _ _).mono ?_); rintro e w1 ⟨rfl, hb1⟩; have OB := Lib.hid ((own_later OA.out hb1).alloc (.cells #[.string c.nm] 9)); have HB1 := Lib.hid (HBA.out.then_ hb1); have HB2 := Lib.hid (HB1.out.alloc HB1.out.size (.cells #[.string c.nm] 9)); clear hb1))
        | (at_builtin; go_loud (refine wpList_append_own _ rfl _ _ 45 rfl w.heap.size 9 i0 (.string ⟨#[]⟩) 1 16 Tryz.underlying45 hi hz0 hz1 hz2 rfl (by decide) _ j _ rfl OB.out ⟨w1.heap.size, 0, none⟩ 1 1 [.string c.nm] rfl rfl (cell_one_at rfl _ _) (by simp [Value.oneCell']) (by unfold maxLen; omega) (by omega) HB2.out.size ?_); go_loud (intro v' w2 hown' hgrow _; have O2 := Lib.hid hown'; have H2 := Lib.hid (HB2.out.grown hgrow HB2.out.size (own_block OB.out)); clear hown' hgrow)))
      go_roundw
      case rel => exact ⟨j + 1, by omega, by go_num, by rw [MS.out]; exact O2, H2⟩
      case measure => simp [intOf]; omega
    · have OF : Hid (wr.ownsRow w.heap.size 9 1 u5 K (l.map (fun c => Value.string c.nm))) := Lib.hid (by have := OW.out; rw [show j = K by omega, List.take_of_length_le (by rw [HK.out]; exact Nat.le_refl _)] at this; exact this)
      go_wp2
      go_ret
      exact HP.out _ _ OF.out BW.out

set_option maxRecDepth 100000 in
set_option maxHeartbeats 4000000 in
theorem namesC_any (l : List Cl) (p : Option Addr) (cap : Nat) (G : Nat → Nat → Value) (N : Nat) (w : World) (ha : RowA (Lo N) w .classes p cap G (l.map Cl.lf)) (hN : N ≤ w.heap.size) :
    Calls Tryz.prog 55 #[.slice p l.length cap, .func (.func 56) #[] #[]] w (tStrs (l.map Cl.nm) w) := by
  obtain ⟨i0, hi, hz0, hz1, hz2⟩ := info_parts infoS
  have HA := Lib.hid ha
  have hl := ha.hl
  rw [List.length_map] at hl
  simp only [byt] at hl
  have HP : Hid (∀ v w', w'.ownsRow w.heap.size 9 1 v l.length (l.map (fun c => Value.string c.nm)) → Below w.heap.size w w' → tStrs (l.map Cl.nm) w (.returned v) w') := Lib.hid fun v w' ho hb => ⟨v, rfl, by rw [List.length_map, List.map_map]; exact ho, hb⟩
  obtain ⟨K, hK⟩ : ∃ K, l.length = K := ⟨_, rfl⟩
  have HK := Lib.hid hK
  rw [hK] at hl HP ⊢
  have hk : K ≤ 140737488351232 := by omega
  clear hK ha
  have HB0 := Lib.hid (Below.refl w.heap.size w)
  have HO0 := Lib.hid (World.ownsRow_nil w w.heap.size 9 1)
  go_enter Tryz.func55, Tryz.ntmps55
  go_wp2
  go_loopw [5, 10] (fun u i wr => ∃ j : Nat, j ≤ K ∧ i = .int .i64 j ∧ Hid (wr.ownsRow w.heap.size 9 1 u j ((l.take j).map (fun c => Value.string c.nm))) ∧ Hid (Below w.heap.size w wr)) (fun _ i _ => K - (intOf i).toNat)
  case atStart => exact ⟨0, Nat.zero_le _, rfl, HO0, HB0⟩
  case round =>
    obtain ⟨j, hj, rfl, OW, BW⟩ := hrel
    by_cases hlt : j < K
    · obtain ⟨c, hc⟩ : ∃ c, l[j]? = some c := ⟨_, List.getElem?_eq_getElem (by rw [HK.out]; exact hlt)⟩
      have hbw : Below N w wr := BW.out.mono hN
      obtain ⟨b, off, pf, cf, pb, cb, rfl, hb, c0, c1, c2, c3, hcv⟩ := (HA.out.under hbw).cl hc
      have FN := Blk.new wr [.string c.nm, .string c.par, .slice pf c.fs.length cf, .slice pb c.bs.length cb] 25
      have d0 := FN.c 0 _ rfl
      have d1 := FN.c 1 _ rfl
      have d2 := FN.c 2 _ rfl
      have d3 := FN.c 3 _ rfl
      have MS := Lib.hid (map_snoc (f := fun c : Cl => Value.string c.nm) hc)
      have HBA : Hid (Below w.heap.size w (wr.alloc (.cells [.string c.nm, .string c.par, .slice pf c.fs.length cf, .slice pb c.bs.length cb].toArray 25))) := Lib.hid (BW.out.alloc BW.out.size _)
      have OA := Lib.hid (OW.out.alloc (.cells [.string c.nm, .string c.par, .slice pf c.fs.length cf, .slice pb c.bs.length cb].toArray 25))
      obtain ⟨q, qc, rfl⟩ := own_len OW.out
      clear hc hbw FN OW
      go_wp2_with (first
        | (go_at_call 56; ((with_reducible refine (cName_any _ _ _ _ _).mono ?_); rintro e w1 ⟨rfl, hb1⟩; have OB := Lib.hid ((own_later OA.out hb1).alloc (.cells #[.string c.nm] 9)); have HB1 := Lib.hid (HBA.out.then_ hb1); have HB2 := Lib.hid (HB1.out.alloc HB1.out.size (.cells #[.string c.nm] 9)); clear hb1))
        | (at_builtin; go_loud (refine wpList_append_own _ rfl _ _ 45 rfl w.heap.size 9 i0 (.string ⟨#[]⟩) 1 16 Tryz.underlying45 hi hz0 hz1 hz2 rfl (by decide) _ j _ rfl OB.out ⟨w1.heap.size, 0, none⟩ 1 1 [.string c.nm] rfl rfl (cell_one_at rfl _ _) (by simp [Value.oneCell']) (by unfold maxLen; omega) (by omega) HB2.out.size ?_); go_loud (intro v' w2 hown' hgrow _; have O2 := Lib.hid hown'; have H2 := Lib.hid (HB2.out.grown hgrow HB2.out.size (own_block OB.out)); clear hown' hgrow)))
      go_roundw
      case rel => exact ⟨j + 1, by omega, by go_num, by rw [MS.out]; exact O2, H2⟩
      case measure => simp [intOf]; omega
    · have OF : Hid (wr.ownsRow w.heap.size 9 1 u5 K (l.map (fun c => Value.string c.nm))) := Lib.hid (by have := OW.out; rw [show j = K by omega, List.take_of_length_le (by rw [HK.out]; exact Nat.le_refl _)] at this; exact this)
      go_wp2
      go_ret
      exact HP.out _ _ OF.out BW.out

/-- A set of names as a datum. -/
def nmD (l : List ByteArray) : DataW Unit := l.foldl (fun D s => D.put (.string s.data.toList) (.lit (.bool true))) (.map [])
theorem nmD_snoc (l : List ByteArray) (s : ByteArray) : nmD (l ++ [s]) = (nmD l).put (.string s.data.toList) (.lit (.bool true)) := by
  unfold nmD; rw [List.foldl_append]; rfl
theorem put_map {D : DataW Unit} (h : Maps.IsMap D) (k : Lit) (d : DataW Unit) : Maps.IsMap (D.put k d) := by
  cases D <;> simp_all [Maps.IsMap, DataW.put]
theorem nmD_map (l : List ByteArray) : Maps.IsMap (nmD l) := by
  have : ∀ (l : List ByteArray) (D : DataW Unit), Maps.IsMap D → Maps.IsMap (l.foldl (fun D s => D.put (.string s.data.toList) (.lit (.bool true))) D) := by
    intro l
    induction l with
    | nil => intro D h; exact h
    | cons a r ih => intro D h; exact ih _ (put_map h _ _)
  exact this l _ (by simp [Maps.IsMap])
open Classical in
theorem nmD_at (t : ByteArray) (l : List ByteArray) : (nmD l).atKey (.string t.data.toList) (.lit (.bool false)) = .lit (.bool (decide (t ∈ l))) := by
  have : ∀ n (l : List ByteArray), l.length = n → (nmD l).atKey (.string t.data.toList) (.lit (.bool false)) = .lit (.bool (decide (t ∈ l))) := by
    intro n
    induction n with
    | zero =>
      intro l hl
      obtain rfl := List.length_eq_zero_iff.1 hl
      simp [nmD, DataW.atKey]
    | succ n ih =>
      intro l hl
      obtain ⟨r, a, rfl⟩ : ∃ r a, l = r ++ [a] := by
        cases hx : l.reverse with
        | nil => rw [List.reverse_eq_nil_iff] at hx; rw [hx] at hl; simp at hl
        | cons a r => exact ⟨r.reverse, a, by rw [← List.reverse_reverse l, hx]; simp⟩
      have hr : r.length = n := by simp at hl; omega
      rw [nmD_snoc]
      by_cases e : t = a
      · subst e
        rw [Maps.atKey_put_same (nmD_map r) (by simp [WideAt.IsKeyLit])]
        simp
      · rw [Maps.atKey_put_other (by
          intro x
          simp only [Lit.string.injEq] at x
          exact e (by rw [← bs_data t, ← bs_data a, x])), ih r hr]
        simp [e]
  exact this _ l rfl
theorem plainBool {P : Program} {e : TypeId} (he : P.underlying e = some .bool) {v : Value} {z : DataW Unit × List MemPlace} {c : Bool} (h : plainElem (H := Unit) P e v = some z) (hz : z.1 = .lit (.bool c)) : v = .bool c := by
  unfold plainElem at h
  rw [he] at h
  cases v <;> simp at h
  subst h
  simpa using hz
open Classical in
theorem look_nm {W : World} {M n : Nat} {l : List ByteArray} (h : W.ownsMap Tryz.prog 9 (plainElem (H := Unit) Tryz.prog 4) M n (nmD l)) (t : ByteArray) (ht : t.size ≤ maxLen) :
    (Instr.lookup 93 (.map (some M)) (.string t) false).run Tryz.prog W = .ok (.bool (decide (t ∈ l))) W := by
  obtain ⟨v, ps, hrun, hv⟩ := h.lookup (Maps.string_keyed Tryz.underlying9) Tryz.underlying93 (Tryz.zeroValue4 W) (plainElem_bool Tryz.underlying4 false) (Go.WideMaps.keyOf_string_mk Tryz.underlying9 ht)
  rw [hrun, plainBool Tryz.underlying4 hv (nmD_at t l)]

theorem nmD_no {l : List ByteArray} {s : ByteArray} {k : Nat} (h : l[k]? = some s) : nmD (l.take (k + 1)) = (nmD (l.take k)).put (.string s.data.toList) (.lit (.bool true)) := by
  obtain ⟨hk, he⟩ := List.getElem?_eq_some_iff.1 h
  rw [List.take_succ_eq_append_getElem hk, nmD_snoc, he]
set_option maxRecDepth 100000 in
set_option maxHeartbeats 4000000 in
theorem repeats_any (l : List ByteArray) (p : Option Addr) (cap : Nat) (G : Nat → Nat → Value) (N : Nat) (w : World) (ha : RowA (Lo N) w .strs p cap G (SL l)) (hN : N ≤ w.heap.size) :
    Calls Tryz.prog 42 #[.slice p l.length cap] w (tBool (dupB l) w) := by
  have HA := Lib.hid ha
  have hl := ha.hl
  rw [SL_len] at hl
  simp only [byt] at hl
  obtain ⟨K, hK⟩ : ∃ K, l.length = K := ⟨_, rfl⟩
  have HK := Lib.hid hK
  rw [hK] at hl ⊢
  have hk : K ≤ 140737488351232 := by omega
  clear hK ha
  have hmm := @run_makeMap Tryz.prog
  have HB0 := Lib.hid (ba w (.map #[] 0))
  have HM0 := Lib.hid (World.ownsMap_made w Tryz.prog 9 (plainElem (H := Unit) Tryz.prog 4))
  go_enter Tryz.func42, Tryz.ntmps42
  go_wp2
  clear hmm
  go_loopw [9] (fun i wr => ∃ j : Nat, j ≤ K ∧ i = .int .i64 j ∧ Hid (wr.ownsMap Tryz.prog 9 (plainElem (H := Unit) Tryz.prog 4) w.heap.size j (nmD (l.take j))) ∧ Hid (dupB (l.take j) = false) ∧ Hid (Below w.heap.size w wr)) (fun i _ => K - (intOf i).toNat)
  case atStart => exact ⟨0, Nat.zero_le _, rfl, HM0, Lib.hid rfl, HB0⟩
  case round =>
    obtain ⟨j, hj, rfl, OM, DF, BW⟩ := hrel
    by_cases hlt : j < K
    · obtain ⟨s, hs⟩ : ∃ s, l[j]? = some s := ⟨_, List.getElem?_eq_getElem (by rw [HK.out]; exact hlt)⟩
      have hbw : Below N w wr := BW.out.mono hN
      obtain ⟨b, off, rfl, hb, c0, hsz⟩ := (HA.out.under hbw).stS hs
      have hlk := look_nm OM.out s (Nat.le_trans hsz (by decide))
      have HS := Lib.hid hs
      clear hs hbw
      by_cases hin : s ∈ l.take j
      · rw [@decide_eq_true _ (Classical.propDecidable _) hin] at hlk
        have DT := Lib.hid (dupB_yes HS.out hin)
        clear hin
        go_wp2
        go_ret
        exact ⟨by rw [DT.out]; rfl, BW.out⟩
      · rw [@decide_eq_false _ (Classical.propDecidable _) hin] at hlk
        have DF2 := Lib.hid (dupB_step HS.out DF.out hin)
        have ND := Lib.hid (nmD_no HS.out)
        obtain ⟨w1, hup, hown1, hgrow1⟩ := OM.out.update (Maps.string_keyed Tryz.underlying9) Tryz.underlying93 (Nat.lt_of_le_of_lt (show j ≤ 140737488351232 by omega) (by decide)) (Go.WideMaps.keyOf_string_mk Tryz.underlying9 (Nat.le_trans hsz (by decide))) (plainElem_bool Tryz.underlying4 true)
        have HO1 := Lib.hid hown1
        have HB1 := Lib.hid (BW.out.grown hgrow1 BW.out.size (fun k e => by cases e; exact Nat.le_refl _))
        clear hin hown1 hgrow1
        go_wp2
        go_roundw
        case rel => exact ⟨j + 1, by omega, by go_num, by rw [ND.out]; exact HO1, DF2, HB1⟩
        case measure => simp [intOf]; omega
    · have DF2 : Hid (dupB l = false) := Lib.hid (by have := DF.out; rw [List.take_of_length_le (by rw [HK.out]; omega)] at this; exact this)
      go_wp2
      go_ret
      exact ⟨by rw [DF2.out]; rfl, BW.out⟩
end Go.Proofs.YtoigjeoncdfdmaaGreatDoor.ClW
