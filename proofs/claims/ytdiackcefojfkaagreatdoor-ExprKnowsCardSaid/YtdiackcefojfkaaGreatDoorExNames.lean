/-
  What Names and Arrays return.
-/
import Derived.Test.YtdiackcefojfkaaGreatDoorExValid
import Derived.Maps.OwnIn
import Derived.Maps.AppendAt
import Derived.Maps.Views
namespace Go.Proofs.YtdiackcefojfkaaGreatDoor.ExW
open Go Go.RowKit Go.Shelf Go.Proofs.YtdiackcefojfkaaGreatDoor.NumM Go.Proofs.YtdiackcefojfkaaGreatDoor.LexW Go.Proofs.YtdiackcefojfkaaGreatDoor.LexM Go.Proofs.YtdiackcefojfkaaGreatDoor.ExM

attribute [local go_sem] Oper.semAt_some

/-- A set of names as a datum. -/
def nmD (l : List ByteArray) : DataW Unit := l.foldl (fun D s => D.put (.string s.data.toList) (.lit (.bool true))) (.map [])
theorem nmD_snoc (l : List ByteArray) (s : ByteArray) : nmD (l ++ [s]) = (nmD l).put (.string s.data.toList) (.lit (.bool true)) := by
  unfold nmD; rw [List.foldl_append]; rfl
theorem put_map {D : DataW Unit} (h : Maps.IsMap D) (k : Lit) (d : DataW Unit) : Maps.IsMap (D.put k d) := by
  cases D <;> simp_all [Maps.IsMap, DataW.put]
theorem nmD_map (l : List ByteArray) : Maps.IsMap (nmD l) := by
  have : ∀ (l : List ByteArray) (D : DataW Unit), Maps.IsMap D → Maps.IsMap (l.foldl (fun D s => D.put (.string s.data.toList) (.lit (.bool true))) D) := by
    intro l
    induction l with
    | nil => intro D h; exact h
    | cons a r ih => intro D h; exact ih _ (put_map h _ _)
  exact this l _ (by simp [Maps.IsMap])
open Classical in
theorem nmD_at (t : ByteArray) (l : List ByteArray) : (nmD l).atKey (.string t.data.toList) (.lit (.bool false)) = .lit (.bool (decide (t ∈ l))) := by
  have : ∀ n (l : List ByteArray), l.length = n → (nmD l).atKey (.string t.data.toList) (.lit (.bool false)) = .lit (.bool (decide (t ∈ l))) := by
    intro n
    induction n with
    | zero =>
      intro l hl
      obtain rfl := List.length_eq_zero_iff.1 hl
      simp [nmD, DataW.atKey]
    | succ n ih =>
      intro l hl
      obtain ⟨r, a, rfl⟩ : ∃ r a, l = r ++ [a] := by
        cases hx : l.reverse with
        | nil => rw [List.reverse_eq_nil_iff] at hx; rw [hx] at hl; simp at hl
        | cons a r => exact ⟨r.reverse, a, by rw [← List.reverse_reverse l, hx]; simp⟩
      have hr : r.length = n := by simp at hl; omega
      rw [nmD_snoc]
      by_cases e : t = a
      · subst e
        rw [Maps.atKey_put_same (nmD_map r) (by simp [WideAt.IsKeyLit])]
        simp
      · rw [Maps.atKey_put_other (by
          intro x
          simp only [Lit.string.injEq] at x
          exact e (by rw [← bs_data t, ← bs_data a, x])), ih r hr]
        simp [e]
  exact this _ l rfl
theorem plainBool {P : Program} {e : TypeId} (he : P.underlying e = some .bool) {v : Value} {z : DataW Unit × List MemPlace} {c : Bool} (h : plainElem (H := Unit) P e v = some z) (hz : z.1 = .lit (.bool c)) : v = .bool c := by
  unfold plainElem at h
  rw [he] at h
  cases v <;> simp at h
  subst h
  simpa using hz
open Classical in
theorem look_nm {W : World} {M n : Nat} {l : List ByteArray} (h : W.ownsMap Tryz.prog 9 (plainElem (H := Unit) Tryz.prog 4) M n (nmD l)) (t : ByteArray) (ht : t.size ≤ maxLen) :
    (Instr.lookup 73 (.map (some M)) (.string t) false).run Tryz.prog W = .ok (.bool (decide (t ∈ l))) W := by
  obtain ⟨v, ps, hrun, hv⟩ := h.lookup (Maps.string_keyed Tryz.underlying9) Tryz.underlying73 (Tryz.zeroValue4 W) (plainElem_bool Tryz.underlying4 false) (Go.WideMaps.keyOf_string_mk Tryz.underlying9 ht)
  rw [hrun, plainBool Tryz.underlying4 hv (nmD_at t l)]
theorem infoS : (Tryz.prog.info? 9).map (fun i => (i.zero, i.size, i.bytes)) = some (some (.string ⟨#[]⟩), 1, 16) := by kernel_rfl
/-- What is held between two rounds. -/
structure NmI (w : World) (fv : Value) (l : List ByteArray) (n : Nat) (W0 W : World) : Prop where
  list : ∃ v, Boxed W (w.heap.size + 2) 30 v ∧ W.ownsRow w.heap.size 9 1 v l.length (l.map Value.string)
  fn : Boxed W (w.heap.size + 1) 62 fv
  mp : Boxed W (w.heap.size + 4) 73 (.map (some (w.heap.size + 3)))
  map : W.ownsMap Tryz.prog 9 (plainElem (H := Unit) Tryz.prog 4) (w.heap.size + 3) n (nmD l)
  low : Below w.heap.size W0 W
theorem boxed_kept {W W' : World} {B : Nat} {t : TypeId} {v : Value} {row : Option Nat} (h : Boxed W B t v) (hg : W.grownBy W' row) (hr : ∀ r, row = some r → ∃ o : Obj, W.heap[r]? = some o ∧ o.isCells = false) : Boxed W' B t v :=
  h.kept hg (fun e' => by obtain ⟨o, ho, hc⟩ := hr B e'.symm; rw [show W.heap[B]? = _ from h] at ho; cases ho; cases hc)
theorem NmI.kept {w W0 W W' : World} {fv : Value} {l : List ByteArray} {n : Nat} {row : Option Nat} (h : NmI w fv l n W0 W) (hz : w.heap.size + 5 < W0.heap.size) (hg : W.grownBy W' row) (hr : ∀ r, row = some r → W0.heap.size ≤ r ∧ ∃ o : Obj, W.heap[r]? = some o ∧ o.isCells = false) : NmI w fv l n W0 W' := by
  obtain ⟨⟨v, h1, h2⟩, h3, h4, h5, h6⟩ := h
  have hr2 := fun r e => (hr r e).2
  obtain ⟨v', q1, q2, _⟩ := holdsRow_own w.heap.size (w.heap.size + 2) 30 9 1 (fun l : List ByteArray => l.length) (fun l => l.map Value.string) (fun _ _ => True) l W W' row ⟨v, h1, h2, trivial⟩ hg hr2
  refine ⟨⟨v', q1, q2⟩, boxed_kept h3 hg hr2, boxed_kept h4 hg hr2, h5.kept hg (fun e => by have := (hr _ e.symm).1; omega), h6.grown hg (by have := h6.size; omega) (fun k e => by have := (hr k e).1; omega)⟩
set_option maxRecDepth 100000 in
set_option maxHeartbeats 8000000 in
theorem vars_of (e : Ex) (v : Value) (w : World) (hx : ExAt w.heap.size w v e) (hsz : sz e ≤ 10000) :
    Calls Tryz.prog 42 #[v, .func (.func 43) #[] #[]] w fun x w' => ∃ v', x = .returned v' ∧ w'.ownsRow w.heap.size 9 1 v' (namesL isVr (pre 1 e)).length ((namesL isVr (pre 1 e)).map Value.string) ∧ Below w.heap.size w w' := by
  obtain ⟨p, cap, pl, cl, rfl, hs, ha⟩ := hx.form
  have HX := Lib.hid hx
  clear hx ha
  generalize e.op = o at *
  generalize e.n = num at *
  generalize e.nm = s at *
  generalize e.args.length = K at *
  have hmm := @run_makeMap Tryz.prog
  obtain ⟨i0, hi, hz0, hz1, hz2⟩ := info_parts infoS
  refine (callsIn_wide (n := 9)).1 ?_
  refine callsIn_of_wp_marks Tryz.func42 rfl trivial ?_ rfl
  simp only [Tryz.ntmps42, List.size_toArray, List.length_cons, List.length_nil, Nat.reduceAdd, Nat.reduceSub, Array.replicate_succ, Array.replicate_zero, List.push_toArray, List.append_toArray, List.nil_append, List.cons_append]
  gi_wp2_with (refine ⟨trivial, ?_⟩; gi_at_call 40; refine (nodes_in Fence.wide _ trivial rfl _ _ _ _ _).mono ?_; rintro e w' ⟨rfl, rfl⟩)
  have bF := ((((Boxed.new (w.alloc (.cells #[.int .i64 o, .int .i64 num, .string s, .slice p K cap] 24)) 62 (.func (.func 43) #[] #[])).alloc (.cells #[.slice none 0 0] 30)).alloc (.map #[] 0)).alloc (.cells #[.map (some (w.heap.size + 3))] 73)).alloc (.cells #[.int .i64 o, .int .i64 num, .string s, .slice p K cap] 24)
  have bL := (((Boxed.new ((w.alloc (.cells #[.int .i64 o, .int .i64 num, .string s, .slice p K cap] 24)).alloc (.cells #[(.func (.func 43) #[] #[])] 62)) 30 (.slice none 0 0)).alloc (.map #[] 0)).alloc (.cells #[.map (some (w.heap.size + 3))] 73)).alloc (.cells #[.int .i64 o, .int .i64 num, .string s, .slice p K cap] 24)
  have hm0 := ((World.ownsMap_made (((w.alloc (.cells #[.int .i64 o, .int .i64 num, .string s, .slice p K cap] 24)).alloc (.cells #[(.func (.func 43) #[] #[])] 62)).alloc (.cells #[.slice none 0 0] 30)) Tryz.prog 9 (plainElem (H := Unit) Tryz.prog 4)).alloc (.cells #[.map (some (w.heap.size + 3))] 73)).alloc (.cells #[.int .i64 o, .int .i64 num, .string s, .slice p K cap] 24)
  have bM := (Boxed.new ((((w.alloc (.cells #[.int .i64 o, .int .i64 num, .string s, .slice p K cap] 24)).alloc (.cells #[(.func (.func 43) #[] #[])] 62)).alloc (.cells #[.slice none 0 0] 30)).alloc (.map #[] 0)) 73 (.map (some (w.heap.size + 3)))).alloc (.cells #[.int .i64 o, .int .i64 num, .string s, .slice p K cap] 24)
  have bA := Four.new (((((w.alloc (.cells #[.int .i64 o, .int .i64 num, .string s, .slice p K cap] 24)).alloc (.cells #[(.func (.func 43) #[] #[])] 62)).alloc (.cells #[.slice none 0 0] 30)).alloc (.map #[] 0)).alloc (.cells #[.map (some (w.heap.size + 3))] 73)) (.int .i64 o) (.int .i64 num) (.string s) (.slice p K cap) 24
  have hB0 : Below w.heap.size w ((((((w.alloc (.cells #[.int .i64 o, .int .i64 num, .string s, .slice p K cap] 24)).alloc (.cells #[(.func (.func 43) #[] #[])] 62)).alloc (.cells #[.slice none 0 0] 30)).alloc (.map #[] 0)).alloc (.cells #[.map (some (w.heap.size + 3))] 73)).alloc (.cells #[.int .i64 o, .int .i64 num, .string s, .slice p K cap] 24)) := ((((((Below.refl _ w).alloc (Nat.le_refl _) _).alloc (by simp) _).alloc (by simp; omega) _).alloc (by simp; omega) _).alloc (by simp; omega) _).alloc (by simp; omega) _
  have hz : ((((((w.alloc (.cells #[.int .i64 o, .int .i64 num, .string s, .slice p K cap] 24)).alloc (.cells #[(.func (.func 43) #[] #[])] 62)).alloc (.cells #[.slice none 0 0] 30)).alloc (.map #[] 0)).alloc (.cells #[.map (some (w.heap.size + 3))] 73)).alloc (.cells #[.int .i64 o, .int .i64 num, .string s, .slice p K cap] 24)).heap.size = w.heap.size + 6 := by simp
  simp only [World.size_alloc, Nat.add_assoc, Nat.reduceAdd] at bF bL bM bA hm0
  simp only [Nat.add_assoc, Nat.reduceAdd]
  obtain ⟨W0, hW0⟩ : ∃ W0, ((((((w.alloc (.cells #[.int .i64 o, .int .i64 num, .string s, .slice p K cap] 24)).alloc (.cells #[(.func (.func 43) #[] #[])] 62)).alloc (.cells #[.slice none 0 0] 30)).alloc (.map #[] 0)).alloc (.cells #[.map (some (w.heap.size + 3))] 73)).alloc (.cells #[.int .i64 o, .int .i64 num, .string s, .slice p K cap] 24)) = W0 := ⟨_, rfl⟩
  rw [hW0] at bF bL bM bA hB0 hz hm0 ⊢
  clear hW0
  have hI0 : NmI w (.func (.func 43) #[] #[]) [] 0 W0 W0 := ⟨⟨_, bL, World.ownsRow_nil _ _ _ _⟩, bF, bM, hm0, Below.refl _ _⟩
  clear hm0 bF bL bM
  refine wpIn_rangeFunc_ownH rfl (by decide) (gf := 59) (lb := #[.pointer (some ⟨w.heap.size + 5, 0, none⟩)]) rfl trivial (enters_of Tryz.func59 (by kernel_rfl) rfl)
    (nodes_stops Fence.wide rfl _ trivial trivial rfl w.heap.size (w.heap.size + 5) (w.heap.size + 5) (by omega) e hsz o num s (.slice p K cap) W0 (by omega) bA (HX.out.under hB0)) keep_t keep_b (Below.refl _ _) (fun _ => rfl)
    (fun bef W => NmI w (.func (.func 43) #[] #[]) (namesL isVr (bef.map Nd.info)) bef.length W0 W)
    (fun _ _ _ => False)
    (fun _ _ _ _ hs hg hr => hs.kept (by omega) hg hr)
    (fun _ _ _ _ _ hs _ _ => hs)
    hI0
    (fun x a' W => ∃ g, a' = { tmps := #[xv o num s (.slice p K cap), (.func (.func 43) #[] #[]), .pointer (some ⟨w.heap.size, 0, none⟩), .pointer (some ⟨w.heap.size + 1, 0, none⟩), .slice none 0 0, .pointer (some ⟨w.heap.size + 2, 0, none⟩), .pointer (some ⟨w.heap.size + 4, 0, none⟩), undef, .pointer (some ⟨g, 0, none⟩), .map (some (w.heap.size + 3)), xv o num s (.slice p K cap), .func (.func 59) #[] #[.pointer (some ⟨w.heap.size + 5, 0, none⟩)], .int .i64 x.lv, xv x.op x.n x.nm (.slice x.p x.k x.cap), undef, undef, undef, undef, undef, undef, undef, undef, undef, undef, undef, undef, undef, undef, undef, undef, undef, undef, undef, undef], defers := [] } ∧ Four W g (.int .i64 x.op) (.int .i64 x.n) (.string x.nm) (.slice x.p x.k x.cap))
    (fun x a' _ X Y row hs hg hr => by obtain ⟨g, h1, h2⟩ := hs; exact ⟨g, h1, four_own _ g _ _ _ _ () X Y row h2 hg hr⟩)
    ?assign ?body ?done ?stop
  case assign =>
    rintro l bef x W K hI hK
    have hb2 : Below W.heap.size W (W.alloc (.cells #[.int .i64 x.op, .int .i64 x.n, .string x.nm, .slice x.p x.k x.cap] 24)) := (Below.refl _ _).alloc (Nat.le_refl _) _
    have hK2 := hK _ _ (keepsFrom_below hb2) (Keep.of_below hb2) (hI.kept (by omega) (grown_of_below hb2) (fun r e => by cases e)) ⟨W.heap.size, rfl, Four.new W _ _ _ _ 24⟩
    rw [zip2]
    gi_wp2
    exact hK2
  case body =>
    rintro l bef x a' W hl _ hI ⟨g, rfl, fX⟩ hlt
    have hMP : (bef ++ [x]).map Nd.info = bef.map Nd.info ++ [x.info] := by rw [List.map_append]; rfl
    have hSN := names_snoc isVr (bef.map Nd.info) x.info
    rw [← hMP] at hSN
    have HN := Lib.hid hSN
    clear hSN
    have hLN := names_len isVr (bef.map Nd.info)
    rw [List.length_map] at hLN
    generalize namesL isVr (bef.map Nd.info) = L1 at *
    have FC : Hid (∀ n W1, CallsIn (Fence.wide.inRound l) n Tryz.prog 43 #[.int .i64 x.op] W1 fun e w' => e = .returned (.bool (isVr x.op)) ∧ W1 = w') := Lib.hid fun n W1 => CallsIn.inRound l (callsIn_wide.2 (isVr_any x.op W1))
    have x0 := fX.c0
    have x2 := fX.c2
    have cF := hI.fn.cell
    have cM := hI.mp.cell
    have hlk := look_nm hI.map x.nm (Nat.le_trans x.hs (by decide))
    have HI := Lib.hid hI
    clear fX hI hMP
    have hp0 : ∀ L, stepN isVr L x.info = if isVr x.op = true then addN L x.nm else L := fun _ => rfl
    rw [hp0] at HN
    clear hp0
    cases hp : isVr x.op
    · rw [hp] at FC HN
      have HE : Hid (namesL isVr ((bef ++ [x]).map Nd.info) = L1) := Lib.hid (by rw [HN.out]; simp)
      clear hp hlk HN
      gi_wp2_with (refine ⟨trivial, ?_⟩; gi_at_call 43; refine (FC.out _ _).mono ?_; rintro e w1 ⟨rfl, rfl⟩)
      refine ⟨KeepsFrom.refl _ _, Keep.refl _ _ _, ?_⟩
      show NmI w _ (namesL isVr ((bef ++ [x]).map Nd.info)) _ W0 _
      rw [HE.out]
      obtain ⟨h1, h2, h3, h4, h5⟩ := HI.out
      exact ⟨h1, h2, h3, h4.mono (by simp), h5⟩
    · rw [hp, if_pos rfl] at HN
      rw [hp] at FC
      unfold addN at HN
      by_cases hin : x.nm ∈ L1
      · rw [if_pos hin] at HN
        rw [@decide_eq_true _ (Classical.propDecidable _) hin] at hlk
        clear hp hin
        gi_wp2_with (refine ⟨trivial, ?_⟩; gi_at_call 43; refine (FC.out _ _).mono ?_; rintro e w1 ⟨rfl, rfl⟩)
        refine ⟨KeepsFrom.refl _ _, Keep.refl _ _ _, ?_⟩
        show NmI w _ (namesL isVr ((bef ++ [x]).map Nd.info)) _ W0 _
        rw [HN.out]
        obtain ⟨h1, h2, h3, h4, h5⟩ := HI.out
        exact ⟨h1, h2, h3, h4.mono (by simp), h5⟩
      · rw [if_neg hin] at HN
        rw [@decide_eq_false _ (Classical.propDecidable _) hin] at hlk
        have hbn : bef.length ≤ 10000 := by omega
        obtain ⟨w1, hup, hown1, hgrow1⟩ := HI.out.map.update (Maps.string_keyed Tryz.underlying9) Tryz.underlying73 (Nat.lt_of_le_of_lt hbn (by decide)) (Go.WideMaps.keyOf_string_mk Tryz.underlying9 (Nat.le_trans x.hs (by decide))) (plainElem_bool Tryz.underlying4 true)
        have hMo : ∃ o : Obj, W.heap[w.heap.size + 3]? = some o ∧ o.isCells = false := by
          obtain ⟨es, ck, hh, _⟩ := HI.out.map
          exact ⟨_, hh, rfl⟩
        have hr1 : ∀ r, some (w.heap.size + 3) = some r → ∃ o : Obj, W.heap[r]? = some o ∧ o.isCells = false := fun r e => by cases e; exact hMo
        have hWs : W0.heap.size ≤ W.heap.size := HI.out.low.size
        have hw1s : W.heap.size ≤ w1.heap.size := hgrow1.size
        have fX1 : w1.cell? ⟨g, 2, none⟩ = some (.string x.nm) := cell_kept x2 hgrow1 hr1
        obtain ⟨v, hv, hrow⟩ := HI.out.list
        have hv1 := boxed_kept hv hgrow1 hr1
        have hrow1 : w1.ownsRow w.heap.size 9 1 v L1.length (L1.map Value.string) := hrow.kept hgrow1 (by
          rcases hrow.2 with ⟨rfl, _⟩ | ⟨g', cap', cur, rfl, _, hgb, _⟩
          · exact .inl rfl
          · refine .inr (fun e => ?_)
            simp only [Value.ownBlock, Option.some.injEq] at e
            obtain ⟨o', ho, hc⟩ := hMo
            rw [← e, hgb] at ho
            cases ho
            cases hc)
        have hc := hv1.cell
        have HF := Lib.hid (boxed_kept HI.out.fn hgrow1 hr1)
        have HM := Lib.hid (boxed_kept HI.out.mp hgrow1 hr1)
        have HO := Lib.hid hown1
        have HG := Lib.hid hgrow1
        have HR1 := Lib.hid hr1
        have HK1 : Hid (Keep w.heap.size (w.heap.size + 5) W w1) := Lib.hid (Keep.grown hgrow1 fun b e cs t fr hb => by cases e; exact ⟨by omega, .inl (by omega)⟩)
        clear hp hin hrow hv hown1 hr1 hMo
        gi_wp2_with (first
          | (refine ⟨trivial, ?_⟩; gi_at_call 43; refine (FC.out _ _).mono ?_; rintro e w1 ⟨rfl, rfl⟩)
          | (gi_at_builtin; refine wpListIn_append_own _ rfl _ _ 30 rfl w.heap.size 9 i0 (.string ⟨#[]⟩) 1 16 Tryz.underlying30 hi hz0 hz1 hz2 rfl (by decide) _ _ _ rfl (hrow1.alloc _) ⟨w1.heap.size, 0, none⟩ 1 1 [.string x.nm] rfl rfl (cell_one_new _ _ _) (by simp [Value.oneCell']) (by unfold maxLen; omega) (by omega) (by simp; omega) ?_; intro v' w2 hown' hgrow _; obtain ⟨g', cap', rfl⟩ := ownsRow_succ hown'; obtain ⟨hv2, hv3, hr2, hk2, hb2⟩ := hv1.appended (by decide) hrow1 (by omega) (by omega) hown' hgrow; have hc1 := hv2.cell; have hf1 := hv2.frozen))
        have hrowb : ∀ b, v.ownBlock = some b → ∀ cs t fr, (w1.alloc (.cells #[.string x.nm] 9)).heap[b]? = some (.cells cs t fr) → w.heap.size ≤ b ∧ (b < w.heap.size + 5 ∨ (t ≠ 24 ∧ t ≠ 71)) := fun b eb cs t fr hb => by
          rcases hrow1.2 with ⟨rfl, _⟩ | ⟨g2, cap2, cur, rfl, hg2, hgb, _⟩
          · simp [Value.ownBlock] at eb
          · simp only [Value.ownBlock, Option.some.injEq] at eb
            subst eb
            rw [(Below.heap_alloc w1 _ g2 (Array.getElem?_eq_some_iff.1 hgb).1).trans hgb] at hb
            cases hb
            exact ⟨hg2, .inr ⟨by decide, by decide⟩⟩
        have hKp : Keep w.heap.size (w.heap.size + 5) w1 (w2.setCell ⟨w.heap.size + 2, 0, none⟩ (.slice (some ⟨g', 0, none⟩) (L1.length + 1) cap')) :=
          ((Keep.of_below ((Below.refl _ _).alloc (Nat.le_refl _) _)).trans (Keep.grown hgrow hrowb)).set (by omega) (by omega) _
        refine ⟨(KeepsFrom.of_grownBy HG.out (fun j e => by cases e; omega)).trans (hk2.from _), HK1.out.trans hKp, ?_⟩
        show NmI w _ (namesL isVr ((bef ++ [x]).map Nd.info)) (bef ++ [x]).length W0 _
        rw [HN.out, List.length_append]
        refine ⟨⟨_, hv3, by rw [List.length_append, List.map_append]; exact hr2⟩, ?_, ?_, ?_, (HI.out.low.grown HG.out (by omega) (fun k e => by cases e; omega)).trans hb2⟩
        · exact (((HF.out.alloc _).kept hgrow (HF.out.not_row (by decide) hrow1)).other (by omega) _)
        · exact (((HM.out.alloc _).kept hgrow (HM.out.not_row (by decide) hrow1)).other (by omega) _)
        · rw [nmD_snoc]
          obtain ⟨es, ck, hh, rest⟩ := HO.out
          exact ⟨es, ck, hk2.same _ _ hh rfl, rest⟩
  case done =>
    rintro D zs W hD hzs hI hK
    rw [hzs] at hI
    obtain ⟨⟨v, hv, hrow⟩, _, _, _, hB⟩ := hI
    have hc := hv.cell
    have HR := Lib.hid hrow
    clear hrow hv hzs
    gi_wp2
    refine ⟨by simp, .inl ⟨_, _, rfl, run_takeDeferred hK, ?_⟩⟩
    exact ⟨_, results_tmp rfl _ _ _, v, rfl, ownsRow_putObj HR.out _ hK rfl, (hB0.trans hB).trans (belowK_b (w := w) (Nat.le_refl _) W D _ _ (by omega) hK rfl rfl)⟩
  case stop =>
    rintro D c bef W _ _ h _
    exact h.elim
set_option maxRecDepth 100000 in
set_option maxHeartbeats 8000000 in
theorem arrs_of (e : Ex) (v : Value) (w : World) (hx : ExAt w.heap.size w v e) (hsz : sz e ≤ 10000) :
    Calls Tryz.prog 42 #[v, .func (.func 44) #[] #[]] w fun x w' => ∃ v', x = .returned v' ∧ w'.ownsRow w.heap.size 9 1 v' (namesL isAr (pre 1 e)).length ((namesL isAr (pre 1 e)).map Value.string) ∧ Below w.heap.size w w' := by
  obtain ⟨p, cap, pl, cl, rfl, hs, ha⟩ := hx.form
  have HX := Lib.hid hx
  clear hx ha
  generalize e.op = o at *
  generalize e.n = num at *
  generalize e.nm = s at *
  generalize e.args.length = K at *
  have hmm := @run_makeMap Tryz.prog
  obtain ⟨i0, hi, hz0, hz1, hz2⟩ := info_parts infoS
  refine (callsIn_wide (n := 9)).1 ?_
  refine callsIn_of_wp_marks Tryz.func42 rfl trivial ?_ rfl
  simp only [Tryz.ntmps42, List.size_toArray, List.length_cons, List.length_nil, Nat.reduceAdd, Nat.reduceSub, Array.replicate_succ, Array.replicate_zero, List.push_toArray, List.append_toArray, List.nil_append, List.cons_append]
  gi_wp2_with (refine ⟨trivial, ?_⟩; gi_at_call 40; refine (nodes_in Fence.wide _ trivial rfl _ _ _ _ _).mono ?_; rintro e w' ⟨rfl, rfl⟩)
  have bF := ((((Boxed.new (w.alloc (.cells #[.int .i64 o, .int .i64 num, .string s, .slice p K cap] 24)) 62 (.func (.func 44) #[] #[])).alloc (.cells #[.slice none 0 0] 30)).alloc (.map #[] 0)).alloc (.cells #[.map (some (w.heap.size + 3))] 73)).alloc (.cells #[.int .i64 o, .int .i64 num, .string s, .slice p K cap] 24)
  have bL := (((Boxed.new ((w.alloc (.cells #[.int .i64 o, .int .i64 num, .string s, .slice p K cap] 24)).alloc (.cells #[(.func (.func 44) #[] #[])] 62)) 30 (.slice none 0 0)).alloc (.map #[] 0)).alloc (.cells #[.map (some (w.heap.size + 3))] 73)).alloc (.cells #[.int .i64 o, .int .i64 num, .string s, .slice p K cap] 24)
  have hm0 := ((World.ownsMap_made (((w.alloc (.cells #[.int .i64 o, .int .i64 num, .string s, .slice p K cap] 24)).alloc (.cells #[(.func (.func 44) #[] #[])] 62)).alloc (.cells #[.slice none 0 0] 30)) Tryz.prog 9 (plainElem (H := Unit) Tryz.prog 4)).alloc (.cells #[.map (some (w.heap.size + 3))] 73)).alloc (.cells #[.int .i64 o, .int .i64 num, .string s, .slice p K cap] 24)
  have bM := (Boxed.new ((((w.alloc (.cells #[.int .i64 o, .int .i64 num, .string s, .slice p K cap] 24)).alloc (.cells #[(.func (.func 44) #[] #[])] 62)).alloc (.cells #[.slice none 0 0] 30)).alloc (.map #[] 0)) 73 (.map (some (w.heap.size + 3)))).alloc (.cells #[.int .i64 o, .int .i64 num, .string s, .slice p K cap] 24)
  have bA := Four.new (((((w.alloc (.cells #[.int .i64 o, .int .i64 num, .string s, .slice p K cap] 24)).alloc (.cells #[(.func (.func 44) #[] #[])] 62)).alloc (.cells #[.slice none 0 0] 30)).alloc (.map #[] 0)).alloc (.cells #[.map (some (w.heap.size + 3))] 73)) (.int .i64 o) (.int .i64 num) (.string s) (.slice p K cap) 24
  have hB0 : Below w.heap.size w ((((((w.alloc (.cells #[.int .i64 o, .int .i64 num, .string s, .slice p K cap] 24)).alloc (.cells #[(.func (.func 44) #[] #[])] 62)).alloc (.cells #[.slice none 0 0] 30)).alloc (.map #[] 0)).alloc (.cells #[.map (some (w.heap.size + 3))] 73)).alloc (.cells #[.int .i64 o, .int .i64 num, .string s, .slice p K cap] 24)) := ((((((Below.refl _ w).alloc (Nat.le_refl _) _).alloc (by simp) _).alloc (by simp; omega) _).alloc (by simp; omega) _).alloc (by simp; omega) _).alloc (by simp; omega) _
  have hz : ((((((w.alloc (.cells #[.int .i64 o, .int .i64 num, .string s, .slice p K cap] 24)).alloc (.cells #[(.func (.func 44) #[] #[])] 62)).alloc (.cells #[.slice none 0 0] 30)).alloc (.map #[] 0)).alloc (.cells #[.map (some (w.heap.size + 3))] 73)).alloc (.cells #[.int .i64 o, .int .i64 num, .string s, .slice p K cap] 24)).heap.size = w.heap.size + 6 := by simp
  simp only [World.size_alloc, Nat.add_assoc, Nat.reduceAdd] at bF bL bM bA hm0
  simp only [Nat.add_assoc, Nat.reduceAdd]
  obtain ⟨W0, hW0⟩ : ∃ W0, ((((((w.alloc (.cells #[.int .i64 o, .int .i64 num, .string s, .slice p K cap] 24)).alloc (.cells #[(.func (.func 44) #[] #[])] 62)).alloc (.cells #[.slice none 0 0] 30)).alloc (.map #[] 0)).alloc (.cells #[.map (some (w.heap.size + 3))] 73)).alloc (.cells #[.int .i64 o, .int .i64 num, .string s, .slice p K cap] 24)) = W0 := ⟨_, rfl⟩
  rw [hW0] at bF bL bM bA hB0 hz hm0 ⊢
  clear hW0
  have hI0 : NmI w (.func (.func 44) #[] #[]) [] 0 W0 W0 := ⟨⟨_, bL, World.ownsRow_nil _ _ _ _⟩, bF, bM, hm0, Below.refl _ _⟩
  clear hm0 bF bL bM
  refine wpIn_rangeFunc_ownH rfl (by decide) (gf := 59) (lb := #[.pointer (some ⟨w.heap.size + 5, 0, none⟩)]) rfl trivial (enters_of Tryz.func59 (by kernel_rfl) rfl)
    (nodes_stops Fence.wide rfl _ trivial trivial rfl w.heap.size (w.heap.size + 5) (w.heap.size + 5) (by omega) e hsz o num s (.slice p K cap) W0 (by omega) bA (HX.out.under hB0)) keep_t keep_b (Below.refl _ _) (fun _ => rfl)
    (fun bef W => NmI w (.func (.func 44) #[] #[]) (namesL isAr (bef.map Nd.info)) bef.length W0 W)
    (fun _ _ _ => False)
    (fun _ _ _ _ hs hg hr => hs.kept (by omega) hg hr)
    (fun _ _ _ _ _ hs _ _ => hs)
    hI0
    (fun x a' W => ∃ g, a' = { tmps := #[xv o num s (.slice p K cap), (.func (.func 44) #[] #[]), .pointer (some ⟨w.heap.size, 0, none⟩), .pointer (some ⟨w.heap.size + 1, 0, none⟩), .slice none 0 0, .pointer (some ⟨w.heap.size + 2, 0, none⟩), .pointer (some ⟨w.heap.size + 4, 0, none⟩), undef, .pointer (some ⟨g, 0, none⟩), .map (some (w.heap.size + 3)), xv o num s (.slice p K cap), .func (.func 59) #[] #[.pointer (some ⟨w.heap.size + 5, 0, none⟩)], .int .i64 x.lv, xv x.op x.n x.nm (.slice x.p x.k x.cap), undef, undef, undef, undef, undef, undef, undef, undef, undef, undef, undef, undef, undef, undef, undef, undef, undef, undef, undef, undef], defers := [] } ∧ Four W g (.int .i64 x.op) (.int .i64 x.n) (.string x.nm) (.slice x.p x.k x.cap))
    (fun x a' _ X Y row hs hg hr => by obtain ⟨g, h1, h2⟩ := hs; exact ⟨g, h1, four_own _ g _ _ _ _ () X Y row h2 hg hr⟩)
    ?assign ?body ?done ?stop
  case assign =>
    rintro l bef x W K hI hK
    have hb2 : Below W.heap.size W (W.alloc (.cells #[.int .i64 x.op, .int .i64 x.n, .string x.nm, .slice x.p x.k x.cap] 24)) := (Below.refl _ _).alloc (Nat.le_refl _) _
    have hK2 := hK _ _ (keepsFrom_below hb2) (Keep.of_below hb2) (hI.kept (by omega) (grown_of_below hb2) (fun r e => by cases e)) ⟨W.heap.size, rfl, Four.new W _ _ _ _ 24⟩
    rw [zip2]
    gi_wp2
    exact hK2
  case body =>
    rintro l bef x a' W hl _ hI ⟨g, rfl, fX⟩ hlt
    have hMP : (bef ++ [x]).map Nd.info = bef.map Nd.info ++ [x.info] := by rw [List.map_append]; rfl
    have hSN := names_snoc isAr (bef.map Nd.info) x.info
    rw [← hMP] at hSN
    have HN := Lib.hid hSN
    clear hSN
    have hLN := names_len isAr (bef.map Nd.info)
    rw [List.length_map] at hLN
    generalize namesL isAr (bef.map Nd.info) = L1 at *
    have FC : Hid (∀ n W1, CallsIn (Fence.wide.inRound l) n Tryz.prog 44 #[.int .i64 x.op] W1 fun e w' => e = .returned (.bool (isAr x.op)) ∧ W1 = w') := Lib.hid fun n W1 => CallsIn.inRound l (callsIn_wide.2 (isAr_any x.op W1))
    have x0 := fX.c0
    have x2 := fX.c2
    have cF := hI.fn.cell
    have cM := hI.mp.cell
    have hlk := look_nm hI.map x.nm (Nat.le_trans x.hs (by decide))
    have HI := Lib.hid hI
    clear fX hI hMP
    have hp0 : ∀ L, stepN isAr L x.info = if isAr x.op = true then addN L x.nm else L := fun _ => rfl
    rw [hp0] at HN
    clear hp0
    cases hp : isAr x.op
    · rw [hp] at FC HN
      have HE : Hid (namesL isAr ((bef ++ [x]).map Nd.info) = L1) := Lib.hid (by rw [HN.out]; simp)
      clear hp hlk HN
      gi_wp2_with (refine ⟨trivial, ?_⟩; gi_at_call 44; refine (FC.out _ _).mono ?_; rintro e w1 ⟨rfl, rfl⟩)
      refine ⟨KeepsFrom.refl _ _, Keep.refl _ _ _, ?_⟩
      show NmI w _ (namesL isAr ((bef ++ [x]).map Nd.info)) _ W0 _
      rw [HE.out]
      obtain ⟨h1, h2, h3, h4, h5⟩ := HI.out
      exact ⟨h1, h2, h3, h4.mono (by simp), h5⟩
    · rw [hp, if_pos rfl] at HN
      rw [hp] at FC
      unfold addN at HN
      by_cases hin : x.nm ∈ L1
      · rw [if_pos hin] at HN
        rw [@decide_eq_true _ (Classical.propDecidable _) hin] at hlk
        clear hp hin
        gi_wp2_with (refine ⟨trivial, ?_⟩; gi_at_call 44; refine (FC.out _ _).mono ?_; rintro e w1 ⟨rfl, rfl⟩)
        refine ⟨KeepsFrom.refl _ _, Keep.refl _ _ _, ?_⟩
        show NmI w _ (namesL isAr ((bef ++ [x]).map Nd.info)) _ W0 _
        rw [HN.out]
        obtain ⟨h1, h2, h3, h4, h5⟩ := HI.out
        exact ⟨h1, h2, h3, h4.mono (by simp), h5⟩
      · rw [if_neg hin] at HN
        rw [@decide_eq_false _ (Classical.propDecidable _) hin] at hlk
        have hbn : bef.length ≤ 10000 := by omega
        obtain ⟨w1, hup, hown1, hgrow1⟩ := HI.out.map.update (Maps.string_keyed Tryz.underlying9) Tryz.underlying73 (Nat.lt_of_le_of_lt hbn (by decide)) (Go.WideMaps.keyOf_string_mk Tryz.underlying9 (Nat.le_trans x.hs (by decide))) (plainElem_bool Tryz.underlying4 true)
        have hMo : ∃ o : Obj, W.heap[w.heap.size + 3]? = some o ∧ o.isCells = false := by
          obtain ⟨es, ck, hh, _⟩ := HI.out.map
          exact ⟨_, hh, rfl⟩
        have hr1 : ∀ r, some (w.heap.size + 3) = some r → ∃ o : Obj, W.heap[r]? = some o ∧ o.isCells = false := fun r e => by cases e; exact hMo
        have hWs : W0.heap.size ≤ W.heap.size := HI.out.low.size
        have hw1s : W.heap.size ≤ w1.heap.size := hgrow1.size
        have fX1 : w1.cell? ⟨g, 2, none⟩ = some (.string x.nm) := cell_kept x2 hgrow1 hr1
        obtain ⟨v, hv, hrow⟩ := HI.out.list
        have hv1 := boxed_kept hv hgrow1 hr1
        have hrow1 : w1.ownsRow w.heap.size 9 1 v L1.length (L1.map Value.string) := hrow.kept hgrow1 (by
          rcases hrow.2 with ⟨rfl, _⟩ | ⟨g', cap', cur, rfl, _, hgb, _⟩
          · exact .inl rfl
          · refine .inr (fun e => ?_)
            simp only [Value.ownBlock, Option.some.injEq] at e
            obtain ⟨o', ho, hc⟩ := hMo
            rw [← e, hgb] at ho
            cases ho
            cases hc)
        have hc := hv1.cell
        have HF := Lib.hid (boxed_kept HI.out.fn hgrow1 hr1)
        have HM := Lib.hid (boxed_kept HI.out.mp hgrow1 hr1)
        have HO := Lib.hid hown1
        have HG := Lib.hid hgrow1
        have HR1 := Lib.hid hr1
        have HK1 : Hid (Keep w.heap.size (w.heap.size + 5) W w1) := Lib.hid (Keep.grown hgrow1 fun b e cs t fr hb => by cases e; exact ⟨by omega, .inl (by omega)⟩)
        clear hp hin hrow hv hown1 hr1 hMo
        gi_wp2_with (first
          | (refine ⟨trivial, ?_⟩; gi_at_call 44; refine (FC.out _ _).mono ?_; rintro e w1 ⟨rfl, rfl⟩)
          | (gi_at_builtin; refine wpListIn_append_own _ rfl _ _ 30 rfl w.heap.size 9 i0 (.string ⟨#[]⟩) 1 16 Tryz.underlying30 hi hz0 hz1 hz2 rfl (by decide) _ _ _ rfl (hrow1.alloc _) ⟨w1.heap.size, 0, none⟩ 1 1 [.string x.nm] rfl rfl (cell_one_new _ _ _) (by simp [Value.oneCell']) (by unfold maxLen; omega) (by omega) (by simp; omega) ?_; intro v' w2 hown' hgrow _; obtain ⟨g', cap', rfl⟩ := ownsRow_succ hown'; obtain ⟨hv2, hv3, hr2, hk2, hb2⟩ := hv1.appended (by decide) hrow1 (by omega) (by omega) hown' hgrow; have hc1 := hv2.cell; have hf1 := hv2.frozen))
        have hrowb : ∀ b, v.ownBlock = some b → ∀ cs t fr, (w1.alloc (.cells #[.string x.nm] 9)).heap[b]? = some (.cells cs t fr) → w.heap.size ≤ b ∧ (b < w.heap.size + 5 ∨ (t ≠ 24 ∧ t ≠ 71)) := fun b eb cs t fr hb => by
          rcases hrow1.2 with ⟨rfl, _⟩ | ⟨g2, cap2, cur, rfl, hg2, hgb, _⟩
          · simp [Value.ownBlock] at eb
          · simp only [Value.ownBlock, Option.some.injEq] at eb
            subst eb
            rw [(Below.heap_alloc w1 _ g2 (Array.getElem?_eq_some_iff.1 hgb).1).trans hgb] at hb
            cases hb
            exact ⟨hg2, .inr ⟨by decide, by decide⟩⟩
        have hKp : Keep w.heap.size (w.heap.size + 5) w1 (w2.setCell ⟨w.heap.size + 2, 0, none⟩ (.slice (some ⟨g', 0, none⟩) (L1.length + 1) cap')) :=
          ((Keep.of_below ((Below.refl _ _).alloc (Nat.le_refl _) _)).trans (Keep.grown hgrow hrowb)).set (by omega) (by omega) _
        refine ⟨(KeepsFrom.of_grownBy HG.out (fun j e => by cases e; omega)).trans (hk2.from _), HK1.out.trans hKp, ?_⟩
        show NmI w _ (namesL isAr ((bef ++ [x]).map Nd.info)) (bef ++ [x]).length W0 _
        rw [HN.out, List.length_append]
        refine ⟨⟨_, hv3, by rw [List.length_append, List.map_append]; exact hr2⟩, ?_, ?_, ?_, (HI.out.low.grown HG.out (by omega) (fun k e => by cases e; omega)).trans hb2⟩
        · exact (((HF.out.alloc _).kept hgrow (HF.out.not_row (by decide) hrow1)).other (by omega) _)
        · exact (((HM.out.alloc _).kept hgrow (HM.out.not_row (by decide) hrow1)).other (by omega) _)
        · rw [nmD_snoc]
          obtain ⟨es, ck, hh, rest⟩ := HO.out
          exact ⟨es, ck, hk2.same _ _ hh rfl, rest⟩
  case done =>
    rintro D zs W hD hzs hI hK
    rw [hzs] at hI
    obtain ⟨⟨v, hv, hrow⟩, _, _, _, hB⟩ := hI
    have hc := hv.cell
    have HR := Lib.hid hrow
    clear hrow hv hzs
    gi_wp2
    refine ⟨by simp, .inl ⟨_, _, rfl, run_takeDeferred hK, ?_⟩⟩
    exact ⟨_, results_tmp rfl _ _ _, v, rfl, ownsRow_putObj HR.out _ hK rfl, (hB0.trans hB).trans (belowK_b (w := w) (Nat.le_refl _) W D _ _ (by omega) hK rfl rfl)⟩
  case stop =>
    rintro D c bef W _ _ h _
    exact h.elim
/-- A list of names is returned. -/
theorem names_any (e : Ex) (v : Value) (w : World) (hx : ExAt w.heap.size w v e) (hsz : sz e ≤ 10000) :
    Calls Tryz.prog 20 #[v] w fun x w' => ∃ v', x = .returned v' ∧ w'.ownsRow w.heap.size 9 1 v' (namesL isVr (pre 1 e)).length ((namesL isVr (pre 1 e)).map Value.string) ∧ Below w.heap.size w w' := by
  obtain ⟨p, cap, pl, cl, rfl, hs, ha⟩ := hx.form
  have HB : Hid (Below w.heap.size w (w.alloc (.cells #[.int .i64 e.op, .int .i64 e.n, .string e.nm, .slice p e.args.length cap] 24))) := Lib.hid ((Below.refl _ _).alloc (Nat.le_refl _) _)
  have NC := Lib.hid (vars_of e _ _ (hx.later HB.out) hsz)
  clear hx ha
  generalize e.op = o at *
  generalize e.n = num at *
  generalize e.nm = s at *
  generalize e.args.length = K at *
  generalize namesL isVr (pre 1 e) = L at *
  go_enter Tryz.func20, Tryz.ntmps20
  go_wp2_with (go_at_call 42; refine NC.out.mono ?_; rintro x w1 ⟨v', rfl, hr, hb⟩; have HR := Lib.hid hr; have HB1 := Lib.hid (HB.out.then_ hb); clear hr hb)
  go_ret
  exact ⟨_, rfl, ⟨HR.out.1, HR.out.2.imp id fun ⟨g, c, cur, h1, h2, h3⟩ => ⟨g, c, cur, h1, Nat.le_trans (by simp) h2, h3⟩⟩, HB1.out⟩
/-- A list of names is returned. -/
theorem arrays_any (e : Ex) (v : Value) (w : World) (hx : ExAt w.heap.size w v e) (hsz : sz e ≤ 10000) :
    Calls Tryz.prog 22 #[v] w fun x w' => ∃ v', x = .returned v' ∧ w'.ownsRow w.heap.size 9 1 v' (namesL isAr (pre 1 e)).length ((namesL isAr (pre 1 e)).map Value.string) ∧ Below w.heap.size w w' := by
  obtain ⟨p, cap, pl, cl, rfl, hs, ha⟩ := hx.form
  have HB : Hid (Below w.heap.size w (w.alloc (.cells #[.int .i64 e.op, .int .i64 e.n, .string e.nm, .slice p e.args.length cap] 24))) := Lib.hid ((Below.refl _ _).alloc (Nat.le_refl _) _)
  have NC := Lib.hid (arrs_of e _ _ (hx.later HB.out) hsz)
  clear hx ha
  generalize e.op = o at *
  generalize e.n = num at *
  generalize e.nm = s at *
  generalize e.args.length = K at *
  generalize namesL isAr (pre 1 e) = L at *
  go_enter Tryz.func22, Tryz.ntmps22
  go_wp2_with (go_at_call 42; refine NC.out.mono ?_; rintro x w1 ⟨v', rfl, hr, hb⟩; have HR := Lib.hid hr; have HB1 := Lib.hid (HB.out.then_ hb); clear hr hb)
  go_ret
  exact ⟨_, rfl, ⟨HR.out.1, HR.out.2.imp id fun ⟨g, c, cur, h1, h2, h3⟩ => ⟨g, c, cur, h1, Nat.le_trans (by simp) h2, h3⟩⟩, HB1.out⟩
end Go.Proofs.YtdiackcefojfkaaGreatDoor.ExW
