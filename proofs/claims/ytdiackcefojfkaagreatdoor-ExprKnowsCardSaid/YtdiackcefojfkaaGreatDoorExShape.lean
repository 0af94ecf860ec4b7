/-
  What Size and Depth return.
-/
import Derived.Test.YtdiackcefojfkaaGreatDoorExIter
namespace Go.Proofs.YtdiackcefojfkaaGreatDoor.ExW
open Go Go.RowKit Go.Shelf Go.Proofs.YtdiackcefojfkaaGreatDoor.LexW Go.Proofs.YtdiackcefojfkaaGreatDoor.LexM Go.Proofs.YtdiackcefojfkaaGreatDoor.ExM

attribute [local go_sem] Oper.semAt_some

theorem keep_t {n₀ n₁ : Nat} {A B C : World} (h : Keep n₀ n₁ A B) (k : Keep n₀ n₁ B C) : Keep n₀ n₁ A C := h.trans k
theorem keep_b {n₀ n₁ : Nat} {w : World} (W : World) (l : Nat) (o o' : Obj) (_ : w.heap.size ≤ l) (h : W.heap[l]? = some o) (hc : o.isCells = false) (_ : o.isWalk = false) : Keep n₀ n₁ W (W.putObj l o') := Keep.putObj W l o o' h hc
theorem zip2 (a b : Nat) (u v : Value) (t : Array Value) : Array.foldl (fun t (x : Tmp × Value) => t.setIfInBounds x.1 x.2) t ((#[a, b] : Array Tmp).zip #[u, v]) = (t.setIfInBounds a u).setIfInBounds b v := by
  simp [Array.zip, Array.zipWith, Array.zipWithMAux]
set_option maxRecDepth 100000 in
set_option maxHeartbeats 4000000 in
theorem size_any (e : Ex) (v : Value) (w : World) (hx : ExAt w.heap.size w v e) (hsz : sz e ≤ 10000) :
    Calls Tryz.prog 15 #[v] w fun x w' => x = .returned (.int .i64 (sz e)) ∧ Below w.heap.size w w' := by
  obtain ⟨p, cap, pl, cl, rfl, hs, ha⟩ := hx.form
  have HX := Lib.hid hx
  clear hx ha
  generalize e.op = o at *
  generalize e.n = num at *
  generalize e.nm = s at *
  generalize e.args.length = K at *
  refine (callsIn_wide (n := 9)).1 ?_
  refine callsIn_of_wp_marks Tryz.func15 rfl trivial ?_ rfl
  simp only [Tryz.ntmps15, List.size_toArray, List.length_cons, List.length_nil, Nat.reduceAdd, Nat.reduceSub, Array.replicate_succ, Array.replicate_zero, List.push_toArray, List.append_toArray, List.nil_append, List.cons_append]
  gi_wp2_with (refine ⟨trivial, ?_⟩; gi_at_call 40; refine (nodes_in Fence.wide _ trivial rfl _ _ _ _ _).mono ?_; rintro e w' ⟨rfl, rfl⟩)
  have bS := (Boxed.new (w.alloc (.cells #[.int .i64 o, .int .i64 num, .string s, .slice p K cap] 24)) 3 (.int .i64 0)).alloc (.cells #[.int .i64 o, .int .i64 num, .string s, .slice p K cap] 24)
  have bA := Four.new ((w.alloc (.cells #[.int .i64 o, .int .i64 num, .string s, .slice p K cap] 24)).alloc (.cells #[.int .i64 0] 3)) (.int .i64 o) (.int .i64 num) (.string s) (.slice p K cap) 24
  have hB0 : Below w.heap.size w (((w.alloc (.cells #[.int .i64 o, .int .i64 num, .string s, .slice p K cap] 24)).alloc (.cells #[.int .i64 0] 3)).alloc (.cells #[.int .i64 o, .int .i64 num, .string s, .slice p K cap] 24)) := (((Below.refl _ w).alloc (Nat.le_refl _) _).alloc (by simp) _).alloc (by simp; omega) _
  have hz : (((w.alloc (.cells #[.int .i64 o, .int .i64 num, .string s, .slice p K cap] 24)).alloc (.cells #[.int .i64 0] 3)).alloc (.cells #[.int .i64 o, .int .i64 num, .string s, .slice p K cap] 24)).heap.size = w.heap.size + 3 := by simp
  simp only [World.size_alloc] at bS bA
  obtain ⟨W0, hW0⟩ : ∃ W0, ((w.alloc (.cells #[.int .i64 o, .int .i64 num, .string s, .slice p K cap] 24)).alloc (.cells #[.int .i64 0] 3)).alloc (.cells #[.int .i64 o, .int .i64 num, .string s, .slice p K cap] 24) = W0 := ⟨_, rfl⟩
  rw [hW0] at bS bA hB0 hz ⊢
  clear hW0
  refine wpIn_rangeFunc_ownH rfl (by decide) (gf := 59) (lb := #[.pointer (some ⟨w.heap.size + 1 + 1, 0, none⟩)]) rfl trivial (enters_of Tryz.func59 (by kernel_rfl) rfl)
    (nodes_stops Fence.wide rfl _ trivial trivial rfl w.heap.size (w.heap.size + 2) (w.heap.size + 1 + 1) (by omega) e hsz o num s (.slice p K cap) W0 (by omega) bA (HX.out.under hB0)) keep_t keep_b (Below.refl _ _) (fun _ => rfl)
    (fun bef W => Boxed W (w.heap.size + 1) 3 (.int .i64 bef.length) ∧ Below w.heap.size w W)
    (fun _ _ _ => False)
    (OwnFrom.and (Own.from (boxed_own _ _ _) _) (ownFrom_below (Nat.le_refl _) (by omega)))
    (fun _ _ _ _ _ hs _ _ => hs)
    ⟨bS, hB0⟩
    (fun x a' _ => a' = { tmps := #[xv o num s (.slice p K cap), .pointer (some ⟨w.heap.size, 0, none⟩), .int .i64 0, .pointer (some ⟨w.heap.size + 1, 0, none⟩), xv o num s (.slice p K cap), .func (.func 59) #[] #[.pointer (some ⟨w.heap.size + 1 + 1, 0, none⟩)], .int .i64 x.lv, xv x.op x.n x.nm (.slice x.p x.k x.cap), undef, undef, undef], defers := [] })
    (fun _ _ _ _ _ _ hs _ _ => hs)
    ?assign ?body ?done ?stop
  case assign =>
    rintro l bef x W K hi hK
    rw [zip2]
    gi_wp2
    exact hK _ _ (KeepsFrom.refl _ _) (Keep.refl _ _ _) hi rfl
  case body =>
    rintro l bef x a' W hl _ ⟨bS1, hB1⟩ rfl hlt
    have cS := bS1.cell
    have fS := bS1.frozen
    have hbl : bef.length ≤ 10000 := by omega
    gi_wp2
    exact ⟨(KeepsOthers.setCell _ _ _).from _, (Keep.refl _ _ _).set (by omega) (by omega) _, by rw [List.length_append]; exact bS1.set _, hB1.setCell (p := ⟨w.heap.size + 1, 0, none⟩) (by simp) _⟩
  case done =>
    rintro D zs W hD hzs ⟨bS1, hB1⟩ hK
    have cS := bS1.cell
    have hl : zs.length = sz e := by rw [← pre_len e 1, ← hzs, List.length_map]
    rw [hl] at cS
    clear bS1 hl hzs
    gi_wp2
    refine ⟨by simp, .inl ⟨_, _, rfl, run_takeDeferred hK, ?_⟩⟩
    exact ⟨_, results_tmp rfl _ _ _, rfl, hB1.trans (belowK_b (w := w) (Nat.le_refl _) W D _ _ (by omega) hK rfl rfl)⟩
  case stop =>
    rintro D c bef W _ _ h _
    exact h.elim
set_option maxRecDepth 100000 in
set_option maxHeartbeats 4000000 in
theorem depth_any (e : Ex) (v : Value) (w : World) (hx : ExAt w.heap.size w v e) (hsz : sz e ≤ 10000) :
    Calls Tryz.prog 17 #[v] w fun x w' => x = .returned (.int .i64 (dep e)) ∧ Below w.heap.size w w' := by
  obtain ⟨p, cap, pl, cl, rfl, hs, ha⟩ := hx.form
  have HX := Lib.hid hx
  clear hx ha
  generalize e.op = o at *
  generalize e.n = num at *
  generalize e.nm = s at *
  generalize e.args.length = K at *
  refine (callsIn_wide (n := 9)).1 ?_
  refine callsIn_of_wp_marks Tryz.func17 rfl trivial ?_ rfl
  simp only [Tryz.ntmps17, List.size_toArray, List.length_cons, List.length_nil, Nat.reduceAdd, Nat.reduceSub, Array.replicate_succ, Array.replicate_zero, List.push_toArray, List.append_toArray, List.nil_append, List.cons_append]
  gi_wp2_with (refine ⟨trivial, ?_⟩; gi_at_call 40; refine (nodes_in Fence.wide _ trivial rfl _ _ _ _ _).mono ?_; rintro e w' ⟨rfl, rfl⟩)
  have bS := (Boxed.new (w.alloc (.cells #[.int .i64 o, .int .i64 num, .string s, .slice p K cap] 24)) 3 (.int .i64 0)).alloc (.cells #[.int .i64 o, .int .i64 num, .string s, .slice p K cap] 24)
  have bA := Four.new ((w.alloc (.cells #[.int .i64 o, .int .i64 num, .string s, .slice p K cap] 24)).alloc (.cells #[.int .i64 0] 3)) (.int .i64 o) (.int .i64 num) (.string s) (.slice p K cap) 24
  have hB0 : Below w.heap.size w (((w.alloc (.cells #[.int .i64 o, .int .i64 num, .string s, .slice p K cap] 24)).alloc (.cells #[.int .i64 0] 3)).alloc (.cells #[.int .i64 o, .int .i64 num, .string s, .slice p K cap] 24)) := (((Below.refl _ w).alloc (Nat.le_refl _) _).alloc (by simp) _).alloc (by simp; omega) _
  have hz : (((w.alloc (.cells #[.int .i64 o, .int .i64 num, .string s, .slice p K cap] 24)).alloc (.cells #[.int .i64 0] 3)).alloc (.cells #[.int .i64 o, .int .i64 num, .string s, .slice p K cap] 24)).heap.size = w.heap.size + 3 := by simp
  simp only [World.size_alloc] at bS bA
  obtain ⟨W0, hW0⟩ : ∃ W0, ((w.alloc (.cells #[.int .i64 o, .int .i64 num, .string s, .slice p K cap] 24)).alloc (.cells #[.int .i64 0] 3)).alloc (.cells #[.int .i64 o, .int .i64 num, .string s, .slice p K cap] 24) = W0 := ⟨_, rfl⟩
  rw [hW0] at bS bA hB0 hz ⊢
  clear hW0
  refine wpIn_rangeFunc_ownH rfl (by decide) (gf := 59) (lb := #[.pointer (some ⟨w.heap.size + 1 + 1, 0, none⟩)]) rfl trivial (enters_of Tryz.func59 (by kernel_rfl) rfl)
    (nodes_stops Fence.wide rfl _ trivial trivial rfl w.heap.size (w.heap.size + 2) (w.heap.size + 1 + 1) (by omega) e hsz o num s (.slice p K cap) W0 (by omega) bA (HX.out.under hB0)) keep_t keep_b (Below.refl _ _) (fun _ => rfl)
    (fun bef W => Boxed W (w.heap.size + 1) 3 (.int .i64 (mxL (bef.map Nd.info))) ∧ Below w.heap.size w W)
    (fun _ _ _ => False)
    (OwnFrom.and (Own.from (boxed_own _ _ _) _) (ownFrom_below (Nat.le_refl _) (by omega)))
    (fun _ _ _ _ _ hs _ _ => hs)
    ⟨bS, hB0⟩
    (fun x a' _ => a' = { tmps := #[xv o num s (.slice p K cap), .pointer (some ⟨w.heap.size, 0, none⟩), .int .i64 0, .pointer (some ⟨w.heap.size + 1, 0, none⟩), .int .i64 x.lv, xv o num s (.slice p K cap), .func (.func 59) #[] #[.pointer (some ⟨w.heap.size + 1 + 1, 0, none⟩)], .int .i64 x.lv, xv x.op x.n x.nm (.slice x.p x.k x.cap), undef, undef, undef, undef], defers := [] })
    (fun _ _ _ _ _ _ hs _ _ => hs)
    ?assign ?body ?done ?stop
  case assign =>
    rintro l bef x W K hi hK
    rw [zip2]
    gi_wp2
    exact hK _ _ (KeepsFrom.refl _ _) (Keep.refl _ _ _) hi rfl
  case body =>
    rintro l bef x a' W hl _ ⟨bS1, hB1⟩ rfl hlt
    have cS := bS1.cell
    have fS := bS1.frozen
    have hm : Hid (mxL ((bef ++ [x]).map Nd.info) = max (mxL (bef.map Nd.info)) x.lv) := Lib.hid (by rw [List.map_append, mx_append, List.map_cons, List.map_nil, mx_one]; rfl)
    generalize mxL (bef.map Nd.info) = d at *
    have hmx : Hid (((max d x.lv : Nat) : Int) = max (d : Int) (x.lv : Int)) := Lib.hid (by omega)
    gi_wp2
    exact ⟨(KeepsOthers.setCell _ _ _).from _, (Keep.refl _ _ _).set (by omega) (by omega) _, by rw [hm.out, hmx.out]; exact bS1.set _, hB1.setCell (p := ⟨w.heap.size + 1, 0, none⟩) (by simp) _⟩
  case done =>
    rintro D zs W hD hzs ⟨bS1, hB1⟩ hK
    have cS := bS1.cell
    have hl : mxL (zs.map Nd.info) = dep e := by rw [hzs]; have := pre_mx e 1; omega
    rw [hl] at cS
    clear bS1 hl hzs
    gi_wp2
    refine ⟨by simp, .inl ⟨_, _, rfl, run_takeDeferred hK, ?_⟩⟩
    exact ⟨_, results_tmp rfl _ _ _, rfl, hB1.trans (belowK_b (w := w) (Nat.le_refl _) W D _ _ (by omega) hK rfl rfl)⟩
  case stop =>
    rintro D c bef W _ _ h _
    exact h.elim
end Go.Proofs.YtdiackcefojfkaaGreatDoor.ExW
