/-
  What flat returns.
-/
import Derived.Test.YtoigjeoncdfdmaaGreatDoorClClass
import Derived.Test.YtoigjeoncdfdmaaGreatDoorClBack
import Derived.RangeFuncNested
import Derived.RangeFuncBound
import Derived.RangeFuncCalls
import Derived.RangeFuncLeaves
import Derived.Shelf.Abstract
import Derived.Shelf.RegionOpen
import Derived.WalkKit
import Derived.OwnWalkIn
import Derived.TacticsInMore
import Derived.LoopNIn
import Derived.LoopIn
import Derived.Laws.EntriesVeiled
namespace Go.Proofs.YtoigjeoncdfdmaaGreatDoor.ClW
open Go Go.RowKit Go.Shelf Go.Proofs.YtoigjeoncdfdmaaGreatDoor.NumM Go.Proofs.YtoigjeoncdfdmaaGreatDoor.LexW Go.Proofs.YtoigjeoncdfdmaaGreatDoor.LexM Go.Proofs.YtoigjeoncdfdmaaGreatDoor.ClM
attribute [local go_sem] Oper.semAt_some

theorem keepsFrom_below {B : Nat} {W W' : World} (h : Below W.heap.size W W') : KeepsFrom B W W' :=
  ⟨h.size, fun k _ _ hk _ => (h.block k (Array.getElem?_eq_some_iff.1 hk).1).trans hk⟩
theorem zip2 (a b : Nat) (u v : Value) (t : Array Value) : Array.foldl (fun t (x : Tmp × Value) => t.setIfInBounds x.1 x.2) t ((#[a, b] : Array Tmp).zip #[u, v]) = (t.setIfInBounds a u).setIfInBounds b v := by
  simp [Array.zip, Array.zipWith, Array.zipWithMAux]
theorem keepB_b {n₀ eb : Nat} {w : World} (hn : n₀ ≤ w.heap.size) (he : eb < w.heap.size) (W : World) (l : Nat) (o o' : Obj) (hl : w.heap.size ≤ l) (h : W.heap[l]? = some o) (_ : o.isCells = false) (_ : o.isWalk = false) : KeepB n₀ eb W (W.putObj l o') := by
  have hlt := (Array.getElem?_eq_some_iff.1 h).1
  have hg := grownBy_putObj' W l o'
  exact ⟨hg.size, fun b hb => hg.block b (by rcases hb with hb | hb <;> omega) (fun e => by cases e; rcases hb with hb | hb <;> omega)⟩
theorem back_stops (F : Fence) (hd : F.depth = none) (n : Nat) (h89 : F.fn 89) (hro : F.round = none) (n₀ eb : Nat) (L : List Cl) (p : Option Addr) (cap : Nat) (G : Nat → Nat → Value) (w : World) (hn : n₀ ≤ w.heap.size) (ha : RowA (Lo n₀) w .classes p cap G (L.map Cl.lf)) (hb : Boxed w eb 38 (.slice p L.length cap)) (he : eb < w.heap.size) :
    SeqStopsK F n Tryz.prog 89 #[.pointer (some ⟨eb, 0, none⟩)] (fun x : CnW n₀ w L => x.enc) (KeepB n₀ eb) (fun ys => ys.map (·.1.c) = L.reverse) (fun q => q.map (·.1.c) <+: L.reverse) L.length w := fun l J Jx W hW hJ _ hY h0 =>
  backit_in F hd n h89 hro l n₀ eb L p cap G w ha J Jx (fun s A B hs hg => hJ s A B none hs hg (fun r e => by cases e)) hY W (hW.mono hn) ((hW.block eb he).trans hb) h0
/-- The length of a flat class's lists. -/
theorem flatL_len {l : List Cl} (h : ∀ c ∈ l, c.fs.length ≤ 16 ∧ c.bs.length ≤ 16) : (flatL l).fs.length ≤ 16 * l.length ∧ (flatL l).bs.length ≤ 16 * l.length := by
  induction l with
  | nil => exact ⟨Nat.zero_le _, Nat.zero_le _⟩
  | cons a r ih =>
    have h1 := ih (fun c hc => h c (List.mem_cons_of_mem _ hc))
    have h2 := h a (List.mem_cons_self ..)
    rw [flatL_cons]
    have h3 : (stepC (flatL r) a).fs.length = (flatL r).fs.length + a.fs.length := List.length_append
    have h4 : (stepC (flatL r) a).bs.length ≤ (flatL r).bs.length + a.bs.length := addAll_len
    rw [h3, List.length_cons]
    omega
/-- What is held between two rounds. -/
structure FlI (w : World) (c : Cl) (W : World) : Prop where
  cls : ∃ pf cf pb cb, Blk W (w.heap.size + 1) [.string c.nm, .string c.par, .slice pf c.fs.length cf, .slice pb c.bs.length cb] ∧ At (Hi (w.heap.size + 3) W) W (.r .fields) (.slice pf c.fs.length cf) (.row .fields (c.fs.map Fld.lf)) ∧ BRow w.heap.size (w.heap.size + 3) W (.slice pb c.bs.length cb) c.bs
  res : Blk W w.heap.size [.string ⟨#[]⟩, .string ⟨#[]⟩, .slice none 0 0, .slice none 0 0]
  low : Below w.heap.size w W
  sz : w.heap.size + 3 ≤ W.heap.size
  pr : c.par = emp
theorem own_isCells {W : World} {B n k : Nat} {t : TypeId} {v : Value} {xs : List Value} (h : W.ownsRow B t k v n xs) {g : Nat} (e : v.ownBlock = some g) : ∃ o, W.heap[g]? = some o ∧ o.isCells = true := by
  obtain ⟨_, ⟨hv, _⟩ | ⟨g', cap', cur, hv, hB, hg, _⟩⟩ := h
  · rw [hv] at e; cases e
  · rw [hv] at e; cases e; exact ⟨_, hg, rfl⟩
theorem cell_isCells {W : World} {b o : Nat} {v : Value} (h : W.cell? ⟨b, o, none⟩ = some v) : ∃ ob, W.heap[b]? = some ob ∧ ob.isCells = true := by
  unfold World.cell? at h
  cases hb : W.heap[b]? with
  | none => simp [hb] at h
  | some ob =>
    refine ⟨ob, rfl, ?_⟩
    cases ob <;> simp_all [Obj.isCells]
/-- The two lists, kept where a row below them, or one that isn't cells, grows. -/
theorem lists_grown {N B : Nat} {W W' : World} {row : Option Nat} {c : Cl} {v v2 : Value} (h2 : At (Hi B W) W (.r .fields) v (.row .fields (c.fs.map Fld.lf))) (h3 : BRow N B W v2 c.bs) (hg : W.grownBy W' row) (hN : N ≤ W.heap.size) (hr : ∀ r, row = some r → N ≤ r ∧ (r < B ∨ ∃ o : Obj, W.heap[r]? = some o ∧ o.isCells = false)) :
    At (Hi B W') W' (.r .fields) v (.row .fields (c.fs.map Fld.lf)) ∧ BRow N B W' v2 c.bs := by
  have hsz := hg.size
  constructor
  · refine h2.kept (fun b hb => ⟨hb.1, Nat.lt_of_lt_of_le hb.2 hsz⟩) (fun b o hb v hv => ?_)
    refine (World.cell?_of_block (w := W) (a := ⟨b, o, none⟩) (hg.block b hb.2 (fun e => ?_))).trans hv
    rcases (hr b e.symm).2 with h8 | ⟨ob, h8, h9⟩
    · have := hb.1; omega
    · obtain ⟨ob2, h10, h11⟩ := cell_isCells hv
      rw [h8] at h10
      cases h10
      rw [h9] at h11
      cases h11
  · refine h3.grown hg hN (fun b e => ⟨(hr b e).1, fun e2 => ?_⟩)
    obtain ⟨xs, ho, _⟩ := h3
    rcases (hr b e).2 with h8 | ⟨ob, h8, h9⟩
    · have := (ho.lt _ e2).1; omega
    · obtain ⟨ob2, h10, h11⟩ := own_isCells ho e2
      rw [h8] at h10
      cases h10
      rw [h9] at h11
      cases h11
theorem BRow.rowA2 {N B : Nat} {w : World} {p : Option Addr} {n cap : Nat} {bs : List Bk} (h : BRow N B w (.slice p n cap) bs) (hl : bs.length ≤ 100000) : ∃ G, RowA (fun b => b < N ∨ (B ≤ b ∧ b < w.heap.size)) w .blocks p cap G (bs.map Bk.lf) ∧ ∀ i y, bs[i]? = some y → At (Lo N) w (.r .items) (G i 1) (.row .items y.it) := by
  obtain ⟨p', cap', G', e, r⟩ := h.rowA hl
  cases e
  refine ⟨G', r.kept (fun b hb => by rcases hb with hb | ⟨h1, h2, _⟩; exact .inl hb; exact .inr ⟨h1, h2⟩) (fun _ _ _ _ hv => hv), fun i y hy => ?_⟩
  obtain ⟨xs, ho, hc⟩ := h
  obtain ⟨pi, ci, h1, h2, h3, h4⟩ := hc.at_ i y hy
  have hil := (List.getElem?_eq_some_iff.1 hy).1
  obtain ⟨b, off, e1, hb, hcell⟩ := r.hp (by rw [List.length_map]; omega)
  have c1 := hcell i 1 (by rw [List.length_map]; exact hil) (by decide)
  obtain ⟨_, ⟨hv, _⟩ | ⟨g', cap', cur, hv, hB, hg, q1, q2, q3, q4⟩⟩ := ho
  · rw [e1] at hv; cases hv
  · rw [e1] at hv
    cases hv
    rw [← q4] at h2
    have h5 : cur[i * 2 + 1]? = some (.slice pi y.it.length ci) := by
      rw [List.getElem?_take] at h2
      split at h2
      · simpa using h2
      · cases h2
    have c2 : w.cell? ⟨b, 0 + i * (shp Kd.blocks).length + 1, none⟩ = some (.slice pi y.it.length ci) := by
      simp only [World.cell?, hg, shp]
      simpa using h5
    rw [c2] at c1
    injection c1 with c1
    rw [← c1]
    exact h4
theorem FlI.kept {w : World} {c : Cl} {W W' : World} {row : Option Nat} (h : FlI w c W) (hg : W.grownBy W' row) (hr : ∀ r, row = some r → w.heap.size + 3 ≤ r ∧ ∃ o : Obj, W.heap[r]? = some o ∧ o.isCells = false) : FlI w c W' := by
  obtain ⟨⟨pf, cf, pb, cb, h1, h2, h3⟩, h4, h5, h6, h7⟩ := h
  have hsz := hg.size
  have h5s := h5.size
  refine ⟨⟨pf, cf, pb, cb, h1.grown hg (fun e => by have := (hr _ e.symm).1; omega), lists_grown h2 h3 hg h5s (fun r e => ⟨by have := (hr r e).1; omega, .inr (hr r e).2⟩)⟩, h4.grown hg (fun e => by have := (hr _ e.symm).1; omega), h5.grown hg h5s (fun k e => by have := (hr k e).1; omega), by omega, h7⟩
theorem blk_own {W W' : World} {g : Nat} {xs : List Value} {x : Value} (hx : xs[0]? = some x) {row : Option Nat} (h : Blk W g xs) (hg : W.grownBy W' row) (hr : ∀ r, row = some r → ∃ o : Obj, W.heap[r]? = some o ∧ o.isCells = false) : Blk W' g xs := by
  refine h.grown hg (fun e => ?_)
  obtain ⟨ob, h8, h9⟩ := hr g e.symm
  obtain ⟨ob2, h10, h11⟩ := cell_isCells (h.c 0 x hx)
  rw [h8] at h10
  cases h10
  rw [h9] at h11
  cases h11
/-- The classes that were handed on. -/
abbrev clsOf {n₀ : Nat} {w : World} {L : List Cl} (l : List (CnW n₀ w L)) : List Cl := l.map (fun x => x.1.c)
theorem clsOf_snoc {n₀ : Nat} {w : World} {L : List Cl} (l : List (CnW n₀ w L)) (x : CnW n₀ w L) : (clsOf (l ++ [x])).reverse = x.1.c :: (clsOf l).reverse := by simp [clsOf]
theorem clsOf_in {n₀ : Nat} {w : World} {L : List Cl} (l : List (CnW n₀ w L)) : ∀ c ∈ (clsOf l).reverse, c ∈ L := by
  intro c hc
  rw [List.mem_reverse, List.mem_map] at hc
  obtain ⟨x, _, rfl⟩ := hc
  exact x.2.2
set_option maxRecDepth 100000 in
set_option maxHeartbeats 8000000 in
/-- flat, of a line of classes that are not large. -/
theorem flat_any (L : List Cl) (p : Option Addr) (cap : Nat) (G : Nat → Nat → Value) (w : World) (ha : RowA (Lo w.heap.size) w .classes p cap G (L.map Cl.lf)) (hL : L.length ≤ 40) (hfb : ∀ c ∈ L, c.fs.length ≤ 16 ∧ c.bs.length ≤ 16) :
    Calls Tryz.prog 58 #[.slice p L.length cap] w (tFlat w.heap.size (flatL L) w) := by
  have HA := Lib.hid ha
  have HFB := Lib.hid hfb
  clear ha hfb
  refine (callsIn_wide (n := 9)).1 ?_
  refine callsIn_of_wp_marks Tryz.func58 rfl trivial ?_ rfl
  simp only [Tryz.ntmps58, List.size_toArray, List.length_cons, List.length_nil, Nat.reduceAdd, Nat.reduceSub, Array.replicate_succ, Array.replicate_zero, List.push_toArray, List.append_toArray, List.nil_append, List.cons_append]
  gi_wp2_with (refine ⟨trivial, ?_⟩; gi_at_call 76; refine (back_in Fence.wide _ trivial rfl _ _ _ _).mono ?_; rintro e w' ⟨rfl, rfl⟩)
  have Z0 := (((Blk.new w [.string ⟨#[]⟩, .string ⟨#[]⟩, .slice none 0 0, .slice none 0 0] 25).alloc (.cells #[.string ⟨#[]⟩, .string ⟨#[]⟩, .slice none 0 0, .slice none 0 0] 25)).alloc (.cells #[.slice p L.length cap] 38))
  have Z1 := (Blk.at_ (show (w.alloc (.cells #[.string ⟨#[]⟩, .string ⟨#[]⟩, .slice none 0 0, .slice none 0 0] 25)).heap.size = w.heap.size + 1 by simp) [.string ⟨#[]⟩, .string ⟨#[]⟩, .slice none 0 0, .slice none 0 0] 25).alloc (.cells #[.slice p L.length cap] 38)
  have hE : (((w.alloc (.cells #[.string ⟨#[]⟩, .string ⟨#[]⟩, .slice none 0 0, .slice none 0 0] 25)).alloc (.cells #[.string ⟨#[]⟩, .string ⟨#[]⟩, .slice none 0 0, .slice none 0 0] 25)).alloc (.cells #[.slice p L.length cap] 38)).heap.size = w.heap.size + 3 := by simp
  have hB0 : Below w.heap.size w (((w.alloc (.cells #[.string ⟨#[]⟩, .string ⟨#[]⟩, .slice none 0 0, .slice none 0 0] 25)).alloc (.cells #[.string ⟨#[]⟩, .string ⟨#[]⟩, .slice none 0 0, .slice none 0 0] 25)).alloc (.cells #[.slice p L.length cap] 38)) := (((Below.refl _ _).alloc (Nat.le_refl _) _).alloc (by simp) _).alloc (by simp; omega) _
  have bI : Boxed (((w.alloc (.cells #[.string ⟨#[]⟩, .string ⟨#[]⟩, .slice none 0 0, .slice none 0 0] 25)).alloc (.cells #[.string ⟨#[]⟩, .string ⟨#[]⟩, .slice none 0 0, .slice none 0 0] 25)).alloc (.cells #[.slice p L.length cap] 38)) (w.heap.size + 2) 38 (.slice p L.length cap) := by
    have := Boxed.new ((w.alloc (.cells #[.string ⟨#[]⟩, .string ⟨#[]⟩, .slice none 0 0, .slice none 0 0] 25)).alloc (.cells #[.string ⟨#[]⟩, .string ⟨#[]⟩, .slice none 0 0, .slice none 0 0] 25)) 38 (.slice p L.length cap)
    simpa [World.size_alloc] using this
  simp only [Nat.add_assoc, Nat.reduceAdd]
  obtain ⟨W0, hW0⟩ : ∃ W0, (((w.alloc (.cells #[.string ⟨#[]⟩, .string ⟨#[]⟩, .slice none 0 0, .slice none 0 0] 25)).alloc (.cells #[.string ⟨#[]⟩, .string ⟨#[]⟩, .slice none 0 0, .slice none 0 0] 25)).alloc (.cells #[.slice p L.length cap] 38)) = W0 := ⟨_, rfl⟩
  rw [hW0] at Z0 Z1 hE hB0 bI ⊢
  clear hW0
  have hI0 : FlI w zCl W0 := ⟨⟨none, 0, none, 0, Z1, .nilRow _ _ _, BRow.nil _ _ _⟩, Z0, hB0, by omega, rfl⟩
  refine wpIn_rangeFunc_ownH rfl (by decide) (gf := 89) (lb := #[.pointer (some ⟨w.heap.size + 2, 0, none⟩)]) rfl trivial (enters_of Tryz.func89 (by kernel_rfl) rfl)
    (back_stops Fence.wide rfl _ trivial rfl w.heap.size (w.heap.size + 2) L p cap G W0 (by omega) (HA.out.under hB0) bI (by omega)) (fun h k => h.trans k) (keepB_b (by omega) (by omega)) (Below.refl _ _) (fun _ => rfl)
    (fun (bef : List (CnW w.heap.size W0 L)) W => FlI w (flatL (clsOf bef).reverse) W)
    (fun _ _ _ => False)
    (fun _ _ _ _ hs hg hr => hs.kept hg (fun r e => ⟨by have := (hr r e).1; omega, (hr r e).2⟩))
    (fun _ _ _ _ _ hs _ _ => hs)
    hI0
    (fun x a' W => ∃ g, w.heap.size + 3 ≤ g ∧ a' = { tmps := #[.slice p L.length cap, undef, .pointer (some ⟨w.heap.size, 0, none⟩), .pointer (some ⟨w.heap.size + 1, 0, none⟩), undef, .pointer (some ⟨g, 0, none⟩), .slice p L.length cap, .func (.func 89) #[] #[.pointer (some ⟨w.heap.size + 2, 0, none⟩)], .int .i64 x.1.ix, cv x.1.c.nm x.1.c.par (.slice x.1.pf x.1.c.fs.length x.1.cf) (.slice x.1.pb x.1.c.bs.length x.1.cb), undef, undef, undef, undef, undef], defers := [] } ∧ Blk W g [.string x.1.c.nm, .string x.1.c.par, .slice x.1.pf x.1.c.fs.length x.1.cf, .slice x.1.pb x.1.c.bs.length x.1.cb])
    (fun x a' _ X Y row hs hg hr => by obtain ⟨g, h0, h1, h2⟩ := hs; exact ⟨g, h0, h1, blk_own rfl h2 hg (fun r e => (hr r e).2)⟩)
    ?assign ?body ?done ?stop
  case assign =>
    rintro l bef x W K hI hK
    have hb2 : Below W.heap.size W (W.alloc (.cells #[.string x.1.c.nm, .string x.1.c.par, .slice x.1.pf x.1.c.fs.length x.1.cf, .slice x.1.pb x.1.c.bs.length x.1.cb] 25)) := (Below.refl _ _).alloc (Nat.le_refl _) _
    have hK2 := hK _ _ (keepsFrom_below hb2) (KeepB.of_grown (grown_below hb2 none) (by have := hI.sz; omega) (by have := hI.sz; omega) (fun b e => by cases e)) (hI.kept (grown_below hb2 none) (fun r e => by cases e)) ⟨W.heap.size, hI.sz, rfl, Blk.new W _ 25⟩
    simp only [CnW.enc]
    rw [zip2]
    gi_wp2
    exact hK2
  case body =>
    rintro l bef x a' W hl _ hI ⟨g, hg0, rfl, fX⟩ hlt
    have hfl := flatL_len (fun c hc => HFB.out c (clsOf_in bef c hc))
    have hbl : (clsOf bef).reverse.length = bef.length := by simp
    rw [hbl] at hfl
    have hxl := HFB.out x.1.c x.2.2
    have HSN : Hid (flatL (clsOf (bef ++ [x])).reverse = stepC (flatL (clsOf bef).reverse) x.1.c) := Lib.hid (by rw [clsOf_snoc]; rfl)
    generalize flatL (clsOf bef).reverse = cc at *
    obtain ⟨pf, cf, pb, cb, h1, h2, h3⟩ := hI.cls
    obtain ⟨G2, hr2, hi2⟩ := h3.rowA2 (by omega)
    have hlow := hI.low
    have hsz := hI.sz
    have hx : CV (Lo w.heap.size) W x.1.pf x.1.cf x.1.pb x.1.cb x.1.c := x.2.1.across hB0 hlow (Nat.le_refl _)
    have FC : Hid (∀ n, CallsIn (Fence.wide.inRound l) n Tryz.prog 77 #[.agg (fc cc x.1.c pf pb x.1.pf x.1.pb cf cb x.1.cf x.1.cb).toArray] W (tFlat w.heap.size (stepC cc x.1.c) W)) := Lib.hid fun n => CallsIn.inRound l (callsIn_wide.2 (class_any cc x.1.c pf pb x.1.pf x.1.pb cf cb x.1.cf x.1.cb w.heap.size G2 W hlow.size (h2.weak (fun b hb => hb.2)) (hr2.kept (fun b hb => by show b < W.heap.size; rcases hb with hb | hb <;> omega) (fun _ _ _ _ hv => hv)) hi2 hx (by omega) (by omega)))
    have k0 := h1.c 0 _ rfl
    have k1 := h1.c 1 _ rfl
    have k2 := h1.c 2 _ rfl
    have k3 := h1.c 3 _ rfl
    have x0 := fX.c 0 _ rfl
    have x1 := fX.c 1 _ rfl
    have x2 := fX.c 2 _ rfl
    have x3 := fX.c 3 _ rfl
    have H1 := Lib.hid h1
    have HI := Lib.hid hI
    clear h1 h2 h3 hr2 hi2 hx hI fX
    gi_wp2_with (refine ⟨trivial, ?_⟩; gi_at_call 77; refine (FC.out _).mono ?_; rintro e w5 ⟨p5, c5, q5, d5, rfl, ha5, hr5, hb5⟩; have Y := H1.out.stay hb5; have y0 := Y.f 0; have y1 := Y.f 1; have y2 := Y.f 2; have y3 := Y.f 3; have yl := Y.lt; have z0 := Y.c 0 _ rfl; have z1 := Y.c 1 _ rfl; have z2 := Y.c 2 _ rfl; have z3 := Y.c 3 _ rfl)
    have G0 := grown_set w5 (w.heap.size + 1) 0 (.string (stepC cc x.1.c).nm)
    have G1 := G0.trans (grown_set _ (w.heap.size + 1) 1 (.string (stepC cc x.1.c).par))
    have G2' := G1.trans (grown_set _ (w.heap.size + 1) 2 (.slice p5 (stepC cc x.1.c).fs.length c5))
    have G3 := G2'.trans (grown_set _ (w.heap.size + 1) 3 (.slice q5 (stepC cc x.1.c).bs.length d5))
    have GG := (grown_below hb5 (some (w.heap.size + 1))).trans G3
    have hi := HI.out
    have Y4 := (((Y.set 0 (.string (stepC cc x.1.c).nm) (by simp)).set 1 (.string (stepC cc x.1.c).par) (by simp)).set 2 (.slice p5 (stepC cc x.1.c).fs.length c5) (by simp)).set 3 (.slice q5 (stepC cc x.1.c).bs.length d5) (by simp)
    have s5 := hb5.size
    refine ⟨⟨GG.size, fun k o hk ho hc => (GG.block k (Array.getElem?_eq_some_iff.1 ho).1 (fun e => by cases e; omega)).trans ho⟩, KeepB.of_grown GG (by omega) (by omega) (fun b e => by cases e; omega), ?_⟩
    show FlI w (flatL (clsOf (bef ++ [x])).reverse) _
    rw [HSN.out]
    refine ⟨⟨p5, c5, q5, d5, Y4, lists_grown (ha5.low (by omega)) (hr5.low (by omega)) G3 (by omega) (fun r e => by cases e; exact ⟨by omega, .inl (by omega)⟩)⟩, hi.res.grown GG (fun e => by injection e with e; omega), hi.low.grown GG (by omega) (fun k e => by cases e; omega), by have := GG.size; omega, rfl⟩
  case done =>
    rintro D zs W hD hzs hI hK
    have hzs2 : (clsOf zs).reverse = L := by rw [show clsOf zs = L.reverse from hzs, List.reverse_reverse]
    rw [hzs2] at hI
    clear hzs hzs2
    obtain ⟨pf, cf, pb, cb, h1, h2, h3⟩ := hI.cls
    have hR := hI.res
    have hlow := hI.low
    have hsz := hI.sz
    have k0 := h1.c 0 _ rfl
    have k1 := h1.c 1 _ rfl
    have k2 := h1.c 2 _ rfl
    have k3 := h1.c 3 _ rfl
    have r0 := hR.c 0 _ rfl
    have r1 := hR.c 1 _ rfl
    have r2 := hR.c 2 _ rfl
    have r3 := hR.c 3 _ rfl
    have f0 := hR.f 0
    have f1 := hR.f 1
    have f2 := hR.f 2
    have f3 := hR.f 3
    have rl := hR.lt
    have HR := Lib.hid hR
    have H1 := Lib.hid h1
    have H2 := Lib.hid h2
    have H3 := Lib.hid h3
    clear h1 h2 h3 hR hI
    gi_wp2
    have G0 := grown_set W w.heap.size 0 (.string (flatL L).nm)
    have G1 := G0.trans (grown_set _ w.heap.size 1 (.string (flatL L).par))
    have G2' := G1.trans (grown_set _ w.heap.size 2 (.slice pf (flatL L).fs.length cf))
    have G3 := G2'.trans (grown_set _ w.heap.size 3 (.slice pb (flatL L).bs.length cb))
    have Y4 := (((HR.out.set 0 (.string (flatL L).nm) (by simp)).set 1 (.string (flatL L).par) (by simp)).set 2 (.slice pf (flatL L).fs.length cf) (by simp)).set 3 (.slice pb (flatL L).bs.length cb) (by simp)
    have L3 := lists_grown H2.out H3.out G3 (by omega) (fun r e => by cases e; exact ⟨by omega, .inl (by omega)⟩)
    have B3 := hlow.grown G3 (by omega) (fun k e => by cases e; omega)
    have hK2 := (G3.block D (Array.getElem?_eq_some_iff.1 hK).1 (fun e => by injection e with e; omega)).trans hK
    generalize ((((W.setCell ⟨w.heap.size, 0, none⟩ (.string (flatL L).nm)).setCell ⟨w.heap.size, 1, none⟩ (.string (flatL L).par)).setCell ⟨w.heap.size, 2, none⟩ (.slice pf (flatL L).fs.length cf)).setCell ⟨w.heap.size, 3, none⟩ (.slice pb (flatL L).bs.length cb)) = W4 at *
    have hz4 := G3.size
    have GD := grownBy_putObj' W4 D (.deferred none)
    have L4 := lists_grown L3.1 L3.2 GD (by omega) (fun r e => by cases e; exact ⟨by omega, .inr ⟨_, hK2, rfl⟩⟩)
    have Y5 := Y4.grown GD (fun e => by injection e with e; omega)
    have pz0 := Y5.c 0 _ rfl
    have pz1 := Y5.c 1 _ rfl
    have pz2 := Y5.c 2 _ rfl
    have pz3 := Y5.c 3 _ rfl
    have B4 := B3.grown GD (by omega) (fun k e => by cases e; omega)
    refine ⟨by simp, .inl ⟨_, _, rfl, run_takeDeferred hK2, ?_⟩⟩
    refine ⟨cv (flatL L).nm (flatL L).par (.slice pf (flatL L).fs.length cf) (.slice pb (flatL L).bs.length cb), by simp [results, Tryz.results58, go_sem, pz0, pz1, pz2, pz3], pf, cf, pb, cb, rfl, L4.1.low (by omega), L4.2.low (by omega), B4⟩
  case stop =>
    rintro D c bef W _ _ h _
    exact h.elim
end Go.Proofs.YtoigjeoncdfdmaaGreatDoor.ClW
