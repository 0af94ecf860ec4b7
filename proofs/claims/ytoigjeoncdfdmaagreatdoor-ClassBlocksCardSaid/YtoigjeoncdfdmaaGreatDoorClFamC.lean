/-
  What the closures of checkFamily and checkFamily return.
-/
import Derived.Test.YtoigjeoncdfdmaaGreatDoorClLine
import Derived.Test.YtoigjeoncdfdmaaGreatDoorClNames
import Derived.Deep.RegionLaw
namespace Go.Proofs.YtoigjeoncdfdmaaGreatDoor.ClW
open Go Go.RowKit Go.Proofs.YtoigjeoncdfdmaaGreatDoor.NumM Go.Proofs.YtoigjeoncdfdmaaGreatDoor.LexW Go.Proofs.YtoigjeoncdfdmaaGreatDoor.LexM Go.Proofs.YtoigjeoncdfdmaaGreatDoor.ClM

theorem RowA.fsz {S : Nat → Prop} {w : World} {p : Option Addr} {cap : Nat} {F : Nat → Nat → Value} {fs : List Fld} (h : RowA S w .fields p cap F (fs.map Fld.lf)) : ∀ s ∈ fs.map Fld.nm, s.size ≤ 140737488351232 := by
  intro s hs
  obtain ⟨f, hf, rfl⟩ := List.mem_map.1 hs
  obtain ⟨i, hi⟩ := List.getElem?_of_mem hf
  obtain ⟨_, _, _, _, _, _, _, _, _, h⟩ := h.fd hi
  exact h
theorem RowA.bsz {S : Nat → Prop} {w : World} {p : Option Addr} {cap : Nat} {F : Nat → Nat → Value} {fs : List Bk} (h : RowA S w .blocks p cap F (fs.map Bk.lf)) : ∀ s ∈ fs.map Bk.nm, s.size ≤ 140737488351232 := by
  intro s hs
  obtain ⟨f, hf, rfl⟩ := List.mem_map.1 hs
  obtain ⟨i, hi⟩ := List.getElem?_of_mem hf
  obtain ⟨_, _, _, _, _, _, _, _, h, _⟩ := h.bk hi
  exact h
theorem RowA.csz {S : Nat → Prop} {w : World} {p : Option Addr} {cap : Nat} {F : Nat → Nat → Value} {cs : List Cl} (h : RowA S w .classes p cap F (cs.map Cl.lf)) : ∀ s ∈ cs.map Cl.nm, s.size ≤ 140737488351232 := by
  intro s hs
  obtain ⟨f, hf, rfl⟩ := List.mem_map.1 hs
  obtain ⟨i, hi⟩ := List.getElem?_of_mem hf
  obtain ⟨_, _, _, _, _, _, _, _, _, _, _, _, h⟩ := h.cl hi
  exact h.nm
theorem LRow.toLo {N : Nat} {w : World} {v : Value} {cs : List Cl} {B : Nat} (h : LRow N B w v cs) (hl : cs.length ≤ 100000) (hN : N ≤ w.heap.size) : ∃ p cap G, v = .slice p cs.length cap ∧ RowA (Lo w.heap.size) w .classes p cap G (cs.map Cl.lf) := by
  obtain ⟨p, cap, G, e, r⟩ := h.rowA hl
  exact ⟨p, cap, G, e, r.kept (fun b hb => by rcases hb with hb | hb; exact Nat.lt_of_lt_of_le hb hN; exact hb.2) (fun _ _ _ _ hv => hv)⟩
theorem reps_of {α : Type} (l : List α) (f : α → ByteArray) (p : Option Addr) (c : Nat) (G : Nat → Nat → Value) (N : Nat) (w : World) (ha : RowA (Lo N) w .strs p c G (SL (l.map f))) (hN : N ≤ w.heap.size) : Calls Tryz.prog 42 #[.slice p l.length c] w (tBool (dupB (l.map f)) w) := by
  have := repeats_any (l.map f) p c G N w ha hN
  rw [List.length_map] at this
  exact this
theorem noName_of {α : Type} (l : List α) (f : α → ByteArray) (p : Option Addr) (c : Nat) (G : Nat → Nat → Value) (N : Nat) (w : World) (ha : RowA (Lo N) w .strs p c G (SL (l.map f))) (hN : N ≤ w.heap.size) (ht : Tab w) : Calls Tryz.prog 40 #[.slice p l.length c, .func (.func 41) #[] #[]] w (tBool ((l.map f).any bad) w) := by
  have := noName_has (l.map f) bad p c G N w ha hN (fun s _ W hW hs => isNo_any s W hs (ht.later hW))
  rw [List.length_map] at this
  exact this
theorem fld2 (a b c d : Value) (W : World) : (Instr.field 25 (.agg #[a, b, c, d]) 2).run Tryz.prog W = .ok c W := by kernel_rfl
set_option maxRecDepth 100000 in
set_option maxHeartbeats 4000000 in
theorem orphan_any (src : List Cl) (c : Cl) (p : Option Addr) (cap : Nat) (G : Nat → Nat → Value) (N a : Nat) (pf : Option Addr) (cf : Nat) (pb : Option Addr) (cb : Nat) (w : World) (hx : w.cell? ⟨a, 0, none⟩ = some (.slice p src.length cap)) (ha : RowA (Lo N) w .classes p cap G (src.map Cl.lf)) (hN : N ≤ w.heap.size) :
    Calls Tryz.prog 69 #[cv c.nm c.par (.slice pf c.fs.length cf) (.slice pb c.bs.length cb), .pointer (some ⟨a, 0, none⟩)] w (tBool (orphan src c) w) := by
  have F0 := Blk.new w [.string c.nm, .string c.par, .slice pf c.fs.length cf, .slice pb c.bs.length cb] 25
  have hb1 := ba w (.cells #[.string c.nm, .string c.par, .slice pf c.fs.length cf, .slice pb c.bs.length cb] 25)
  have hx2 := (hb1.cell (p := ⟨a, 0, none⟩) (World.block_lt_of_cell? w ⟨a, 0, none⟩ hx)).trans hx
  have FC := Lib.hid (first_any src c.par p cap G N (w.alloc (.cells #[.string c.nm, .string c.par, .slice pf c.fs.length cf, .slice pb c.bs.length cb] 25)) (ha.under (hb1.mono hN)) (by simp; omega))
  have HF := Lib.hid F0
  have HB := Lib.hid hb1
  have c1 := F0.c 1 _ rfl
  clear hx ha F0 hb1
  cases hs : same c.par emp
  · have e1 := same_nil hs
    cases ho : fnd src c.par with
    | none =>
      have E : Hid (orphan src c = true) := Lib.hid (by unfold orphan; rw [hs, ho]; rfl)
      rw [ho] at FC
      clear hs ho
      go_enter Tryz.func69, Tryz.ntmps69
      go_wp2_with (go_at_call 47; (go_loud (with_reducible refine FC.out.mono ?_); rintro e w5 ⟨qf, kf, qb, kb, rfl, _, hb5⟩; have Y := HF.out.stay hb5; have z1 := Y.c 1 _ rfl; have yl := Y.lt; have HB5 := Lib.hid (HB.out.then_ hb5); clear hb5 Y c1))
      go_ret
      exact tBool_mk E.out.symm (HB5.out.then_ (ba _ _))
    | some d =>
      have E : Hid (orphan src c = false) := Lib.hid (by unfold orphan; rw [hs, ho]; rfl)
      rw [ho] at FC
      clear hs ho
      go_enter Tryz.func69, Tryz.ntmps69
      go_wp2_with (go_at_call 47; (go_loud (with_reducible refine FC.out.mono ?_); rintro e w5 ⟨qf, kf, qb, kb, rfl, _, hb5⟩; have Y := HF.out.stay hb5; have z1 := Y.c 1 _ rfl; have yl := Y.lt; have HB5 := Lib.hid (HB.out.then_ hb5); clear hb5 Y c1))
      go_ret
      exact tBool_mk E.out.symm (HB5.out.then_ (ba _ _))
  · have e1 := same_nil hs
    have E : Hid (orphan src c = false) := Lib.hid (by unfold orphan; rw [hs]; rfl)
    clear hs
    go_enter Tryz.func69, Tryz.ntmps69
    go_wp2_with (go_at_call 47; (go_loud (with_reducible refine FC.out.mono ?_); rintro e w5 ⟨qf, kf, qb, kb, rfl, _, hb5⟩; have Y := HF.out.stay hb5; have z1 := Y.c 1 _ rfl; have yl := Y.lt; have HB5 := Lib.hid (HB.out.then_ hb5); clear hb5 Y c1))
    go_ret
    exact tBool_mk E.out.symm (HB5.out.then_ (ba _ _))
theorem line_len {src : List Cl} (hn : src.length ≤ 32) (c : Cl) : (lineOf src c).length ≤ 40 := by
  have := (chain_len src src.length c).1
  unfold lineOf
  omega

set_option maxRecDepth 100000 in
set_option maxHeartbeats 4000000 in
theorem endless_any (src : List Cl) (c : Cl) (p : Option Addr) (cap : Nat) (G : Nat → Nat → Value) (N a : Nat) (pf : Option Addr) (cf : Nat) (pb : Option Addr) (cb : Nat) (w : World) (hx : w.cell? ⟨a, 0, none⟩ = some (.slice p src.length cap)) (ha : RowA (Lo N) w .classes p cap G (src.map Cl.lf)) (hN : N ≤ w.heap.size) (hc : CV (Lo N) w pf cf pb cb c) (hm : c ∈ src) (hn : src.length ≤ 32) (hno : ∀ d ∈ src, orphan src d = false) :
    Calls Tryz.prog 70 #[cv c.nm c.par (.slice pf c.fs.length cf) (.slice pb c.bs.length cb), .pointer (some ⟨a, 0, none⟩)] w (tBool (decide (src.length < (lineOf src c).length)) w) := by
  have F0 := Blk.new w [.string c.nm, .string c.par, .slice pf c.fs.length cf, .slice pb c.bs.length cb] 25
  have hb1 := ba w (.cells #[.string c.nm, .string c.par, .slice pf c.fs.length cf, .slice pb c.bs.length cb] 25)
  have al : a < w.heap.size := World.block_lt_of_cell? w ⟨a, 0, none⟩ hx
  have hx2 := (hb1.cell (p := ⟨a, 0, none⟩) al).trans hx
  have LC : Hid (∀ W, Below w.heap.size w W → Calls Tryz.prog 71 #[.slice p src.length cap, cv c.nm c.par (.slice pf c.fs.length cf) (.slice pb c.bs.length cb)] W (tLine W.heap.size (chain src src.length c) W)) := Lib.hid fun W hW => lineOf_any src c p cap G pf cf pb cb W ((ha.under (hW.mono hN)).wide (Nat.le_trans hN hW.size)) ((hc.under (hW.mono hN)).wide (Nat.le_trans hN hW.size)) hm (by omega) hno
  have LL : Hid ((chain src src.length c).length ≤ 40) := Lib.hid (line_len hn c)
  have HB := Lib.hid hb1
  have hal : a < (w.alloc (.cells #[.string c.nm, .string c.par, .slice pf c.fs.length cf, .slice pb c.bs.length cb] 25)).heap.size := by simp; omega
  have HAL := Lib.hid hal
  have c0 := F0.c 0 _ rfl
  have c1 := F0.c 1 _ rfl
  have c2 := F0.c 2 _ rfl
  have c3 := F0.c 3 _ rfl
  clear hx ha F0 hc hm hno al hb1 hal
  go_enter Tryz.func70, Tryz.ntmps70
  go_upto_region 1 with (fail)
  go_region_law (go_simp; go_at_call 71; (with_reducible refine (LC.out _ ?_).mono ?_); (first | exact HB.out | exact HB.out.drew); rintro e w5 ⟨v5, rfl, hl5, hb5⟩; have hb9 : Below w.heap.size w w5 := (by first | exact HB.out.then_ hb5 | exact HB.out.drew.then_ hb5); have hx5 : w5.cell? ⟨a, 0, none⟩ = some (.slice p src.length cap) := (hb5.cell (p := ⟨a, 0, none⟩) HAL.out).trans hx2; have hsz5 := hb5.size; obtain ⟨q5, k5, G5, rfl, r5⟩ := hl5.toLo (by have := LL.out; omega) hsz5; have HB5 := Lib.hid hb9; clear hl5 hb5 hb9 r5)
  all_goals
    go_wp2_with fail
    go_ret
    exact tBool_mk (decide_eq_decide.2 (by unfold lineOf; omega)) (by first | exact HB5.out | exact HB5.out.drew)

set_option maxRecDepth 100000 in
set_option maxHeartbeats 4000000 in
theorem refield_any (src : List Cl) (c : Cl) (p : Option Addr) (cap : Nat) (G : Nat → Nat → Value) (N a : Nat) (pf : Option Addr) (cf : Nat) (pb : Option Addr) (cb : Nat) (w : World) (hx : w.cell? ⟨a, 0, none⟩ = some (.slice p src.length cap)) (ha : RowA (Lo N) w .classes p cap G (src.map Cl.lf)) (hN : N ≤ w.heap.size) (hc : CV (Lo N) w pf cf pb cb c) (hm : c ∈ src) (hn : src.length ≤ 32) (hno : ∀ d ∈ src, orphan src d = false) (hfb : ∀ d ∈ src, d.fs.length ≤ 16 ∧ d.bs.length ≤ 16) :
    Calls Tryz.prog 72 #[cv c.nm c.par (.slice pf c.fs.length cf) (.slice pb c.bs.length cb), .pointer (some ⟨a, 0, none⟩)] w (tBool (dupB ((flatOf src c).fs.map Fld.nm)) w) := by
  have F0 := Blk.new w [.string c.nm, .string c.par, .slice pf c.fs.length cf, .slice pb c.bs.length cb] 25
  have hb1 := ba w (.cells #[.string c.nm, .string c.par, .slice pf c.fs.length cf, .slice pb c.bs.length cb] 25)
  have al : a < w.heap.size := World.block_lt_of_cell? w ⟨a, 0, none⟩ hx
  have hx2 := (hb1.cell (p := ⟨a, 0, none⟩) al).trans hx
  have LC : Hid (∀ W, Below w.heap.size w W → Calls Tryz.prog 71 #[.slice p src.length cap, cv c.nm c.par (.slice pf c.fs.length cf) (.slice pb c.bs.length cb)] W (tLine W.heap.size (chain src src.length c) W)) := Lib.hid fun W hW => lineOf_any src c p cap G pf cf pb cb W ((ha.under (hW.mono hN)).wide (Nat.le_trans hN hW.size)) ((hc.under (hW.mono hN)).wide (Nat.le_trans hN hW.size)) hm (by omega) hno
  have LL : Hid ((chain src src.length c).length ≤ 40) := Lib.hid (line_len hn c)
  have HB := Lib.hid hb1
  have hal : a < (w.alloc (.cells #[.string c.nm, .string c.par, .slice pf c.fs.length cf, .slice pb c.bs.length cb] 25)).heap.size := by simp; omega
  have HAL := Lib.hid hal
  have c0 := F0.c 0 _ rfl
  have c1 := F0.c 1 _ rfl
  have c2 := F0.c 2 _ rfl
  have c3 := F0.c 3 _ rfl
  have FB : Hid (∀ d ∈ chain src src.length c, d.fs.length ≤ 16 ∧ d.bs.length ≤ 16) := Lib.hid (fun d hd => hfb d (chain_mem hm d hd))
  have FLn := Lib.hid (flatL_len FB.out)
  clear hfb
  clear hx ha F0 hc hm hno al hb1 hal
  have hfl := fld2
  go_enter Tryz.func72, Tryz.ntmps72
  go_wp2_with (first
    | (go_at_call 71; ((with_reducible refine (LC.out _ HB.out).mono ?_); rintro e w5 ⟨v5, rfl, hl5, hb5⟩; have hb9 := (HB.out).then_ hb5; have hx5 := (hb5.cell (p := ⟨a, 0, none⟩) HAL.out).trans hx2; have hsz5 := hb5.size; obtain ⟨q5, k5, G5, rfl, r5⟩ := hl5.toLo (by have := LL.out; omega) hsz5; have HB5 := Lib.hid hb9; have HR5 := Lib.hid r5; clear hl5 hb5 hb9 r5))
    | (go_at_call 58; ((with_reducible refine (flat_any (chain src src.length c) q5 k5 G5 w5 HR5.out LL.out FB.out).mono ?_); rintro e w6 ⟨p6, c6, q6, d6, rfl, hat6, hr6, hb6⟩; (try simp only [cv]); have HB6 := Lib.hid (HB5.out.then_ hb6); obtain ⟨_, _, G6, e6, r6⟩ := hat6.rowOf; rw [List.length_map] at e6; cases e6; have NF := Lib.hid (namesF_any (flatL (chain src src.length c)).fs p6 c6 G6 w6.heap.size w6 r6.toLo (Nat.le_refl _)); have SZ := Lib.hid r6.fsz; clear hat6 hr6 hb6 r6))
    | (go_at_call 43; ((with_reducible refine NF.out.mono ?_); rintro e w7 ⟨v7, rfl, ho7, hb7⟩; obtain ⟨p7, c7, G7, rfl, r7⟩ := strs_own ho7 SZ.out (by rw [List.length_map]; have := FLn.out.1; have := LL.out; omega); have HB7 := Lib.hid (HB6.out.then_ hb7); have HR7 := Lib.hid r7; clear ho7 hb7 r7))
    | (go_at_call 42; ((with_reducible refine (reps_of _ _ p7 c7 G7 w7.heap.size w7 HR7.out.toLo (Nat.le_refl _)).mono ?_); rintro e w8 ⟨rfl, hb8⟩; have HB8 := Lib.hid (HB7.out.then_ hb8); clear hb8)))
  go_ret
  exact tBool_mk rfl HB8.out

set_option maxRecDepth 100000 in
set_option maxHeartbeats 4000000 in
theorem inmuch_any (src : List Cl) (c : Cl) (p : Option Addr) (cap : Nat) (G : Nat → Nat → Value) (N a : Nat) (pf : Option Addr) (cf : Nat) (pb : Option Addr) (cb : Nat) (w : World) (hx : w.cell? ⟨a, 0, none⟩ = some (.slice p src.length cap)) (ha : RowA (Lo N) w .classes p cap G (src.map Cl.lf)) (hN : N ≤ w.heap.size) (hc : CV (Lo N) w pf cf pb cb c) (hm : c ∈ src) (hn : src.length ≤ 32) (hno : ∀ d ∈ src, orphan src d = false) (hfb : ∀ d ∈ src, d.fs.length ≤ 16 ∧ d.bs.length ≤ 16) :
    Calls Tryz.prog 73 #[cv c.nm c.par (.slice pf c.fs.length cf) (.slice pb c.bs.length cb), .pointer (some ⟨a, 0, none⟩)] w (tBool (large (flatOf src c)) w) := by
  have F0 := Blk.new w [.string c.nm, .string c.par, .slice pf c.fs.length cf, .slice pb c.bs.length cb] 25
  have hb1 := ba w (.cells #[.string c.nm, .string c.par, .slice pf c.fs.length cf, .slice pb c.bs.length cb] 25)
  have al : a < w.heap.size := World.block_lt_of_cell? w ⟨a, 0, none⟩ hx
  have hx2 := (hb1.cell (p := ⟨a, 0, none⟩) al).trans hx
  have LC : Hid (∀ W, Below w.heap.size w W → Calls Tryz.prog 71 #[.slice p src.length cap, cv c.nm c.par (.slice pf c.fs.length cf) (.slice pb c.bs.length cb)] W (tLine W.heap.size (chain src src.length c) W)) := Lib.hid fun W hW => lineOf_any src c p cap G pf cf pb cb W ((ha.under (hW.mono hN)).wide (Nat.le_trans hN hW.size)) ((hc.under (hW.mono hN)).wide (Nat.le_trans hN hW.size)) hm (by omega) hno
  have LL : Hid ((chain src src.length c).length ≤ 40) := Lib.hid (line_len hn c)
  have HB := Lib.hid hb1
  have hal : a < (w.alloc (.cells #[.string c.nm, .string c.par, .slice pf c.fs.length cf, .slice pb c.bs.length cb] 25)).heap.size := by simp; omega
  have HAL := Lib.hid hal
  have c0 := F0.c 0 _ rfl
  have c1 := F0.c 1 _ rfl
  have c2 := F0.c 2 _ rfl
  have c3 := F0.c 3 _ rfl
  have FB : Hid (∀ d ∈ chain src src.length c, d.fs.length ≤ 16 ∧ d.bs.length ≤ 16) := Lib.hid (fun d hd => hfb d (chain_mem hm d hd))
  have FLn := Lib.hid (flatL_len FB.out)
  clear hfb
  clear hx ha F0 hc hm hno al hb1 hal
  go_enter Tryz.func73, Tryz.ntmps73
  go_wp2_with (first
    | (go_at_call 71; ((with_reducible refine (LC.out _ HB.out).mono ?_); rintro e w5 ⟨v5, rfl, hl5, hb5⟩; have hb9 := (HB.out).then_ hb5; have hx5 := (hb5.cell (p := ⟨a, 0, none⟩) HAL.out).trans hx2; have hsz5 := hb5.size; obtain ⟨q5, k5, G5, rfl, r5⟩ := hl5.toLo (by have := LL.out; omega) hsz5; have HB5 := Lib.hid hb9; have HR5 := Lib.hid r5; clear hl5 hb5 hb9 r5))
    | (go_at_call 58; ((with_reducible refine (flat_any (chain src src.length c) q5 k5 G5 w5 HR5.out LL.out FB.out).mono ?_); rintro e w6 ⟨p6, c6, q6, d6, rfl, hat6, hr6, hb6⟩; (try simp only [cv]); have HB6 := Lib.hid (HB5.out.then_ hb6); clear hat6 hr6 hb6))
    | (go_at_call 37; ((with_reducible refine (large_any _ _ _ _ _ _ _ _ _ (by have := FLn.out.1; have := LL.out; omega) (by have := FLn.out.2; have := LL.out; omega)).mono ?_); rintro e w8 ⟨rfl, hb8⟩; have HB8 := Lib.hid (HB6.out.then_ hb8); clear hb8)))
  go_ret
  exact tBool_mk rfl HB8.out
end Go.Proofs.YtoigjeoncdfdmaaGreatDoor.ClW
