/-
  What slices.Backward hands back, for every loop body.
-/
import Derived.Test.YtoigjeoncdfdmaaGreatDoorClClone
import Derived.RangeFuncNested
import Derived.RangeFuncBound
import Derived.RangeFuncCalls
import Derived.RangeFuncLeaves
import Derived.Shelf.Abstract
import Derived.Shelf.RegionOpen
import Derived.WalkKit
import Derived.OwnWalkIn
import Derived.TacticsInMore
import Derived.LoopNIn
import Derived.LoopIn
import Derived.Laws.EntriesVeiled
namespace Go.Proofs.YtoigjeoncdfdmaaGreatDoor.ClW
open Go Go.RowKit Go.Shelf Go.Proofs.YtoigjeoncdfdmaaGreatDoor.NumM Go.Proofs.YtoigjeoncdfdmaaGreatDoor.LexW Go.Proofs.YtoigjeoncdfdmaaGreatDoor.LexM Go.Proofs.YtoigjeoncdfdmaaGreatDoor.ClM

attribute [local go_sem] Oper.semAt_some

/-- What a round keeps: all blocks below n₀, and the iterator's box. -/
structure KeepB (n₀ eb : Nat) (W W' : World) : Prop where
  size : W.heap.size ≤ W'.heap.size
  blk : ∀ b, (b < n₀ ∨ b = eb) → W'.heap[b]? = W.heap[b]?
theorem KeepB.refl (n₀ eb : Nat) (W : World) : KeepB n₀ eb W W := ⟨Nat.le_refl _, fun _ _ => rfl⟩
theorem KeepB.trans {n₀ eb : Nat} {A B C : World} (h : KeepB n₀ eb A B) (k : KeepB n₀ eb B C) : KeepB n₀ eb A C := ⟨Nat.le_trans h.size k.size, fun b hb => (k.blk b hb).trans (h.blk b hb)⟩
theorem KeepB.of_grown {n₀ eb : Nat} {W W' : World} {row : Option Nat} (h : W.grownBy W' row) (h0 : n₀ ≤ W.heap.size) (he : eb < W.heap.size) (hr : ∀ b, row = some b → n₀ ≤ b ∧ b ≠ eb) : KeepB n₀ eb W W' :=
  ⟨h.size, fun b hb => h.block b (by rcases hb with hb | hb <;> omega) (fun e => by have := hr b e.symm; rcases hb with hb | hb <;> omega)⟩
/-- A class that the iterator hands on. -/
structure Cn where
  ix : Int
  c : Cl
  pf : Option Addr
  cf : Nat
  pb : Option Addr
  cb : Nat
/-- .. with what is known of it. -/
abbrev CnW (n₀ : Nat) (w : World) (L : List Cl) : Type := { x : Cn // CV (Lo n₀) w x.pf x.cf x.pb x.cb x.c ∧ x.c ∈ L }
def CnW.enc {n₀ : Nat} {w : World} {L : List Cl} (x : CnW n₀ w L) : Array Value := #[.int .i64 x.1.ix, cv x.1.c.nm x.1.c.par (.slice x.1.pf x.1.c.fs.length x.1.cf) (.slice x.1.pb x.1.c.bs.length x.1.cb)]
set_option maxRecDepth 100000 in
set_option maxHeartbeats 1000000 in
theorem back_in (F : Fence) (n : Nat) (h76 : F.fn 76) (hro : F.round = none) (p : Option Addr) (k cap : Nat) (w : World) :
    CallsIn F n Tryz.prog 76 #[.slice p k cap] w fun e w' => e = .returned (.func (.func 89) #[] #[.pointer (some ⟨w.heap.size, 0, none⟩)]) ∧ w' = w.alloc (.cells #[.slice p k cap] 38) := by
  refine callsIn_of_wp Tryz.func76 rfl h76 ?_ hro
  simp only [Tryz.ntmps76, List.size_toArray, List.length_cons, List.length_nil, Nat.reduceAdd, Nat.reduceSub, Array.replicate_succ, Array.replicate_zero, List.push_toArray, List.append_toArray, List.nil_append, List.cons_append]
  gi_wp2
  go_ret
  exact ⟨rfl, rfl⟩
theorem rev_take {α : Type} {l : List α} {j : Nat} {x : α} (h : l[j]? = some x) : (l.drop j).reverse = (l.drop (j + 1)).reverse ++ [x] := by
  obtain ⟨hj, he⟩ := List.getElem?_eq_some_iff.1 h
  rw [List.drop_eq_getElem_cons hj, he, List.reverse_cons]
set_option maxRecDepth 100000 in
set_option maxHeartbeats 4000000 in
/-- What Backward hands back, for every loop body. -/
theorem backit_in (F : Fence) (hd : F.depth = none) (n : Nat) (h89 : F.fn 89) (hro : F.round = none) (l n₀ eb : Nat) (L : List Cl) (p : Option Addr) (cap : Nat) (G : Nat → Nat → Value) (w : World) (ha : RowA (Lo n₀) w .classes p cap G (L.map Cl.lf)) (J Jx : List (CnW n₀ w L) → World → Prop)
    (hJ : ∀ s A B, J s A → A.grownBy B none → J s B)
    (hY : ∀ bef (x : CnW n₀ w L) W, J bef W → bef.length < L.length → YieldAt F (n - 1) Tryz.prog l x.enc W fun e W' =>
      (e = .returned (.bool true) ∧ J (bef ++ [x]) W' ∧ KeepB n₀ eb W W') ∨ (e = .returned (.bool false) ∧ Jx (bef ++ [x]) W'))
    (W : World) (hw : Below n₀ w W) (hb : Boxed W eb 38 (.slice p L.length cap)) (h0 : J [] W) :
    CallsIn F n Tryz.prog 89 #[.func (.yield l) #[] #[], .pointer (some ⟨eb, 0, none⟩)] W fun x W' => (∃ v, x = .returned v) ∧
      ((∃ ys : List (CnW n₀ w L), ys.map (·.1.c) = L.reverse ∧ J ys W') ∨ (∃ q : List (CnW n₀ w L), q.map (·.1.c) <+: L.reverse ∧ Jx q W')) := by
  have hdd : ∀ k : Nat, (F.depth.isSome = true → 1 ≤ k) := fun k h => by rw [hd] at h; cases h
  have HA := Lib.hid ha
  have hl := ha.hl
  rw [List.length_map] at hl
  simp only [byt] at hl
  obtain ⟨K, hK⟩ : ∃ K, L.length = K := ⟨_, rfl⟩
  have HK := Lib.hid hK
  rw [hK] at hl hY hb
  have hk : K ≤ 140737488351232 := by omega
  have HY := Lib.hid hY
  have HJ := Lib.hid hJ
  have HBX := Lib.hid hb
  have HJ0 := Lib.hid h0
  have HW : Hid (∀ b, b < n₀ → W.heap[b]? = w.heap[b]?) := Lib.hid fun b h => hw.block b h
  have e0 := hb.cell
  clear hK ha hl hY hJ hb h0 hw
  refine callsIn_of_wp Tryz.func89 rfl h89 ?_ hro
  simp only [Tryz.ntmps89, List.size_toArray, List.length_cons, List.length_nil, Nat.reduceAdd, Nat.reduceSub, Array.replicate_succ, Array.replicate_zero, List.push_toArray, List.append_toArray, List.nil_append, List.cons_append]
  gi_wp2
  gi_loopw [3] (fun i wr => ∃ (j : Nat) (ys : List (CnW n₀ w L)), j ≤ K ∧ i = .int .i64 ((j : Int) - 1) ∧ Hid (ys.map (·.1.c) = (L.drop j).reverse) ∧ Hid (J ys wr) ∧ Hid (Boxed wr eb 38 (.slice p K cap)) ∧ Hid (∀ b, b < n₀ → wr.heap[b]? = w.heap[b]?)) (fun i _ => (intOf i + 1).toNat)
  case atStart => exact ⟨K, [], Nat.le_refl _, by simp, Lib.hid (by rw [← HK.out, List.drop_length]; rfl), HJ0, HBX, HW⟩
  case round =>
    obtain ⟨j, ys, hj, rfl, YS, JW, BX, BW⟩ := hrel
    clear e0
    have e0 := BX.out.cell
    by_cases hlt : 0 < j
    · obtain ⟨k, rfl⟩ : ∃ k, j = k + 1 := ⟨j - 1, by omega⟩
      have ei : ((k + 1 : Nat) : Int) - 1 = (k : Int) := by omega
      obtain ⟨c, hc⟩ : ∃ c, L[k]? = some c := ⟨_, List.getElem?_eq_getElem (by rw [HK.out]; omega)⟩
      obtain ⟨b, off, pf, cf, pb, cb, rfl, hbb, c0, c1, c2, c3, hcv⟩ := HA.out.cl hc
      have d0 := (World.cell?_of_block (w := w) (a := ⟨b, off + k * 4, none⟩) (BW.out b hbb)).trans c0
      have d1 := (World.cell?_of_block (w := w) (a := ⟨b, off + k * 4 + 1, none⟩) (BW.out b hbb)).trans c1
      have d2 := (World.cell?_of_block (w := w) (a := ⟨b, off + k * 4 + 2, none⟩) (BW.out b hbb)).trans c2
      have d3 := (World.cell?_of_block (w := w) (a := ⟨b, off + k * 4 + 3, none⟩) (BW.out b hbb)).trans c3
      have hlen : ys.length = K - (k + 1) := by
        have := congrArg List.length YS.out
        simp [HK.out] at this
        exact this
      have hy1 := HY.out ys ⟨⟨k, c, pf, cf, pb, cb⟩, hcv, List.mem_of_getElem? hc⟩ wr JW.out (by omega)
      simp only [CnW.enc] at hy1
      have RT := Lib.hid (rev_take hc)
      have HCV := Lib.hid hcv
      have HC := Lib.hid hc
      rw [ei]
      obtain ⟨fn, tmps, assign, body, hy, hR⟩ := hy1
      clear c0 c1 c2 c3 ei
      gi_wp2
      refine hR.mono ?_
      rintro e W5 (⟨rfl, hj5, hk5⟩ | ⟨rfl, hq⟩)
      · have H5 := Lib.hid hj5
        have BX5 : Hid (Boxed W5 eb 38 (.slice (some ⟨b, off, none⟩) K cap)) := Lib.hid ((hk5.blk eb (.inr rfl)).trans BX.out)
        have BW5 : Hid (∀ b, b < n₀ → W5.heap[b]? = w.heap[b]?) := Lib.hid fun b hb => (hk5.blk b (.inl hb)).trans (BW.out b hb)
        clear hj5 hk5 hR
        gi_wp2
        go_roundw
        case rel => exact ⟨k, ys ++ [_], by omega, rfl, Lib.hid (by rw [RT.out, List.map_append, YS.out]; rfl), H5, BX5, BW5⟩
        case measure => simp [intOf]
      · have H5 := Lib.hid hq
        clear hq hR
        gi_wp2
        refine bodyPost_ret (results_none rfl _ _ _) rfl ?_
        exact ⟨⟨_, rfl⟩, .inr ⟨_, by rw [List.map_append, YS.out]; show (L.drop (k + 1)).reverse ++ [c] <+: L.reverse; rw [← RT.out]; exact ⟨(L.take k).reverse, by rw [← List.reverse_append, List.take_append_drop]⟩, H5.out⟩⟩
    · have hj0 : j = 0 := by omega
      have YS2 : Hid (ys.map (·.1.c) = L.reverse) := Lib.hid (by rw [YS.out, hj0]; rfl)
      have ej : (j : Int) - 1 = -1 := by omega
      rw [ej]
      clear ej
      gi_wp2
      go_end0
      exact ⟨⟨_, rfl⟩, .inl ⟨ys, YS2.out, JW.out⟩⟩
end Go.Proofs.YtoigjeoncdfdmaaGreatDoor.ClW
