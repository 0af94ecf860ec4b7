/-
  with finds a block of a list whose names differ.
-/
import Derived.Test.YtoigjeoncdfdmaaGreatDoorClSame
namespace Go.Proofs.YtoigjeoncdfdmaaGreatDoor.ClW
open Go Go.RowKit Go.Shelf Go.Proofs.YtoigjeoncdfdmaaGreatDoor.NumM Go.Proofs.YtoigjeoncdfdmaaGreatDoor.LexW Go.Proofs.YtoigjeoncdfdmaaGreatDoor.LexM Go.Proofs.YtoigjeoncdfdmaaGreatDoor.ClM
attribute [local go_sem] Oper.semAt_some

set_option maxRecDepth 100000 in
set_option maxHeartbeats 8000000 in
theorem with_any (l : List Bk) (b : Bk) (p : Option Addr) (cap : Nat) (G : Nat → Nat → Value) (pi : Option Addr) (ci N : Nat) (w : World) (ha : RowA (Lo N) w .blocks p cap G (l.map Bk.lf)) (hit : At (Lo N) w (.r .items) (.slice pi b.it.length ci) (.row .items b.it)) (hN : N ≤ w.heap.size)
    (hm : b ∈ l) (hnd : (l.map Bk.nm).Nodup) : Calls Tryz.prog 28 #[.slice p l.length cap, .agg #[.string b.nm, .slice pi b.it.length ci]] w (tBool true w) := by
  obtain ⟨k, hk⟩ := List.getElem?_of_mem hm
  have HD : Hid (∀ (j : Nat) (a : Bk), j < k → l[j]? = some a → same a.nm b.nm = false) := Lib.hid fun j a hj ha => by
    cases hs : same a.nm b.nm
    · rfl
    · exfalso
      have e := same_iff.1 hs
      have hjl := (List.getElem?_eq_some_iff.1 ha).1
      have := (List.getElem?_inj (by rw [List.length_map]; exact hjl) hnd).1 (show (l.map Bk.nm)[j]? = (l.map Bk.nm)[k]? by rw [List.getElem?_map, List.getElem?_map, ha, hk]; show some a.nm = some b.nm; rw [e])
      omega
  have hkl := (List.getElem?_eq_some_iff.1 hk).1
  have HA := Lib.hid ha
  have HI := Lib.hid hit
  have HKB := Lib.hid hk
  have hl := ha.hl
  rw [List.length_map] at hl
  simp only [byt] at hl
  obtain ⟨K, hK⟩ : ∃ K, l.length = K := ⟨_, rfl⟩
  have HK := Lib.hid hK
  obtain ⟨L, hL⟩ : ∃ L, b.it.length = L := ⟨_, rfl⟩
  have HL := Lib.hid hL
  obtain ⟨W2, hW2⟩ : ∃ W, w.alloc (.cells #[.string b.nm, .slice pi b.it.length ci] 54) = W := ⟨_, rfl⟩
  have HY : Hid (Blk W2 w.heap.size [.string b.nm, .slice pi L ci]) := Lib.hid (by rw [← hW2, hL]; exact Blk.new w _ _)
  have HB2 : Hid (Below w.heap.size w W2) := Lib.hid (by rw [← hW2]; exact ba w _)
  rw [hL] at hW2 ⊢
  have HW2 := Lib.hid hW2
  rw [hK] at hl hkl ⊢
  clear ha hit hm hnd hk hK hL hW2
  go_enter Tryz.func28, Tryz.ntmps28
  go_wp2
  rw [HW2.out]
  go_loopw [5] (fun i wr => ∃ j : Nat, j ≤ k ∧ i = .int .i64 j ∧ Hid (Below W2.heap.size W2 wr)) (fun i _ => k + 1 - (intOf i).toNat)
  case atStart => exact ⟨0, Nat.zero_le _, rfl, Lib.hid (Below.refl _ _)⟩
  case round =>
    obtain ⟨j, hj, rfl, BW⟩ := hrel
    have hjK : j < K := by omega
    have HBr := Lib.hid (HB2.out.then_ BW.out)
    have Y := HY.out.stay BW.out
    obtain ⟨a, hja⟩ : ∃ a, l[j]? = some a := ⟨_, List.getElem?_eq_getElem (by rw [HK.out]; exact hjK)⟩
    obtain ⟨g, off, pa, ca, rfl, hg, c0, c1, _, ia⟩ := (HA.out.under (HBr.out.mono hN)).bk hja
    by_cases hlt : j < k
    · have e1 := same_walk (HD.out j a hlt hja)
      have d0 := Y.c 0 _ rfl
      have d1 := Y.c 1 _ rfl
      clear hja ia Y c1
      go_wp2
      go_quiet (fail)
      go_wp2
      go_roundw
      case rel => exact ⟨j + 1, by omega, by go_num, Lib.hid (drewB BW.out)⟩
      case measure => simp [intOf]; omega
    · obtain rfl : j = k := by omega
      obtain rfl : a = b := Option.some.inj (hja.symm.trans HKB.out)
      have X1 := reB (v := .bool true) (w := wr) (P := Tryz.prog) (f := 53) (args := #[.slice pa a.it.length ca, .slice pi a.it.length ci]) (fun W hW => sameI_any a.it N W pa pi ca ci (ia.under (hW.mono (Nat.le_trans hN HBr.out.size))) ((HI.out.under (HBr.out.mono hN)).under (hW.mono (Nat.le_trans hN HBr.out.size))) (Nat.le_trans (Nat.le_trans hN HBr.out.size) hW.size))
      have m0 := cell_regrown (Y.c 0 _ rfl)
      have m1 := cell_regrown (Y.c 1 _ rfl)
      have n0 := cell_regrown c0
      have n1 := cell_regrown c1
      rw [HL.out] at X1 n1
      clear hja ia Y c0 c1
      go_wp2
      refine wp_region_quiet_below (by kernel_rfl) (by kernel_rfl) ?_
      repeat (first | go_big_quiet_step ((go_at_call 53; with_reducible exact X1 _ _)) | quiet_step ((go_at_call 53; with_reducible exact X1 _ _)))
      refine wpQuiet_nil ?_
      intro w6 hw'
      obtain ⟨pq, hw''⟩ := hw'
      have HX : Hid (Below wr.heap.size wr w6) := Lib.hid (by rw [hw'']; exact below_regrown _ _ _)
      clear hw'' X1 m0 m1 n0 n1
      go_wp2
      go_ret
      exact ⟨rfl, HBr.out.then_ HX.out⟩
end Go.Proofs.YtoigjeoncdfdmaaGreatDoor.ClW
