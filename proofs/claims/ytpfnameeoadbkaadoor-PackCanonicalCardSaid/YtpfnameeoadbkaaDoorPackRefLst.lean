/-
  What the reference's List returns; Same, and cut.
-/
import Derived.Test.YtpfnameeoadbkaaDoorPackRefForm
namespace Go.Proofs.YtpfnameeoadbkaaDoor.PackW
open Go Go.RowKit Go.Proofs.YtpfnameeoadbkaaDoor.NumM Go.Proofs.YtpfnameeoadbkaaDoor.PackM

theorem formsK_le {ys : List (List UInt8)} (k : Nat) : (formsK ys k).flatten.length ≤ (listP ys).length := by
  unfold formsK listP
  rw [List.flatten_cons, List.length_append, List.length_append]
  have e : (ys.map textP).flatten = ((ys.take k).map textP).flatten ++ ((ys.drop k).map textP).flatten := by
    rw [← List.flatten_append, ← List.map_append, List.take_append_drop]
  rw [e, List.length_append]; omega

set_option maxHeartbeats 1000000 in
theorem refList_any (w : World) (v : Value) (ys : List (List UInt8)) (hv : StrsAt w v ys) (hsz : ∀ y ∈ ys, y.length ≤ 140737488351232) (hn : ys.length ≤ 1000000) (hl : (listP ys).length ≤ 281474976710656) :
    Calls Tryd.prog 16 #[v] w fun e w' => e = .returned (.string (bs (listP ys))) ∧ Below w.heap.size w w' := by
  obtain ⟨a, cap, rfl, _, hcell⟩ := hv.is
  obtain ⟨N, hN⟩ : ∃ N, ys.length = N := ⟨_, rfl⟩
  have HS := Lib.hid hsz
  have HL := Lib.hid hl
  have HC := Lib.hid hcell
  have HN := Lib.hid hN
  have NP : Hid ((formsK ys 0).flatten = numP N) := Lib.hid (by unfold formsK; rw [hN]; simp)
  rw [hN] at hn
  rw [hN]
  clear hsz hl hcell hN
  go_enter Tryd.func16, Tryd.ntmps16
  go_wp2_with (first | (go_at_call 14; refine (refNumber_any (N : Int) _ (by omega) (by omega)).mono ?_; rintro e w1 ⟨rfl, hb1⟩) | go_in)
  have HB1 := Lib.hid hb1
  clear hb1
  go_loopw [3, 4] (fun u i wr => ∃ k : Nat, k ≤ N ∧ i = .int .i64 k ∧ u = .string (bs (formsK ys k).flatten) ∧ Below w.heap.size w wr) (fun _ i _ => N - (intOf i).toNat)
  case atStart => exact ⟨0, Nat.zero_le _, rfl, by rw [NP.out], HB1.out⟩
  case round =>
    obtain ⟨k, hk, rfl, rfl, hbel⟩ := hrel
    have HB := Lib.hid hbel
    clear hbel
    by_cases hlt : k < N
    · obtain ⟨b, off, rfl, hb, hcs⟩ := HC.out (by intro x; have := HN.out; rw [x] at this; simp at this; omega)
      have hk2 : k < ys.length := by rw [HN.out]; exact hlt
      have hcx := (HB.out.cell (p := ⟨b, off + k, none⟩) hb).trans (hcs k hk2)
      have nx : (formsK ys (k + 1)).flatten = (formsK ys k).flatten ++ textP ys[k] := by rw [formsK_next hk2, List.flatten_append]; simp
      have hb1 : (formsK ys k).flatten.length + (textP ys[k]).length ≤ 281474976710656 := by
        have := formsK_le (ys := ys) (k + 1)
        rw [nx, List.length_append] at this
        have := HL.out
        omega
      have hy := HS.out ys[k] (List.getElem_mem hk2)
      obtain ⟨y, ey⟩ : ∃ y, ys[k] = y := ⟨_, rfl⟩
      rw [ey] at hcx nx hy hb1
      obtain ⟨O, eO⟩ : ∃ O, (formsK ys k).flatten = O := ⟨_, rfl⟩
      rw [eO] at nx hb1
      rw [eO]
      have NX := Lib.hid nx
      have hy2 : (bs y).size ≤ 140737488351232 := by rw [← len_data]; exact hy
      have hb2 : (bs O).size + (bs (textP y)).size ≤ 281474976710656 := by rw [← len_data, ← len_data]; exact hb1
      have hO : (bs O).size ≤ 281474976710656 := by omega
      have hO2 : O.length ≤ 281474976710656 := by omega
      have FJ : Hid (bs O ++ bs (textP y) = bs (O ++ textP y)) := Lib.hid (bs_inj (by simp))
      clear ey hcs hy eO nx
      go_wp2_with (first
        | (go_at_call 12; refine (refText_any (bs y) _ hy2).mono ?_; rintro e w2 ⟨rfl, hb2⟩)
        | go_in)
      go_roundw
      case rel => exact ⟨k + 1, by omega, by go_num, by rw [NX.out]; exact congrArg Value.string FJ.out, HB.out.trans ((by assumption : Below wr.heap.size wr w2).mono HB.out.size)⟩
      case measure => simp [intOf]; omega
    · obtain rfl : N = k := by omega
      have FE : Hid ((formsK ys N).flatten = listP ys) := Lib.hid (by rw [← HN.out]; exact formsK_all ys)
      go_wp2
      go_ret
      exact ⟨rets1 (by rw [FE.out]), HB.out⟩
set_option maxHeartbeats 400000 in
theorem same_any (w : World) (u v : Value) (ys : List (List UInt8)) (hu : StrsAt w u ys) (hv : StrsAt w v ys) (hn : ys.length ≤ 140737488351232) :
    Calls Tryd.prog 24 #[u, v] w fun e w' => e = .returned (.bool true) ∧ Below w.heap.size w w' := by
  obtain ⟨a, ca, rfl, _, hca⟩ := hu.is
  obtain ⟨c, cc, rfl, _, hcc⟩ := hv.is
  obtain ⟨N, hN⟩ : ∃ N, ys.length = N := ⟨_, rfl⟩
  have HA := Lib.hid hca
  have HC := Lib.hid hcc
  have HN := Lib.hid hN
  rw [hN] at hn
  rw [hN]
  clear hca hcc hN
  go_enter Tryd.func24, Tryd.ntmps24
  go_wp2
  go_loopw [5] (fun i wr => ∃ k : Nat, k ≤ N ∧ i = .int .i64 k ∧ Below w.heap.size w wr) (fun i _ => N - (intOf i).toNat)
  case atStart => exact ⟨0, Nat.zero_le _, rfl, Below.refl _ _⟩
  case round =>
    obtain ⟨k, hk, rfl, hbel⟩ := hrel
    have HB := Lib.hid hbel
    clear hbel
    by_cases hlt : k < N
    · have hne : ys ≠ [] := by intro x; have := HN.out; rw [x] at this; simp at this; omega
      obtain ⟨b, off, rfl, hb, hcs⟩ := HA.out hne
      obtain ⟨b2, off2, rfl, hb2, hcs2⟩ := HC.out hne
      have hk2 : k < ys.length := by rw [HN.out]; exact hlt
      have c1 := (HB.out.cell (p := ⟨b, off + k, none⟩) hb).trans (hcs k hk2)
      have c2 := (HB.out.cell (p := ⟨b2, off2 + k, none⟩) hb2).trans (hcs2 k hk2)
      obtain ⟨y, ey⟩ : ∃ y, bs ys[k] = y := ⟨_, rfl⟩
      rw [ey] at c1 c2
      clear ey hcs hcs2
      go_wp2
      go_quiet (fail)
      go_wp2
      go_roundw
      case rel => exact ⟨k + 1, by omega, by go_num, HB.out.trans ((below_drewN _ _).mono HB.out.size)⟩
      case measure => simp [intOf]; omega
    · go_wp2
      go_ret
      exact ⟨rfl, HB.out⟩
set_option maxHeartbeats 400000 in
theorem cut_any (w : World) (v : Value) (ys : List (List UInt8)) (hv : StrsAt w v ys) (hn : ys.length ≤ 140737488351232) :
    Calls Tryd.prog 10 #[v] w fun e w' => ∃ v', e = .returned v' ∧ StrsAt w v' (ys.take 30) ∧ w = w' := by
  obtain ⟨a, ca, rfl, hle, hca⟩ := hv.is
  obtain ⟨N, hN⟩ : ∃ N, ys.length = N := ⟨_, rfl⟩
  have HA := Lib.hid hca
  have HN := Lib.hid hN
  rw [hN] at hn hle
  rw [hN]
  clear hca hN hv
  by_cases h : 30 < N
  · obtain ⟨b, off, rfl, hb, hcs⟩ := HA.out (by intro x; have := HN.out; rw [x] at this; simp at this; omega)
    have HCS := Lib.hid hcs
    clear hcs
    have hlt : (30 : Int) < (N : Int) := by omega
    have hcap : 30 ≤ ca := by omega
    go_enter Tryd.func10, Tryd.ntmps10
    go_wp2
    go_ret
    have hl : (ys.take 30).length = 30 := by rw [List.length_take, HN.out]; omega
    exact ⟨_, rfl, ⟨some ⟨b, off, none⟩, ca, by rw [hl]; rfl, by rw [hl]; exact hcap, fun _ => ⟨b, off, rfl, hb, fun i hi => by rw [HCS.out i (by have := HN.out; omega)]; simp⟩⟩, rfl⟩
  · have hlt : ¬ (30 : Int) < (N : Int) := by omega
    go_enter Tryd.func10, Tryd.ntmps10
    go_wp2
    go_ret
    rw [List.take_of_length_le (by rw [HN.out]; omega)]
    exact ⟨_, rfl, ⟨a, ca, by rw [HN.out]; rfl, by rw [HN.out]; exact hle, HA.out⟩, rfl⟩
end Go.Proofs.YtpfnameeoadbkaaDoor.PackW
