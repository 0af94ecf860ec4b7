/-
  Sealed texts open, only sealed texts do, and a sealed text with one changed byte does not.
-/
import Derived.Test.YtejmhhijmglopaaHashOpen
namespace Go.Proofs.Ytejmhhijmglopaa.HashW
open Go Go.RowKit Go.Proofs.Ytejmhhijmglopaa.HashM

theorem ext_data (s : ByteArray) (a e : Nat) : (s.extract a e).data.toList = (s.data.toList.drop a).take (e - a) := by
  simp [ByteArray.data_extract, Array.toList_extract]
theorem tl_eq (s : ByteArray) : tl s = s.data.toList.drop (s.size - 9 + 1) := by
  unfold tl
  rw [ext_data, List.take_of_length_le]
  rw [List.length_drop, len_data]; omega
theorem hd_eq (s : ByteArray) : (hd s).data.toList = s.data.toList.take (s.size - 9) := by
  unfold hd
  rw [ext_data, List.drop_zero, Nat.sub_zero]
theorem sealL_len (l : List UInt8) : (sealL l).length = l.length + 9 := by
  unfold sealL
  rw [List.length_append, List.length_cons, sfx_len]
theorem vl_crc (c : UInt32) : vl (sfx c.toNat 8) = c.toNat := by
  rw [vl_sfx]
  have := UInt32.toNat_lt c
  omega
theorem pv_crc (c : UInt32) : pv (sfx c.toNat 8) = V32 c := by
  rw [← pv_ok (sfx_ok _ _)]
  unfold W V32
  rw [vl_crc]
  have := UInt32.toNat_lt c
  omega
theorem seal_opens (l : List UInt8) : opE (bs (sealL l)) = 0 ∧ opS (bs (sealL l)) = bs l := by
  have hs : (bs (sealL l)).size = l.length + 9 := by rw [bs_size, sealL_len]
  have ht : tl (bs (sealL l)) = sfx (crcL l).toNat 8 := by
    rw [tl_eq, hs, data_bs]
    unfold sealL
    rw [show l.length + 9 - 9 + 1 = l.length + 1 by omega, ← List.drop_drop, List.drop_left]
    rfl
  have hh : (hd (bs (sealL l))).data.toList = l := by
    rw [hd_eq, hs, data_bs]
    unfold sealL
    rw [show l.length + 9 - 9 = l.length by omega, List.take_left]
  have hm : (bs (sealL l)).data.toList[(bs (sealL l)).size - 9]? = some 35 := by
    rw [hs, data_bs]
    unfold sealL
    rw [show l.length + 9 - 9 = l.length by omega, List.getElem?_append_right (by omega), Nat.sub_self]
    rfl
  have e : opE (bs (sealL l)) = 0 := by
    unfold opE
    rw [if_neg (by omega), hm, ht, hh, if_pos ⟨rfl, sfx_ok _ _⟩, pv_crc, if_pos rfl]
  refine ⟨e, ?_⟩
  rw [← opS_ok e]
  exact bs_inj hh
theorem open_seals (s : ByteArray) (h : opE s = 0) : bs (sealL (opS s).data.toList) = s ∧ (opS s).data.toList = s.data.toList.take (s.size - 9) ∧ 9 ≤ s.size := by
  have h9 : 9 ≤ s.size := by
    apply Nat.le_of_not_lt
    intro g
    rw [op_short g] at h
    cases h
  rw [← opS_ok h]
  refine ⟨?_, hd_eq s, h9⟩
  unfold opE at h
  rw [if_neg (by omega)] at h
  split at h
  · rename_i g
    split at h
    · rename_i v
      have ht := tl_eq s
      have hlen : (tl s).length = 8 := by rw [ht, List.length_drop, len_data]; omega
      have hlt := vl_lt _ g.2
      rw [hlen] at hlt
      rw [← pv_ok g.2] at v
      have hv : (crcL (hd s).data.toList).toNat = vl (tl s) := by
        unfold W V32 at v
        omega
      have hs := sfx_vl _ g.2
      rw [hlen] at hs
      apply bs_inj
      rw [data_bs]
      unfold sealL
      rw [hv, hs, hd_eq, ht]
      have hk : s.size - 9 < s.data.toList.length := by rw [len_data]; omega
      have h35 : s.data.toList[s.size - 9] = 35 := by
        have := g.1
        rw [List.getElem?_eq_getElem hk] at this
        exact Option.some.inj this
      have e := List.drop_eq_getElem_cons hk
      rw [h35] at e
      rw [← e]
      exact List.take_append_drop _ _
    · cases h
  · cases h
theorem set_split {l : List UInt8} {i : Nat} {y : UInt8} (h : i < l.length) : l.set i y = l.take i ++ y :: l.drop (i + 1) := List.set_eq_take_append_cons_drop.trans (if_pos h)
theorem self_split {l : List UInt8} {i : Nat} (h : i < l.length) : l = l.take i ++ l[i] :: l.drop (i + 1) := by
  rw [← List.drop_eq_getElem_cons h, List.take_append_drop]
/-- One changed byte. -/
theorem changed (l : List UInt8) (i : Nat) (y : UInt8) (hi : i < (sealL l).length) (hy : ¬ y = (sealL l)[i]) : ¬ opE (bs ((sealL l).set i y)) = 0 := by
  intro h
  obtain ⟨e1, e2, _⟩ := open_seals _ h
  have hs : (bs ((sealL l).set i y)).size - 9 = l.length := by rw [bs_size, List.length_set, sealL_len]; omega
  rw [hs, data_bs] at e2
  have e3 : sealL (opS (bs ((sealL l).set i y))).data.toList = (sealL l).set i y := congrArg (fun b : ByteArray => b.data.toList) e1
  rw [e2] at e3
  by_cases hl : i < l.length
  · have f : (sealL l).set i y = l.set i y ++ 35 :: sfx (crcL l).toNat 8 := by
      unfold sealL
      rw [List.set_append_left _ _ hl]
    have f2 : ((sealL l).set i y).take l.length = l.set i y := by
      rw [f, show l.length = (l.set i y).length by rw [List.length_set], List.take_left]
    rw [f2, f] at e3
    unfold sealL at e3
    have e4 := List.append_cancel_left e3
    have e5 := (List.cons.inj e4).2
    have e6 := congrArg vl e5
    rw [vl_crc, vl_crc] at e6
    have e7 := UInt32.toNat_inj.1 e6
    have g : crcL (l.set i y) = crcL (l.take i ++ y :: l.drop (i + 1)) := by rw [set_split hl]
    have g2 : crcL l = crcL (l.take i ++ l[i] :: l.drop (i + 1)) := by rw [← self_split hl]
    rw [g, g2] at e7
    have := crc_change e7
    apply hy
    have q : (sealL l)[i]? = some l[i] := by
      unfold sealL
      rw [List.getElem?_append_left hl, List.getElem?_eq_getElem hl]
    rw [List.getElem?_eq_getElem hi] at q
    rw [this]
    exact (Option.some.inj q).symm
  · have f2 : ((sealL l).set i y).take l.length = l := by
      rw [List.take_set_of_le (by omega)]
      unfold sealL
      rw [List.take_left]
    rw [f2] at e3
    have e4 := congrArg (fun m : List UInt8 => m[i]?) e3
    simp only [List.getElem?_set_self hi, List.getElem?_eq_getElem hi] at e4
    exact hy (Option.some.inj e4).symm
end Go.Proofs.Ytejmhhijmglopaa.HashW
