/-
  What List of package pack returns; slices of texts.
-/
import Derived.Test.YtpfnameeoadbkaaDoorPackJoin
namespace Go.Proofs.YtpfnameeoadbkaaDoor.PackW
open Go Go.RowKit Go.Proofs.YtpfnameeoadbkaaDoor.NumM Go.Proofs.YtpfnameeoadbkaaDoor.PackM

theorem ownsRow_later {w w' : World} {B : Nat} {e : TypeId} {size : Nat} {v : Value} {n : Nat} {xs : List Value} (h : w.ownsRow B e size v n xs) (hb : Below w.heap.size w w') : w'.ownsRow B e size v n xs := by
  obtain ⟨hl, h | ⟨g, cap, cur, hv, hB, hg, h1, h2, h3, h4⟩⟩ := h
  · exact ⟨hl, .inl h⟩
  · exact ⟨hl, .inr ⟨g, cap, cur, hv, hB, (hb.block g (Array.getElem?_eq_some_iff.1 hg).1).trans hg, h1, h2, h3, h4⟩⟩
theorem ownsRow_shape {w : World} {B : Nat} {e : TypeId} {size : Nat} {v : Value} {n : Nat} {xs : List Value} (h : w.ownsRow B e size v n xs) (hn : 0 < n) : ∃ g cap, v = .slice (some ⟨g, 0, none⟩) n cap ∧ B ≤ g := by
  obtain ⟨_, ⟨_, h0⟩ | ⟨g, cap, _, hv, hB, _⟩⟩ := h
  · omega
  · exact ⟨g, cap, hv, hB⟩
theorem own_block {w : World} {B : Nat} {e : TypeId} {size : Nat} {v : Value} {n : Nat} {xs : List Value} (h : w.ownsRow B e size v n xs) : ∀ k, v.ownBlock = some k → B ≤ k := by
  obtain ⟨_, ⟨hv, _⟩ | ⟨g, cap, _, hv, hB, _⟩⟩ := h
  · intro k hk; rw [hv] at hk; cases hk
  · intro k hk; rw [hv] at hk; cases hk; exact hB
def formsK (ys : List (List UInt8)) (k : Nat) : List (List UInt8) := numP ys.length :: (ys.take k).map textP
theorem formsK_len {ys : List (List UInt8)} {k : Nat} (h : k ≤ ys.length) : (formsK ys k).length = k + 1 := by
  unfold formsK
  rw [List.length_cons, List.length_map, List.length_take]; omega
theorem formsK_next {ys : List (List UInt8)} {k : Nat} (h : k < ys.length) : formsK ys (k + 1) = formsK ys k ++ [textP ys[k]] := by
  unfold formsK
  rw [List.take_succ_eq_append_getElem h, List.map_append]; rfl
theorem formsK_all (ys : List (List UInt8)) : (formsK ys ys.length).flatten = listP ys := by
  unfold formsK listP
  rw [List.take_length, List.flatten_cons]

set_option maxHeartbeats 1000000 in
theorem list_any (w : World) (v : Value) (ys : List (List UInt8)) (hv : StrsAt w v ys) (hsz : ∀ y ∈ ys, y.length ≤ 140737488351232) (hn : ys.length ≤ 1000000) (hl : (listP ys).length ≤ 281474976710656) (ht : Tab w) :
    Calls Tryd.prog 15 #[v] w fun e w' => e = .returned (.string (bs (listP ys))) ∧ Below w.heap.size w w' := by
  obtain ⟨a, cap, rfl, _, hcell⟩ := hv.is
  obtain ⟨N, hN⟩ : ∃ N, ys.length = N := ⟨_, rfl⟩
  obtain ⟨i0, hi, hz0, hz1, hz2⟩ := info_parts infoStr
  have HS := Lib.hid hsz
  have HL := Lib.hid hl
  have HT := Lib.hid ht
  have HC := Lib.hid hcell
  have HN := Lib.hid hN
  have NP : Hid (formsK ys 0 = [numP N]) := Lib.hid (by unfold formsK; rw [hN]; rfl)
  rw [hN] at hn
  rw [hN]
  clear hsz hl ht hcell hN
  go_enter Tryd.func15, Tryd.ntmps15
  go_wp2_with (first | (go_at_call 13; refine (number_any (N : Int) _ (by omega) (by omega) HT.out).mono ?_; rintro e w1 ⟨rfl, hb1⟩) | go_in)
  have HB1 := Lib.hid hb1
  clear hb1
  go_loopw [3, 12] (fun u i wr => ∃ k : Nat, k ≤ N ∧ i = .int .i64 k ∧ wr.ownsRow w.heap.size 9 1 u (k + 1) ((formsK ys k).map strV) ∧ Below w.heap.size w wr) (fun _ i _ => N - (intOf i).toNat)
  case atStart => exact ⟨0, Nat.zero_le _, rfl, by rw [NP.out]; exact owns_lit w1 w.heap.size (numP N) HB1.out.size, HB1.out.alloc HB1.out.size _⟩
  case round =>
    obtain ⟨k, hk, rfl, hown, hbel⟩ := hrel
    have HO := Lib.hid hown
    have HB := Lib.hid hbel
    clear hown hbel
    by_cases hlt : k < N
    · obtain ⟨b, off, rfl, hb, hcs⟩ := HC.out (by intro x; have := HN.out; rw [x] at this; simp at this; omega)
      have hk2 : k < ys.length := by rw [HN.out]; exact hlt
      have hcx := (HB.out.cell (p := ⟨b, off + k, none⟩) hb).trans (hcs k hk2)
      have NX := Lib.hid (formsK_next hk2)
      have hy := HS.out ys[k] (List.getElem_mem hk2)
      obtain ⟨y, ey⟩ : ∃ y, ys[k] = y := ⟨_, rfl⟩
      rw [ey] at hcx NX hy
      have hy2 : (bs y).size ≤ 140737488351232 := by rw [← len_data]; exact hy
      have HT2 := Lib.hid (HT.out.later HB.out)
      clear ey hcs hy
      go_wp2_with (first
        | (go_at_call 11; refine (text_any (bs y) _ hy2 HT2.out).mono ?_; rintro e w2 ⟨rfl, hb2⟩)
        | (at_builtin; refine wpList_append_own _ rfl _ _ 22 rfl w.heap.size 9 i0 (.string ⟨#[]⟩) 1 16 Tryd.underlying22 hi hz0 hz1 hz2 rfl (by decide) _ (k + 1) _ rfl ((ownsRow_later HO.out (by assumption)).alloc _) ⟨w2.heap.size, 0, none⟩ 1 1 [strV (textP y)] rfl rfl ?c1 ?c2 ?c3 ?c4 ?c5 ?_)
        | go_in)
      case c1 =>
        intro j u hj
        match j, hj with
        | 0, hj =>
          simp at hj
          subst hj
          exact alloc_cell _ _ _ _ _ rfl
      case c2 => intro u hu; simp at hu; subst hu; rfl
      case c3 => unfold maxLen; omega
      case c4 => omega
      case c5 => have := HB.out.size; have := hb2.size; rw [alloc_size]; omega
      intro v' w3 hown' hgrow _
      have HO' := Lib.hid hown'
      have HG := Lib.hid hgrow
      have HB2 := Lib.hid hb2
      clear hown' hgrow hb2
      go_wp2
      go_roundw
      case rel => exact ⟨k + 1, by omega, by go_num, by rw [NX.out, List.map_append]; exact HO'.out, ((HB.out.trans (HB2.out.mono HB.out.size)).alloc (Nat.le_trans HB.out.size HB2.out.size) _).grown HG.out (by rw [alloc_size]; have := HB.out.size; have := HB2.out.size; omega) (own_block HO.out)⟩
      case measure => simp [intOf]; omega
    · obtain rfl : N = k := by omega
      obtain ⟨g, cp, rfl, hg⟩ := ownsRow_shape HO.out (by omega)
      have hlen : (formsK ys N).length = N + 1 := formsK_len (by rw [HN.out]; exact Nat.le_refl _)
      have hs : StrsAt wr (.slice (some ⟨g, 0, none⟩) (N + 1) cp) (formsK ys N) := StrsAt.ofOwn (B := w.heap.size) (by rw [hlen]; exact HO.out)
      have hj : Calls Tryd.prog 25 #[.slice (some ⟨g, 0, none⟩) (N + 1) cp] wr fun e w' => e = .returned (.string (bs (listP ys))) ∧ Below wr.heap.size wr w' := by
        obtain ⟨a', c', e1, _, e2⟩ := hs.is
        obtain ⟨b', o', e3, e4, e5⟩ := e2 (by intro x; rw [x] at hlen; simp at hlen)
        rw [e3] at e1
        injection e1 with x1 x2 x3
        injection x1 with x4
        injection x4 with x5 x6
        subst x5
        subst x6
        have ef : (formsK ys N).flatten = listP ys := by rw [← HN.out]; exact formsK_all ys
        have h := joined_list wr g 0 cp (formsK ys N) e5 e4 (by omega) (by rw [ef]; exact HL.out)
        rw [hlen, ef] at h
        exact h
      have HJ := Lib.hid hj
      clear hj hs hlen
      go_wp2_with (first | (go_at_call 25; refine HJ.out.mono ?_; rintro e w2 ⟨rfl, hb2⟩) | go_in)
      go_ret
      exact ⟨rfl, HB.out.trans (hb2.mono HB.out.size)⟩
end Go.Proofs.YtpfnameeoadbkaaDoor.PackW
