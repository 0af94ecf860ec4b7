/-
  What the reference's 'size', 'plus' and 'minus' return.
-/
import Derived.Test.YtjighmmfaedgbaaDoorRatOrd
import Derived.Laws.AppendOwn
namespace Go.Proofs.YtjighmmfaedgbaaDoor.RatW
open Go Go.RowKit Go.Proofs.YtjighmmfaedgbaaDoor.RatM

/-- A number of any size is returned, in new memory or old. -/
def tBig (w : World) (n : Nat) (e : Ending) (w' : World) : Prop := ∃ v, e = .returned v ∧ Bg w' w'.heap.size v n ∧ Below w.heap.size w w'
theorem ownsRow_later {w w' : World} {base : Nat} {e : TypeId} {size n : Nat} {v : Value} {xs : List Value} (h : w.ownsRow base e size v n xs) (hb : Below w.heap.size w w') : w'.ownsRow base e size v n xs := by
  obtain ⟨hl, h2⟩ := h
  refine ⟨hl, ?_⟩
  rcases h2 with h2 | ⟨g, cap, cur, hv, hg, hh, r⟩
  · exact .inl h2
  · obtain ⟨hlt, _⟩ := Array.getElem?_eq_some_iff.1 hh
    exact .inr ⟨g, cap, cur, hv, hg, by rw [hb.block g hlt]; exact hh, r⟩
theorem news_one {w : World} {d : Nat} : ∀ j u, [dv d][j]? = some u → (w.alloc (.cells #[dv d] 3)).cell? ((⟨w.heap.size, 0, none⟩ : Addr).add j) = some u := by
  intro j u hu
  match j, hu with
  | 0, hu =>
    simp at hu
    subst hu
    exact alloc_cell _ _ _ _ _ rfl
theorem one_cell {d : Nat} : ∀ u ∈ [dv d], u.oneCell' = true := by intro u hu; simp at hu; subst hu; rfl
theorem own_block_ge {w : World} {base : Nat} {e : TypeId} {size n : Nat} {v : Value} {xs : List Value} (h : w.ownsRow base e size v n xs) : ∀ k, v.ownBlock = some k → base ≤ k := by
  intro k hk
  rcases h.2 with ⟨rfl, _⟩ | ⟨g, cap, cur, rfl, hg, _⟩
  · simp [Value.ownBlock] at hk
  · have : g = k := by simpa [Value.ownBlock] using hk
    omega

/-! ### size -/
theorem digs_cons {m : Nat} (h : 0 < m) : digs m = m % 10000 :: digs (m / 10000) := digs_pos h
theorem size_next {N m : Nat} {l : List Nat} (h : digs N = l ++ digs m) (hm : 0 < m) : digs N = (l ++ [m % 10000]) ++ digs (m / 10000) := by
  rw [h, digs_pos hm, List.append_assoc]; rfl
theorem size_end {N : Nat} {l : List Nat} (h : digs N = l ++ digs 0) : digs N = l := by rw [h, digs_zero, List.append_nil]
theorem size_len {N m k : Nat} {l : List Nat} (h : digs N = l ++ digs m) (hk : l.length = k) (hN : (digs N).length ≤ 100) : k ≤ 100 := by
  have := congrArg List.length h
  rw [List.length_append] at this; omega
theorem neg_mod (m : Nat) : (-(m : Int)).tmod 10000 = -((m % 10000 : Nat) : Int) := by rw [Int.neg_tmod, Int.tmod_eq_emod_of_nonneg (by omega)]; omega
theorem neg_div (m : Nat) : (-(m : Int)).tdiv 10000 = -((m / 10000 : Nat) : Int) := by rw [Int.neg_tdiv, Int.tdiv_eq_ediv_of_nonneg (by omega)]; omega
set_option maxRecDepth 100000 in
set_option maxHeartbeats 1000000 in
/-- The size of a number that is not negative. -/
theorem sizePos_any (N : Nat) (w : World) (h1 : (N : Int) ≤ 9223372036854775807) (hN : (digs N).length ≤ 100) :
    Calls Tryd.prog 38 #[.int .i64 N] w (tBig w N) := by
  obtain ⟨i0, hi, hz0, hz1, hz2⟩ := info_parts infoInt
  go_enter Tryd.func38, Tryd.ntmps38
  go_wp2
  go_loopw [0, 3, 4] (fun x v d wr => ∃ (m k : Nat) (l : List Nat), x = .int .i64 m ∧ (m : Int) ≤ 9223372036854775807 ∧ l.length = k ∧ digs N = l ++ digs m ∧ wr.ownsRow w.heap.size 3 1 v k (l.map dv) ∧ Below w.heap.size w wr) (fun x _ _ _ => (intOf x).toNat)
  case atStart => exact ⟨N, 0, [], rfl, h1, rfl, rfl, World.ownsRow_nil _ _ _ _, Below.refl _ _⟩
  case round =>
    obtain ⟨m, k, l, rfl, hm, hk, hd, hown, hbel⟩ := hrel
    have HO := Lib.hid hown
    have HB := Lib.hid hbel
    have HD := Lib.hid hd
    have HK := Lib.hid hk
    have hk2 := size_len hd hk hN
    clear hown hbel hd hk
    by_cases h0 : m = 0
    · subst h0
      go_wp2
      go_ret
      exact ⟨_, rfl, by rw [Bg, size_end HD.out]; exact Rd.of_own HO.out _ (Nat.le_refl _), HB.out⟩
    · have h0' : ((m : Int) != 0) = true := by simpa using h0
      have HD1 := Lib.hid (size_next HD.out (by omega))
      go_wp2_with (at_builtin; refine wpList_append_own _ rfl _ _ 50 rfl w.heap.size 3 i0 (.int .i64 0) 1 8 Tryd.underlying50 hi hz0 hz1 hz2 rfl (by decide) _ k _ rfl (HO.out.alloc _) ⟨wr.heap.size, 0, none⟩ 1 1 [dv (m % 10000)] rfl rfl ?c1 ?c2 ?c3 ?c4 ?c5 ?_)
      case c1 => exact news_one
      case c2 => exact one_cell
      case c3 => unfold maxLen; omega
      case c4 => omega
      case c5 => have := HB.out.size; rw [alloc_size]; omega
      intro v' w3 hown' hgrow _
      have HO' := Lib.hid hown'
      have HG := Lib.hid hgrow
      clear hown' hgrow
      go_wp2
      go_roundw
      case rel => exact ⟨m / 10000, k + 1, l ++ [m % 10000], by go_num, by omega, by rw [List.length_append, HK.out]; rfl, HD1.out, by rw [List.map_append]; exact HO'.out, ((HB.out.alloc HB.out.size _).grown HG.out (by rw [alloc_size]; have := HB.out.size; omega) (own_block_ge HO.out))⟩
      case measure => simp [intOf]; omega
set_option maxRecDepth 100000 in
set_option maxHeartbeats 1000000 in
/-- The size of a number that is negative. -/
theorem sizeNeg_any (N : Nat) (w : World) (h1 : (N : Int) ≤ 9223372036854775808) (hN : (digs N).length ≤ 100) :
    Calls Tryd.prog 38 #[.int .i64 (-(N : Int))] w (tBig w N) := by
  obtain ⟨i0, hi, hz0, hz1, hz2⟩ := info_parts infoInt
  go_enter Tryd.func38, Tryd.ntmps38
  go_wp2
  go_loopw [0, 3, 4] (fun x v d wr => ∃ (m k : Nat) (l : List Nat), x = .int .i64 (-(m : Int)) ∧ (m : Int) ≤ 9223372036854775808 ∧ l.length = k ∧ digs N = l ++ digs m ∧ wr.ownsRow w.heap.size 3 1 v k (l.map dv) ∧ Below w.heap.size w wr) (fun x _ _ _ => (-intOf x).toNat)
  case atStart => exact ⟨N, 0, [], rfl, h1, rfl, rfl, World.ownsRow_nil _ _ _ _, Below.refl _ _⟩
  case round =>
    obtain ⟨m, k, l, rfl, hm, hk, hd, hown, hbel⟩ := hrel
    have HO := Lib.hid hown
    have HB := Lib.hid hbel
    have HD := Lib.hid hd
    have HK := Lib.hid hk
    have hk2 := size_len hd hk hN
    clear hown hbel hd hk
    by_cases h0 : m = 0
    · subst h0
      go_wp2
      go_ret
      exact ⟨_, rfl, by rw [Bg, size_end HD.out]; exact Rd.of_own HO.out _ (Nat.le_refl _), HB.out⟩
    · have h0' : ((-(m : Int)) != 0) = true := by simpa using h0
      have HD1 := Lib.hid (size_next HD.out (by omega))
      have e1 := neg_mod m
      have e2 := neg_div m
      have e3 : IntKind.i64.wrap (-((m / 10000 : Nat) : Int)) = -((m / 10000 : Nat) : Int) := IntWalk.i64_in _ (by omega)
      have hpos : 0 < m := by omega
      by_cases hd0 : m % 10000 = 0
      · rw [hd0] at HD1
        have e1' : (-(m : Int)).tmod 10000 = 0 := by rw [e1, hd0]; rfl
        clear e1 h0 hd0
        go_wp2_with (at_builtin; refine wpList_append_own _ rfl _ _ 50 rfl w.heap.size 3 i0 (.int .i64 0) 1 8 Tryd.underlying50 hi hz0 hz1 hz2 rfl (by decide) _ k _ rfl (HO.out.alloc _) ⟨wr.heap.size, 0, none⟩ 1 1 [dv 0] rfl rfl ?c1 ?c2 ?c3 ?c4 ?c5 ?_)
        case c1 => exact news_one
        case c2 => exact one_cell
        case c3 => unfold maxLen; omega
        case c4 => omega
        case c5 => have := HB.out.size; rw [alloc_size]; omega
        intro v' w3 hown' hgrow _
        have HO' := Lib.hid hown'
        have HG := Lib.hid hgrow
        clear hown' hgrow
        go_wp2
        go_roundw
        case rel => exact ⟨m / 10000, k + 1, l ++ [0], by go_num, by omega, by rw [List.length_append, HK.out]; rfl, HD1.out, by rw [List.map_append]; exact HO'.out, ((HB.out.alloc HB.out.size _).grown HG.out (by rw [alloc_size]; have := HB.out.size; omega) (own_block_ge HO.out))⟩
        case measure => simp [intOf]; omega
      · have t1 : (0 : Int) < (m : Int) % 10000 := by omega
        have e4 : (0 : Int) - -((m % 10000 : Nat) : Int) = ((m % 10000 : Nat) : Int) := by omega
        clear h0 hd0
        go_wp2_with (at_builtin; refine wpList_append_own _ rfl _ _ 50 rfl w.heap.size 3 i0 (.int .i64 0) 1 8 Tryd.underlying50 hi hz0 hz1 hz2 rfl (by decide) _ k _ rfl (HO.out.alloc _) ⟨wr.heap.size, 0, none⟩ 1 1 [dv (m % 10000)] rfl rfl ?c1 ?c2 ?c3 ?c4 ?c5 ?_)
        case c1 => exact news_one
        case c2 => exact one_cell
        case c3 => unfold maxLen; omega
        case c4 => omega
        case c5 => have := HB.out.size; rw [alloc_size]; omega
        intro v' w3 hown' hgrow _
        have HO' := Lib.hid hown'
        have HG := Lib.hid hgrow
        clear hown' hgrow
        go_wp2
        go_roundw
        case rel => exact ⟨m / 10000, k + 1, l ++ [(m % 10000)], by go_num, by omega, by rw [List.length_append, HK.out]; rfl, HD1.out, by rw [List.map_append]; exact HO'.out, ((HB.out.alloc HB.out.size _).grown HG.out (by rw [alloc_size]; have := HB.out.size; omega) (own_block_ge HO.out))⟩
        case measure => simp [intOf]; omega
end Go.Proofs.YtjighmmfaedgbaaDoor.RatW
