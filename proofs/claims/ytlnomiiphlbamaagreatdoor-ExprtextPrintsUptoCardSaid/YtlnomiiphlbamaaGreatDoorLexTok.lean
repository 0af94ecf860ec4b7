/-
  What the lexer's Tokens returns, for every string.
-/
import Derived.Test.YtlnomiiphlbamaaGreatDoorLexPos
import Derived.Deep.DeepMust
import Derived.Maps.AppendAt
import Derived.Laws.MakeOwn
import Derived.Laws.OwnMore
namespace Go.Proofs.YtlnomiiphlbamaaGreatDoor.LexW
open Go Go.RowKit Go.Proofs.YtlnomiiphlbamaaGreatDoor.NumM Go.Proofs.YtlnomiiphlbamaaGreatDoor.LexM

theorem tokens_long (s : ByteArray) (w : World) (h : 16384 < s.size) : Calls Tryz.prog 20 #[.string s] w (tLex w (tokS s.data.toList)) := by
  have E : Hid (tokS s.data.toList = ([], 0, 2)) := Lib.hid (by unfold tokS; rw [if_pos (by rw [len_data]; exact h)])
  go_enter Tryz.func20, Tryz.ntmps20
  go_wp2
  go_ret3
  exact tLex_err E.out (Below.refl _ _)
theorem iterPos_of {w : World} {k : Nat} {s : ByteArray} {p : Nat} (h : w.heap[k]? = some (.stringIter s p)) : w.iterPos k = p := by simp [World.iterPos, h]
/-- What holds of the world at the head of a round: the list so far, the iterator, and all below. -/
structure St (w wr : World) (s : ByteArray) (pos : Nat) (v : Value) (acc : List Tk) : Prop where
  own : wr.ownsRow w.heap.size 41 4 v acc.length (tkCells acc)
  it : wr.heap[w.heap.size]? = some (.stringIter s pos)
  bw : Below w.heap.size w wr
section
variable {w wr wr' : World} {s : ByteArray} {pos : Nat} {v : Value} {acc : List Tk}
theorem St.next (h : St w wr s pos v acc) (p' : Nat) : St w (wr.iterAt w.heap.size s p') s p' v acc :=
  ⟨own_iter h.own h.it p', Lib.iterAt_heap _ _ _ _ _ h.it, Lib.below_iterAt h.bw (Nat.le_refl _) s p'⟩
theorem St.lt (h : St w wr s pos v acc) : w.heap.size < wr.heap.size := (Array.getElem?_eq_some_iff.1 h.it).1
theorem St.later (h : St w wr s pos v acc) (hb : Below wr.heap.size wr wr') : St w wr' s pos v acc :=
  ⟨ownsRow_later h.own hb, (hb.block _ h.lt).trans h.it, h.bw.trans (hb.mono h.bw.size)⟩
theorem St.alloc (h : St w wr s pos v acc) (o : Obj) : St w (wr.alloc o) s pos v acc := h.later ((Below.refl _ _).alloc (Nat.le_refl _) _)
theorem St.grown {v' : Value} {acc' : List Tk} (h : St w wr s pos v acc) (hg : wr.grownBy wr' v.ownBlock) (ho : wr'.ownsRow w.heap.size 41 4 v' acc'.length (tkCells acc')) : St w wr' s pos v' acc' :=
  ⟨ho, (hg.block _ h.lt (own_far h.own h.it)).trans h.it, h.bw.grown hg h.bw.size (own_block h.own)⟩
theorem St.pos_ (h : St w wr s pos v acc) : wr.iterPos w.heap.size = pos := iterPos_of h.it
end
set_option maxRecDepth 100000 in
set_option maxHeartbeats 8000000 in
theorem tokens_short (s : ByteArray) (w : World) (h : s.size ≤ 16384) (ht : Tab w) : Calls Tryz.prog 20 #[.string s] w (tLex w (lex s.data.toList 1 [])) := by
  obtain ⟨i0, hi, hz0, hz1, hz2⟩ := info_parts infoTok
  have HI := Lib.hid hi; have HZ0 := Lib.hid hz0; have HZ1 := Lib.hid hz1; have HZ2 := Lib.hid hz2
  clear hi hz0 hz1 hz2
  have HT := Lib.hid ht
  clear ht
  go_enter Tryz.func20, Tryz.ntmps20
  go_wp2
  go_loopw [5, 6, 7] (fun v l e wr => ∃ (pos en ln : Nat) (acc : List Tk), l = .int .i64 ln ∧ e = .int .i64 en ∧ pos ≤ s.size ∧ en ≤ s.size ∧ ln ≤ pos + 1 ∧ acc.length ≤ pos ∧
    Hid (St w wr s pos v acc) ∧ Hid (lex (dr s (max pos en)) ln acc = lex s.data.toList 1 []) ∧ Hid (Cutp s pos en))
    (fun _ _ _ wr => s.size - wr.iterPos w.heap.size)
  case atStart => exact ⟨0, 0, 1, [], rfl, rfl, Nat.zero_le _, Nat.zero_le _, by omega, Nat.le_refl _, Lib.hid ⟨own_nil _ _, World.iter_heap w s 0, below_iter w s 0⟩, Lib.hid rfl, Lib.hid (cut_none _ _ _ (Nat.le_refl _))⟩
  case round =>
    obtain ⟨pos, en, ln, acc, rfl, rfl, hp, hen, hln, hac, ST, LX, CU⟩ := hrel
    by_cases hlt : pos < s.size
    · have hnx : ∀ ty, (Instr.next (.pointer (some ⟨w.heap.size, 0, none⟩)) true ty).run Tryz.prog wr = _ := fun ty => Lib.run_next_any_at wr w.heap.size s pos ty ST.out.it hlt
      obtain ⟨R, hR⟩ : ∃ R, (Utf8.decode s pos).1 = R := ⟨_, rfl⟩
      obtain ⟨K, hK⟩ : ∃ K, (Utf8.decode s pos).2 = K := ⟨_, rfl⟩
      rw [hR, hK] at hnx
      have S2 := Lib.hid (ST.out.next (pos + K))
      have P1 := Lib.hid ST.out.pos_
      obtain ⟨W, hW⟩ : ∃ W, wr.iterAt w.heap.size s (pos + K) = W := ⟨_, rfl⟩
      rw [hW] at hnx S2
      clear hW
      by_cases hpe : pos < en
      · have hc := cut_step hlt hpe CU.out
        rw [hK] at hc
        have LX2 : Hid (lex (dr s (max (pos + K) en)) ln acc = lex s.data.toList 1 []) := Lib.hid (by rw [show max (pos + K) en = max pos en by omega]; exact LX.out)
        have CU2 := Lib.hid hc.2.2
        have hk1 := hc.1
        have hk2 := hc.2.1
        clear hc hR hK CU LX
        go_wp2
        go_roundw
        case rel => exact ⟨pos + K, en, ln, acc, rfl, rfl, by omega, hen, by omega, by omega, S2, LX2, CU2⟩
        case measure => rw [P1.out, S2.out.pos_]; omega
      · have hpe2 : decide (pos < en) = false := by simpa using hpe
        have hmax : max pos en = pos := by omega
        have LX1 := LX.out
        rw [hmax, dr_cons s pos hlt] at LX1
        have DC := Lib.hid (dr_cons s pos hlt)
        have hmx : ∀ q, pos ≤ q → max q en = q := fun q hq => by omega
        have HM := Lib.hid hmx
        clear LX CU hmax hpe hmx
        have asc : s[pos].toNat < 128 → R = s[pos].toNat ∧ K = 1 := fun h7 => by
          rw [decode_ascii s pos hlt h7] at hR hK
          exact ⟨hR.symm, hK.symm⟩
        by_cases b10 : s[pos].toNat = 10
        · obtain ⟨eR, rfl⟩ := asc (by omega)
          have c10 : ((R : Int) == 10) = true := by simp; omega
          have LX2 : Hid (lex (dr s (max (pos + 1) en)) ((ln + 1 : Nat) : Int) acc = lex s.data.toList 1 []) := Lib.hid (by
            rw [lex_nl _ _ _ b10] at LX1
            rw [HM.out _ (by omega), Int.natCast_add]
            exact LX1)
          clear asc eR hR hK LX1 b10
          go_wp2
          go_roundw
          case rel => exact ⟨pos + 1, en, ln + 1, acc, by go_num, rfl, by omega, hen, by omega, by omega, S2, LX2, Lib.hid (cut_none _ _ _ (by have := HM.out pos (Nat.le_refl _); omega))⟩
          case measure => rw [P1.out, S2.out.pos_]; omega
        by_cases b32 : s[pos].toNat = 32 ∨ s[pos].toNat = 9
        · obtain ⟨eR, rfl⟩ := asc (by omega)
          have c10 : ((R : Int) == 10) = false := by simp; omega
          have LX2 : Hid (lex (dr s (max (pos + 1) en)) ln acc = lex s.data.toList 1 []) := Lib.hid (by
            rw [lex_blank _ _ _ b32] at LX1
            rw [HM.out _ (by omega)]
            exact LX1)
          have b3 : R = 32 ∨ R = 9 := by omega
          clear asc eR hR hK LX1 b10 b32
          rcases b3 with b3 | b3
          · have c32 : ((R : Int) == 32) = true := by simp; omega
            clear b3
            go_wp2
            go_roundw
            case rel => exact ⟨pos + 1, en, ln, acc, rfl, rfl, by omega, hen, by omega, by omega, S2, LX2, Lib.hid (cut_none _ _ _ (by have := HM.out pos (Nat.le_refl _); omega))⟩
            case measure => rw [P1.out, S2.out.pos_]; omega
          · have c32 : ((R : Int) == 32) = false := by simp; omega
            have c9 : ((R : Int) == 9) = true := by simp; omega
            clear b3
            go_wp2
            go_roundw
            case rel => exact ⟨pos + 1, en, ln, acc, rfl, rfl, by omega, hen, by omega, by omega, S2, LX2, Lib.hid (cut_none _ _ _ (by have := HM.out pos (Nat.le_refl _); omega))⟩
            case measure => rw [P1.out, S2.out.pos_]; omega
        · have hR2 : R ≠ 10 ∧ R ≠ 32 ∧ R ≠ 9 := by
            by_cases h7 : s[pos].toNat < 128
            · have := (asc h7).1; omega
            · have := (decode_high s pos hlt (by omega)).1; omega
          have c10 : ((R : Int) == 10) = false := by simp; omega
          have c32 : ((R : Int) == 32) = false := by simp; omega
          have c9 : ((R : Int) == 9) = false := by simp; omega
          obtain ⟨x, hX⟩ : ∃ x, s.extract pos s.size = x := ⟨_, rfl⟩
          have hxd : x.data.toList = dr s pos := by rw [← hX, ext_dr]
          have hxs : x.size ≤ 16384 := by rw [← len_data x, hxd, dr_len]; omega
          have HXD := Lib.hid hxd
          have HP : ∀ Y, Calls Tryz.prog 42 #[.string x, .string ⟨#[47, 47]⟩] Y fun e w' => e = .returned (.bool (cmt (dr s pos))) ∧ Y = w' := fun Y =>
            (Tryz.strings_HasPrefix x ⟨#[47, 47]⟩ Y).mono fun _ _ ⟨he, hw⟩ => ⟨by rw [he, hxd]; exact retb (prefix_cmt _), hw.symm⟩
          clear hR2 hxd
          cases hcm : cmt (dr s pos)
          · rw [hcm] at HP
            have HP := Lib.hid HP
            have DN := hcm
            rw [DC.out] at DN
            obtain ⟨k, m, er, y, hk, hm, hy, he, CC, _⟩ := first_part 45 x (firstS x.data.toList) w (fun Y hb => first_any x Y (by omega) (HT.out.later hb))
            rw [HXD.out] at hk hm hy he
            by_cases h0 : er = 0
            · subst h0
              have hg := first_good he
              have h7 : s[pos].toNat < 128 := by
                rcases Nat.lt_or_ge s[pos].toNat 128 with g | g
                · exact g
                · rw [first_high DC.out g] at he; exact absurd he (by decide)
              obtain ⟨eR, rfl⟩ := asc h7
              have hys : (firstS (dr s pos)).1.text.length = y.size := by rw [hy, len_data]
              have LX2 : Hid (lex (dr s (max (pos + 1) (pos + y.size))) ln (acc ++ [(firstS (dr s pos)).1.at ln]) = lex s.data.toList 1 []) := Lib.hid (by
                have he2 := he
                rw [DC.out] at he2
                rw [lex_tok _ _ _ b10 b32 DN he2, ← DC.out, dr_dr, hys] at LX1
                have hy1 : 1 ≤ y.size := by rw [← hys]; exact List.length_pos_iff.2 hg.ne
                rw [show max (pos + 1) (pos + y.size) = pos + y.size by omega]
                exact LX1)
              have CU2 : Hid (Cutp s (pos + 1) (pos + y.size)) := Lib.hid (by rw [← hys]; exact cut_tok hg)
              have hyl : pos + y.size ≤ s.size := by have := good_len hg; rw [hys, dr_len] at this; omega
              have TC : Hid (tkCells (acc ++ [(firstS (dr s pos)).1.at ln]) = tkCells acc ++ [.int .i64 k, .int .i64 m, .string y, .int .i64 ln]) := Lib.hid (by rw [tkCells_snoc]; show tkCells acc ++ [.int .i64 (firstS (dr s pos)).1.kind, .int .i64 (firstS (dr s pos)).1.n, .string (bs (firstS (dr s pos)).1.text), .int .i64 ln] = _; rw [hk, hm, hy])
              obtain ⟨A2, hA2⟩ : ∃ A2, acc ++ [(firstS (dr s pos)).1.at ln] = A2 := ⟨_, rfl⟩
              have hA2l : A2.length = acc.length + 1 := by rw [← hA2]; simp
              rw [hA2] at LX2 TC
              have HA2 := Lib.hid hA2l
              clear hA2 hA2l hk hm hy he hg h7 eR hys LX1 DN hcm b10 b32 asc hR hK
              go_wp2_with (first
                | (go_at_call 42; ((with_reducible refine (HP.out _).mono ?_); rintro e w' ⟨rfl, rfl⟩))
                | (go_at_call 45; ((with_reducible refine (CC.out _ S2.out.bw).mono ?_); rintro e w1 ⟨rfl, hb⟩; have S3 := Lib.hid (S2.out.later hb); clear hb))
                | (at_builtin; go_must (refine wpList_append_own _ rfl (.tmp 34) (.tmp 36) 34 rfl w.heap.size 41 i0 (.agg #[.int .i64 0, .int .i64 0, .string ⟨#[]⟩, .int .i64 0]) 4 40 Tryz.underlying34 HI.out HZ0.out HZ1.out HZ2.out rfl (by decide) _ acc.length _ rfl ((S3.out.alloc _).alloc _).own ⟨w1.heap.size + 1, 0, none⟩ 1 1 [.int .i64 k, .int .i64 m, .string y, .int .i64 ln] rfl rfl (cell_four_at (by simp) _ _ _ _ _) (one_tok _ _ _ _) (by unfold maxLen; omega) (by omega) (by have := S3.out.lt; simp; omega) ?_; intro v3 w3 hown3 hgrow3 _; have S4 : Hid (St w w3 s (pos + 1) v3 A2) := Lib.hid (((S3.out.alloc _).alloc _).grown hgrow3 (by rw [HA2.out, TC.out]; exact hown3)); have hB3 : w3.heap[w1.heap.size]? = some (.cells #[.int .i64 k, .int .i64 m, .string y, .int .i64 ln] 41) := (hgrow3.block _ (by simp; omega) (own_new S3.out.own)).trans ((Below.heap_alloc _ _ _ (by simp)).trans (heap_alloc_new _ _)); have c2 : w3.cell? ⟨w1.heap.size, 2, none⟩ = some (.string y) := cell_of_row _ _ 2 _ 41 (0, 0) hB3; clear hown3 hgrow3 hB3)))
              go_roundw
              case rel => exact ⟨pos + 1, pos + y.size, ln, A2, rfl, by go_num, by omega, hyl, by omega, by rw [HA2.out]; omega, S4, LX2, CU2⟩
              case measure => rw [P1.out, S4.out.pos_]; omega
            · have he0 : (er == 0) = false := by simpa using h0
              have EE : Hid (lex s.data.toList 1 [] = ([], (ln : Int), er)) := Lib.hid (by
                rw [DC.out] at he
                rw [lex_err _ _ _ b10 b32 DN (by rw [he]; exact h0), he] at LX1
                exact LX1.symm)
              clear hk hm hy he LX1 DN hcm b10 b32 asc hR hK h0
              go_wp2_with (first
                | (go_at_call 42; ((with_reducible refine (HP.out _).mono ?_); rintro e w' ⟨rfl, rfl⟩))
                | (go_at_call 45; ((with_reducible refine (CC.out _ S2.out.bw).mono ?_); rintro e w1 ⟨rfl, hb⟩; have S3 := Lib.hid (S2.out.later hb); clear hb)))
              go_ret3
              exact tLex_err EE.out (S3.out.alloc _).bw
          · rw [hcm] at HP
            have HP := Lib.hid HP
            have h47 : s[pos].toNat = 47 := by rw [DC.out] at hcm; exact cmt_head hcm
            obtain ⟨eR, rfl⟩ := asc (by omega)
            obtain ⟨L, hL⟩ : ∃ L, (cmtS (dr s pos)).length = L := ⟨_, rfl⟩
            have SC : Hid (∀ Y, Calls Tryz.prog 43 #[.string x, .func (.func 44) #[] #[]] Y fun e w' => e = .returned (.int .i64 (L : Int)) ∧ Below Y.heap.size Y w') := Lib.hid fun Y => by
              have q := spanComment x Y
              rw [HXD.out, hL] at q
              exact q
            have hLs : pos + L ≤ s.size := by have := cmtS_le (dr s pos); rw [hL, dr_len] at this; omega
            have hL1 : 1 ≤ L := by
              rw [← hL, DC.out, cmtS, List.takeWhile_cons]
              have : noNl s[pos] = true := by simp [noNl]; omega
              rw [this]; simp
            have LX2 : Hid (lex (dr s (max (pos + 1) (pos + L))) ln acc = lex s.data.toList 1 []) := Lib.hid (by
              rw [DC.out] at hcm
              rw [lex_cmt _ _ _ hcm, ← DC.out, skip_drop, dr_dr, hL] at LX1
              rw [show max (pos + 1) (pos + L) = pos + L by omega]
              exact LX1)
            have CU2 : Hid (Cutp s (pos + 1) (pos + L)) := Lib.hid (by rw [← hL]; exact cut_cmt)
            clear hL hcm LX1 h47 eR asc hR hK b10 b32
            go_wp2_with (first
              | (go_at_call 42; ((with_reducible refine (HP.out _).mono ?_); rintro e w' ⟨rfl, rfl⟩))
              | (go_at_call 43; ((with_reducible refine (SC.out _).mono ?_); rintro e w1 ⟨rfl, hb⟩; have S3 := Lib.hid (S2.out.later hb); clear hb)))
            go_roundw
            case rel => exact ⟨pos + 1, pos + L, ln, acc, rfl, by go_num, by omega, hLs, by omega, by omega, S3, LX2, CU2⟩
            case measure => rw [P1.out, S3.out.pos_]; omega
    · have hnx : ∀ ty, (Instr.next (.pointer (some ⟨w.heap.size, 0, none⟩)) true ty).run Tryz.prog wr = _ := fun ty => Lib.run_next_end_at wr w.heap.size s pos ty ST.out.it hlt
      have EE : Hid (lex s.data.toList 1 [] = (acc, 0, 0)) := Lib.hid (by rw [← LX.out, dr_end s _ (by omega), lex_nil])
      go_wp2
      go_ret3
      exact tLex_ok EE.out ST.out.own ST.out.bw
/-- Tokens, for every string. -/
theorem tokens_any (s : ByteArray) (w : World) (ht : Tab w) : Calls Tryz.prog 20 #[.string s] w (tLex w (tokS s.data.toList)) := by
  by_cases h : 16384 < s.size
  · exact tokens_long s w h
  · have e : tokS s.data.toList = lex s.data.toList 1 [] := by unfold tokS; rw [if_neg (by rw [len_data]; exact h)]
    rw [e]
    exact tokens_short s w (by omega) ht
end Go.Proofs.YtlnomiiphlbamaaGreatDoor.LexW
