/-
  What the reference's Tokens returns, for every string of at most 1000 bytes.
-/
import Derived.Test.YtphmikjoecnmaaaDoorLexRefU
import Derived.Test.YtphmikjoecnmaaaDoorLexTok
namespace Go.Proofs.YtphmikjoecnmaaaDoor.LexW
open Go Go.RowKit Go.Proofs.YtphmikjoecnmaaaDoor.NumM Go.Proofs.YtphmikjoecnmaaaDoor.LexM

/-- The list so far, and all below. -/
structure Su (w wr : World) (v : Value) (acc : List Tk) : Prop where
  own : wr.ownsRow w.heap.size 30 4 v acc.length (tkCells acc)
  bw : Below w.heap.size w wr
section
variable {w wr wr' : World} {v : Value} {acc : List Tk}
theorem Su.later (h : Su w wr v acc) (hb : Below wr.heap.size wr wr') : Su w wr' v acc := ⟨ownsRow_later h.own hb, h.bw.trans (hb.mono h.bw.size)⟩
theorem Su.alloc (h : Su w wr v acc) (o : Obj) : Su w (wr.alloc o) v acc := h.later ((Below.refl _ _).alloc (Nat.le_refl _) _)
theorem Su.grown {v' : Value} {acc' : List Tk} (h : Su w wr v acc) (hg : wr.grownBy wr' v.ownBlock) (ho : wr'.ownsRow w.heap.size 30 4 v' acc'.length (tkCells acc')) : Su w wr' v' acc' :=
  ⟨ho, h.bw.grown hg h.bw.size (own_block h.own)⟩
end
/-- What a call of read gives, in letters. -/
theorem read_part (f : FuncId) (args : Array Value) (r : Tk × Int) (hC : ∀ W, Calls Tryd.prog f args W (tTok W r)) :
    ∃ (k n er : Int) (x : ByteArray), r.1.kind = k ∧ r.1.n = n ∧ r.1.text = x.data.toList ∧ r.2 = er ∧ Hid (∀ W, Calls Tryd.prog f args W fun e w' => e = .returned (.tuple #[tv k n x 0, .int .i64 er]) ∧ Below W.heap.size W w') :=
  ⟨_, _, _, bs r.1.text, rfl, rfl, rfl, rfl, Lib.hid hC⟩
/-- What a round needs of the place at which it begins. -/
def atTok (s : ByteArray) (q : Nat) : Prop := ∀ h : q < s.size, s[q].toNat ≠ 10 ∧ ¬ (s[q].toNat = 32 ∨ s[q].toNat = 9) ∧ cmt (dr s q) = false
theorem lnN_tok {s : ByteArray} {q : Nat} {t : Tk} (hg : LexM.Good (dr s q) t) : lnN s (q + t.text.length) = lnN s q := by
  have e : s.data.toList.take (q + t.text.length) = s.data.toList.take q ++ (dr s q).take t.text.length := List.take_add
  unfold lnN
  rw [e, nl_append, ← hg.pre, nl_none (fun c hc => (hg.byte c hc).1)]
  rfl
set_option maxRecDepth 100000 in
set_option maxHeartbeats 8000000 in
theorem tokensRef (s : ByteArray) (w : World) (h : s.size ≤ 1000) : Calls Tryd.prog 11 #[.string s] w (tLex w (lex s.data.toList 1 [])) := by
  obtain ⟨i0, hi, hz0, hz1, hz2⟩ := info_parts infoTok
  have HI := Lib.hid hi; have HZ0 := Lib.hid hz0; have HZ1 := Lib.hid hz1; have HZ2 := Lib.hid hz2
  clear hi hz0 hz1 hz2
  have B0 : Hid (Calls Tryd.prog 25 #[.string s, .int .i64 0] w (tBlank s 0 w)) := Lib.hid (blank_any s 0 w (by omega) (by omega))
  go_enter Tryd.func11, Tryd.ntmps11
  go_wp2_with (go_at_call 25; ((with_reducible refine B0.out.mono ?_); rintro e w' ⟨q0, rfl, _, hq0, hlx, hat, rfl⟩; have LX0 := Lib.hid hlx; have AT0 : Hid (atTok s q0) := Lib.hid hat; clear hlx hat))
  go_loopw [5, 6] (fun v i wr => ∃ (q : Nat) (acc : List Tk), i = .int .i64 q ∧ q ≤ s.size ∧ acc.length ≤ q ∧ Hid (Su w wr v acc) ∧ Hid (lex (dr s q) (lnN s q) acc = lex s.data.toList 1 []) ∧ Hid (atTok s q)) (fun _ i _ => s.size - (intOf i).toNat)
  case atStart => exact ⟨q0, [], rfl, hq0, Nat.zero_le _, Lib.hid ⟨own_nil _ _, Below.refl _ _⟩, Lib.hid (LX0.out []).symm, AT0⟩
  case round =>
    obtain ⟨q, acc, rfl, hq, hac, SU, LX, AT⟩ := hrel
    by_cases hlt : q < s.size
    · obtain ⟨a1, a2, a3⟩ := AT.out hlt
      have LX1 := LX.out
      have DC := Lib.hid (dr_cons s q hlt)
      rw [DC.out] at LX1 a3
      obtain ⟨k, m, er, y, hk, hm, hy, he, CC⟩ := read_part 26 #[.string s, .int .i64 q] (firstS (dr s q)) (fun Y => read_any s q Y h hlt)
      have LC := fun Y => line_any s q Y (by omega) hq
      by_cases h0 : er = 0
      · subst h0
        have hg := first_good he
        have hys : (firstS (dr s q)).1.text.length = y.size := by rw [hy, len_data]
        have hy1 : 1 ≤ y.size := by rw [← hys]; exact List.length_pos_iff.2 hg.ne
        have hyl : q + y.size ≤ s.size := by have := good_len hg; rw [hys, dr_len] at this; omega
        have hlt2 := lnN_tok hg
        have LX2 : Hid (lex (dr s (q + y.size)) (lnN s (q + y.size)) (acc ++ [(firstS (dr s q)).1.at (lnN s q)]) = lex s.data.toList 1 []) := Lib.hid (by
          have he2 := he
          rw [DC.out] at he2
          rw [lex_tok _ _ _ a1 a2 a3 he2, ← DC.out, dr_dr, hys] at LX1
          rw [← hys, hlt2, hys]
          exact LX1)
        have hbl := fun Y => blank_any s (q + y.size) Y (by omega) hyl
        obtain ⟨ln, hln⟩ : ∃ ln : Nat, lnN s q = ln := ⟨_, rfl⟩
        rw [hln] at LC LX2
        have LC := Lib.hid LC
        have TC : Hid (tkCells (acc ++ [(firstS (dr s q)).1.at ln]) = tkCells acc ++ [.int .i64 k, .int .i64 m, .string y, .int .i64 ln]) := Lib.hid (by rw [tkCells_snoc]; show tkCells acc ++ [.int .i64 (firstS (dr s q)).1.kind, .int .i64 (firstS (dr s q)).1.n, .string (bs (firstS (dr s q)).1.text), .int .i64 ln] = _; rw [hk, hm, hy])
        obtain ⟨A2, hA2⟩ : ∃ A2, acc ++ [(firstS (dr s q)).1.at ln] = A2 := ⟨_, rfl⟩
        have hA2l : A2.length = acc.length + 1 := by rw [← hA2]; simp
        rw [hA2] at LX2 TC
        have HA2 := Lib.hid hA2l
        have BL : Hid (∀ Y, Calls Tryd.prog 25 #[.string s, .int .i64 ((q : Int) + (y.size : Int))] Y (tBlank s (q + y.size) Y)) := Lib.hid fun Y => by rw [← Int.natCast_add]; exact hbl Y
        clear hA2 hA2l hk hm hy he hg hys LX1 a1 a2 a3 hlt2 hln hbl
        go_wp2_with (first
          | (go_at_call 26; ((with_reducible refine (CC.out _).mono ?_); rintro e w1 ⟨rfl, hb⟩; have S3 := Lib.hid (SU.out.later hb); clear hb))
          | (go_at_call 27; ((with_reducible refine (LC.out _).mono ?_); rintro e w' ⟨rfl, rfl⟩))
          | (go_at_call 25; ((with_reducible refine (BL.out _).mono ?_); rintro e w' ⟨q2, rfl, hq2, hq3, hlx, hat, rfl⟩; have LX3 := Lib.hid hlx; have AT3 : Hid (atTok s q2) := Lib.hid hat; clear hlx hat))
          | (at_builtin; go_must (refine wpList_append_own _ rfl (.tmp 37) (.tmp 39) 23 rfl w.heap.size 30 i0 (.agg #[.int .i64 0, .int .i64 0, .string ⟨#[]⟩, .int .i64 0]) 4 40 Tryd.underlying23 HI.out HZ0.out HZ1.out HZ2.out rfl (by decide) _ acc.length _ rfl ((S3.out.alloc _).alloc _).own ⟨w1.heap.size + 1, 0, none⟩ 1 1 [.int .i64 k, .int .i64 m, .string y, .int .i64 ln] rfl rfl (cell_four_at (by simp) _ _ _ _ _) (one_tok _ _ _ _) (by unfold maxLen; omega) (by omega) (by have := S3.out.bw.size; simp; omega) ?_; intro v3 w3 hown3 hgrow3 _; have S4 : Hid (Su w w3 v3 A2) := Lib.hid (((S3.out.alloc _).alloc _).grown hgrow3 (by rw [HA2.out, TC.out]; exact hown3)); have hB3 : w3.heap[w1.heap.size]? = some (.cells #[.int .i64 k, .int .i64 m, .string y, .int .i64 ln] 30) := (hgrow3.block _ (by simp; omega) (own_new S3.out.own)).trans ((Below.heap_alloc _ _ _ (by simp)).trans (heap_alloc_new _ _)); have c2 : w3.cell? ⟨w1.heap.size, 2, none⟩ = some (.string y) := cell_of_row _ _ 2 _ 30 (0, 0) hB3; clear hown3 hgrow3 hB3)))
        go_roundw
        case rel => exact ⟨q2, A2, rfl, hq3, by rw [HA2.out]; omega, S4, Lib.hid ((LX3.out A2).symm.trans LX2.out), AT3⟩
        case measure => simp [intOf]; omega
      · have he0 : (er == 0) = false := by simpa using h0
        have EE : Hid (lex s.data.toList 1 [] = ([], (lnN s q : Int), er)) := Lib.hid (by
          rw [DC.out] at he
          rw [lex_err _ _ _ a1 a2 a3 (by rw [he]; exact h0), he] at LX1
          exact LX1.symm)
        obtain ⟨ln, hln⟩ : ∃ ln : Nat, lnN s q = ln := ⟨_, rfl⟩
        rw [hln] at LC EE
        have LC := Lib.hid LC
        clear hk hm hy he LX1 a1 a2 a3 hln h0
        go_wp2_with (first
          | (go_at_call 26; ((with_reducible refine (CC.out _).mono ?_); rintro e w1 ⟨rfl, hb⟩; have S3 := Lib.hid (SU.out.later hb); clear hb))
          | (go_at_call 27; ((with_reducible refine (LC.out _).mono ?_); rintro e w' ⟨rfl, rfl⟩)))
        go_ret3
        exact tLex_err EE.out (S3.out.alloc _).bw
    · have EE : Hid (lex s.data.toList 1 [] = (acc, 0, 0)) := Lib.hid (by rw [← LX.out, dr_end s _ (by omega), lex_nil])
      go_wp2
      go_ret3
      exact tLex_ok EE.out SU.out.own SU.out.bw
end Go.Proofs.YtphmikjoecnmaaaDoor.LexW
