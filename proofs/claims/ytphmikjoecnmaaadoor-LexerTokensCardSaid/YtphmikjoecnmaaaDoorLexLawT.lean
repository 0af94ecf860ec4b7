/-
  The walk of LexerTokens.
-/
import Derived.Test.YtphmikjoecnmaaaDoorLexAwake
import Derived.Test.YtphmikjoecnmaaaDoorLexMath2
import Derived.Test.YtphmikjoecnmaaaDoorLexRefV
import Derived.Test.YtphmikjoecnmaaaDoorLexRefX
namespace Go.Proofs.YtphmikjoecnmaaaDoor.LexW
open Go Go.RowKit Go.Proofs.YtphmikjoecnmaaaDoor.NumM Go.Proofs.YtphmikjoecnmaaaDoor.LexM

/-- What a call of the lexer's Tokens gives, in letters. -/
theorem tokens_toks (s : ByteArray) (W : World) (ht : Tab W) {L : List Tk} {ln er : Int} (h : tokS s.data.toList = (L, ln, er)) :
    Calls Tryd.prog 10 #[.string s] W fun e w' => ∃ v, e = .returned (.tuple #[v, .int .i64 ln, .int .i64 er]) ∧ ToksAt w' v L ∧ Below W.heap.size W w' :=
  (tokens_any s W ht).mono fun e w' hh => by
    rw [h] at hh
    obtain ⟨v, he, ho, hb⟩ := hh
    exact ⟨v, he, ToksAt.ofOwn ho, hb⟩
theorem tokS_short {s : ByteArray} (h : s.size ≤ 16384) : tokS s.data.toList = lex s.data.toList 1 [] := by
  unfold tokS; rw [if_neg (by rw [len_data]; omega)]
theorem tokens_awake (s : ByteArray) (w : World) (h : 1000 < s.size) (ht : Tab w) : Calls Tryd.prog 3 #[.string s] w fun e w' => e = .returned (.bool true) ∧ Below w.heap.size w w' := by
  have HA := Lib.hid (awake_any w ht)
  go_enter Tryd.func3, Tryd.ntmps3
  go_wp2_with (go_at_call 9; ((with_reducible refine HA.out.mono ?_); rintro e w1 ⟨rfl, hb⟩))
  go_ret
  exact ⟨rfl, hb⟩
set_option maxRecDepth 100000 in
set_option maxHeartbeats 4000000 in
theorem lexerTokens_any (s : ByteArray) (w : World) (ht : Tab w) : Calls Tryd.prog 3 #[.string s] w fun e w' => e = .returned (.bool true) ∧ Below w.heap.size w w' := by
  by_cases h : 1000 < s.size
  · exact tokens_awake s w h ht
  have HT := Lib.hid ht
  have hlen := lex_len s.data.toList 1 []
  rcases hr : lex s.data.toList 1 [] with ⟨L, ln, er⟩
  rw [hr, len_data] at hlen
  have TC : Hid (∀ W, Below w.heap.size w W → Calls Tryd.prog 10 #[.string s] W fun e w' => ∃ v, e = .returned (.tuple #[v, .int .i64 ln, .int .i64 er]) ∧ ToksAt w' v L ∧ Below W.heap.size W w') :=
    Lib.hid fun W hb => tokens_toks s W (HT.out.later hb) (by rw [tokS_short (by omega), hr])
  have RC : Hid (∀ W, Calls Tryd.prog 11 #[.string s] W fun e w' => ∃ v, e = .returned (.tuple #[v, .int .i64 ln, .int .i64 er]) ∧ ToksAt w' v L ∧ Below W.heap.size W w') :=
    Lib.hid fun W => (tokensRef s W (by omega)).mono fun e w' hh => by
      rw [hr] at hh
      obtain ⟨v, he, ho, hb⟩ := hh
      exact ⟨v, he, ToksAt.ofOwn ho, hb⟩
  have hL : L.length ≤ 20000 := by simp at hlen; omega
  clear hr hlen ht
  go_enter Tryd.func3, Tryd.ntmps3
  go_wp2_with (first
    | (go_at_call 10; ((with_reducible refine (TC.out w (Below.refl _ _)).mono ?_); rintro e w1 ⟨v, rfl, hv, hb⟩; have V1 := Lib.hid hv; have B1 := Lib.hid hb; clear hv hb))
    | (go_at_call 11; ((with_reducible refine (RC.out w1).mono ?_); rintro e w2 ⟨u, rfl, hu, hb⟩; have U2 := Lib.hid hu; have V2 := Lib.hid (V1.out.later hb); have B2 := Lib.hid (Below.then_ B1.out hb); clear hu hb))
    | (go_at_call 12; ((with_reducible refine (same_any L v u w2 V2.out U2.out hL).mono ?_); rintro e w3 ⟨rfl, hb⟩; have B3 := Lib.hid (Below.then_ B2.out hb); clear hb))
    | (go_at_call 9; ((with_reducible refine (awake_any w3 (HT.out.later B3.out)).mono ?_); rintro e w4 ⟨rfl, hb⟩; have B4 := Lib.hid (Below.then_ B3.out hb); clear hb)))
  go_ret
  exact ⟨rfl, B4.out⟩
end Go.Proofs.YtphmikjoecnmaaaDoor.LexW
