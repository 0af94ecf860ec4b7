/-
  The walk of LexerLimits.
-/
import Derived.Test.YtphmikjoecnmaaaDoorLexLawJ
import Derived.Lib.SlBytesRow
namespace Go.Proofs.YtphmikjoecnmaaaDoor.LexW
open Go Go.RowKit Go.Proofs.YtphmikjoecnmaaaDoor.NumM Go.Proofs.YtphmikjoecnmaaaDoor.LexM

theorem infoU8 : (Tryd.prog.info? 5).map (fun i => (i.zero, i.size, i.bytes)) = some (some (.int .u8 0), 1, 1) := by kernel_rfl
/-- The first k bytes are spaces. -/
def spF (k : Nat) : Nat → Value := fun j => if j < k then .int .u8 32 else .int .u8 0
theorem spF_next (k j : Nat) : (if j = k then Value.int .u8 32 else spF k j) = spF (k + 1) j := by
  unfold spF
  by_cases e : j = k
  · subst e; rw [if_pos rfl, if_pos (by omega)]
  · rw [if_neg e]
    by_cases g : j < k
    · rw [if_pos g, if_pos (by omega)]
    · rw [if_neg g, if_neg (by omega)]
theorem spaces_at (M i : Nat) (hi : i < (bs (List.replicate M 32 ++ [64])).size) : ((bs (List.replicate M 32 ++ [64]))[i].toNat : Int) = if i = M then 64 else 32 := by
  have e : (bs (List.replicate M 32 ++ [64]))[i] = (List.replicate M 32 ++ [64] : List UInt8)[i]'(by rw [← len_data, data_bs] at hi; exact hi) := rfl
  rw [e, List.getElem_append]
  by_cases h : i < M
  · rw [dif_pos (by simpa using h), if_neg (by omega), List.getElem_replicate]; rfl
  · have hiM : i = M := by rw [← len_data, data_bs] at hi; simp at hi; omega
    subst hiM
    rw [dif_neg (by simp), if_pos rfl]
    simp
theorem spaces_size (M : Nat) : (bs (List.replicate M 32 ++ [64])).size = M + 1 := by rw [← len_data, data_bs]; simp
set_option maxRecDepth 100000 in
set_option maxHeartbeats 8000000 in
theorem lexerLimits_any (n : Int) (w : World) (h0 : 0 ≤ n) (h1 : n ≤ 255) (ht : Tab w) :
    Calls Tryd.prog 8 #[.int .u8 n] w fun e w' => e = .returned (.bool true) ∧ Below w.heap.size w w' := by
  obtain ⟨M, hM⟩ : ∃ M : Nat, 16382 + n % 5 = ((M + 1 : Nat) : Int) := ⟨(16381 + n % 5).toNat, by omega⟩
  have hM0 : 16381 ≤ M := by omega
  have hM1 : M ≤ 16385 := by omega
  have HT := Lib.hid ht
  clear ht
  have AW : Hid (∀ W, Below w.heap.size w W → Calls Tryd.prog 9 #[] W fun e w' => e = .returned (.bool true) ∧ Below W.heap.size W w') := Lib.hid fun W hb => awake_any W (HT.out.later hb)
  have hmk := run_make_row' (P := Tryd.prog) 35 5 (.int .u8 0) 1 Tryd.underlying35 infoU8 rfl .i64 .i64 (M + 1) (by omega) (by omega)
  have HR : Hid ((w.alloc (.cells (madeCells #[.int .u8 0] (M + 1)) 5)).rowIs w.heap.size 5 (M + 1) (spF 0)) := Lib.hid (World.rowIs_made w (.int .u8 0) (M + 1) 5)
  have HB0 : Hid (Below w.heap.size w (w.alloc (.cells (madeCells #[.int .u8 0] (M + 1)) 5))) := Lib.hid ((Below.refl _ _).alloc (Nat.le_refl _) _)
  rw [Int.natCast_add, Int.natCast_one] at hmk
  have hM2 : 16382 + n % 5 = (M : Int) + 1 := by omega
  clear hM
  go_enter Tryd.func8, Tryd.ntmps8
  go_wp2
  go_loopw [4] (fun i wr => ∃ k : Nat, k ≤ M + 1 ∧ i = .int .i64 k ∧ Hid (wr.rowIs w.heap.size 5 (M + 1) (spF k)) ∧ Hid (Below w.heap.size w wr)) (fun i _ => M + 1 - (intOf i).toNat)
  case atStart => exact ⟨0, Nat.zero_le _, rfl, HR, HB0⟩
  case round =>
    obtain ⟨k, hk, rfl, ROW, BW⟩ := hrel
    by_cases hlt : k < M + 1
    · have ck := ROW.out.cell hlt
      have fk := ROW.out.frozen k
      go_wp2
      go_roundw
      case rel => exact ⟨k + 1, by omega, by go_num, Lib.hid ((ROW.out.set k _).congr (fun j _ => spF_next k j)), Lib.hid (BW.out.setCell (Nat.le_refl _) _)⟩
      case measure => simp [intOf]; omega
    · obtain rfl : k = M + 1 := by omega
      have cM := ROW.out.cell (show M < M + 1 by omega)
      have fM := ROW.out.frozen M
      obtain ⟨X, hX⟩ : ∃ X, bs (List.replicate M 32 ++ [64]) = X := ⟨_, rfl⟩
      have hXs : X.size = M + 1 := by rw [← hX]; exact spaces_size M
      have hXd : X.data.toList = List.replicate M 32 ++ [64] := by rw [← hX]
      have R2 := ROW.out.set M (.int .u8 64)
      have hby : Lib.Bytes (wr.setCell ⟨w.heap.size, M, none⟩ (.int .u8 64)) w.heap.size 0 X := fun i hi => by
        have hiM : i < M + 1 := by omega
        rw [Nat.zero_add, R2.cell hiM]
        subst hX
        rw [spaces_at M i hi]
        by_cases h : i = M
        · rw [if_pos h, if_pos h]
        · rw [if_neg h, if_neg h]
          unfold spF
          rw [if_pos (by omega)]
      have hcv := Lib.run_convert_whole (P := Tryd.prog) (wr.setCell ⟨w.heap.size, M, none⟩ (.int .u8 64)) 35 5 9 Tryd.underlying35 Tryd.underlying5 Tryd.underlying9 w.heap.size 0 X hby (M + 1)
      rw [hXs] at hcv
      have BW2 := Lib.hid (BW.out.setCell (p := ⟨w.heap.size, M, none⟩) (Nat.le_refl _) (.int .u8 64))
      by_cases hbig : 16384 < M + 1
      · have TS : tokS X.data.toList = ([], 0, 2) := by unfold tokS; rw [if_pos (by rw [len_data, hXs]; exact hbig)]
        have TC := Lib.hid (fun W (hb : Below w.heap.size w W) => tokens_toks X W (HT.out.later hb) TS)
        have hbig' : 16384 < (M : Int) + 1 := by omega
        clear hby R2 hX hXs hXd TS hbig
        go_wp2_with (first
          | (go_at_call 10; ((with_reducible refine (TC.out _ BW2.out).mono ?_); rintro e w2 ⟨u, rfl, hu, hb⟩; obtain ⟨p2, cap2, rfl, hcap2⟩ := hu.open_ (n := 0) rfl; have B2 := Lib.hid (Below.then_ BW2.out hb); clear hu hb))
          | (go_at_call 9; ((with_reducible refine (AW.out _ B2.out).mono ?_); rintro e w4 ⟨rfl, hb⟩; have B4 := Lib.hid (Below.then_ B2.out hb); clear hb)))
        go_ret
        exact ⟨rfl, B4.out⟩
      · have TS : tokS X.data.toList = ([⟨4, 0, [64], 1⟩], 0, 0) := by rw [tokS_short (by omega), hXd, lex_spaces]; rfl
        have TC := Lib.hid (fun W (hb : Below w.heap.size w W) => tokens_toks X W (HT.out.later hb) TS)
        have hbig' : (M : Int) + 1 ≤ 16384 := by omega
        clear hby R2 hX hXs hXd TS hbig
        go_wp2_with (first
          | (go_at_call 10; ((with_reducible refine (TC.out _ BW2.out).mono ?_); rintro e w2 ⟨u, rfl, hu, hb⟩; obtain ⟨p2, cap2, rfl, hcap2⟩ := hu.open_ (n := 1) rfl; have B2 := Lib.hid (Below.then_ BW2.out hb); clear hu hb))
          | (go_at_call 9; ((with_reducible refine (AW.out _ B2.out).mono ?_); rintro e w4 ⟨rfl, hb⟩; have B4 := Lib.hid (Below.then_ B2.out hb); clear hb)))
        go_ret
        exact ⟨rfl, B4.out⟩
end Go.Proofs.YtphmikjoecnmaaaDoor.LexW
