/-
  What the reference's Format of an integer returns (stage 5's text without rational numbers).
-/
import Derived.Test.YtoigjeoncdfdmaaGreatDoorLexRefP
import Derived.Lib.SlBytesRow
import Derived.Lib.ItoaNum
import Derived.Lib.ItoaLen
namespace Go.Proofs.YtoigjeoncdfdmaaGreatDoor.RefF
open Go Go.RowKit Go.Proofs.YtoigjeoncdfdmaaGreatDoor.NumM

theorem belowR_any (a : Int) (w : World) (a0 : -9223372036854775808 ≤ a) (a1 : a ≤ 9223372036854775807) :
    Calls Tryz.prog 60 #[.int .i64 a] w fun e w' => e = .returned (.int .i64 (-(a.natAbs : Int))) ∧ w = w' := by
  go_enter Tryz.func60, Tryz.ntmps60
  go_wp2
  all_goals go_ret
  all_goals exact ⟨PackW.ret1 (by omega), rfl⟩
/-- The last digit. -/
def dc (u : Nat) : UInt8 := UInt8.ofNat (48 + u % 10)
theorem dec_last {u : Nat} (h : ¬ u / 10 = 0) : Lib.decDigits u = Lib.decDigits (u / 10) ++ [dc u] := dec_big (by omega)
theorem dec_first {u : Nat} (h : u / 10 = 0) : Lib.decDigits u = [dc u] := by
  rw [dec_small (by omega), dc, show u % 10 = u by omega]
theorem str_cons (c : UInt8) (r : ByteArray) : ((⟨#[c]⟩ : ByteArray) ++ r).data.toList = c :: r.data.toList := by simp
theorem str_of {s : ByteArray} {l : List UInt8} (h : s.data.toList = l) : s = ⟨l.toArray⟩ := by rw [← h]
theorem rets {a b : ByteArray} (h : a = b) : Ending.returned (.string a) = .returned (.string b) := by rw [h]
theorem conv_one (wr : World) (u : Nat) :
    Sem.run Tryz.prog (convert 87 9 (.slice (some ⟨wr.heap.size, 0, none⟩) 1 1)) (wr.alloc (.cells #[.int .u8 (48 + (u : Int) % 10)] 5)) =
      .ok (.string ⟨#[dc u]⟩) (wr.alloc (.cells #[.int .u8 (48 + (u : Int) % 10)] 5)) := by
  have hb : Lib.Bytes (wr.alloc (.cells #[.int .u8 (48 + (u : Int) % 10)] 5)) wr.heap.size 0 ⟨#[dc u]⟩ := by
    intro i hi
    obtain rfl : i = 0 := by have : i < 1 := hi; omega
    have e : ((48 + u % 10 : Nat) : Int) = 48 + (u : Int) % 10 := by omega
    have t : (dc u).toNat = 48 + u % 10 := dig_toNat (by omega)
    show _ = some (Value.int .u8 ((dc u).toNat : Int))
    rw [t, e]
    simp
  exact Lib.run_convert_whole (P := Tryz.prog) _ 87 5 9 Tryz.underlying87 Tryz.underlying5 Tryz.underlying9 wr.heap.size 0 ⟨#[dc u]⟩ hb 1
set_option maxHeartbeats 400000 in
theorem refNum_any (n : Int) (w : World) (h0 : -9223372036854775808 ≤ n) (h1 : n ≤ 9223372036854775807) :
    Calls Tryz.prog 32 #[.int .i64 n] w fun e w' => e = .returned (.string ⟨(Lib.itoa n).toArray⟩) ∧ Below w.heap.size w w' := by
  go_enter Tryz.func32, Tryz.ntmps32
  go_wp2_with (go_at_call 60; refine (belowR_any _ _ (by omega) (by omega)).mono ?_; rintro e w' ⟨rfl, rfl⟩)
  go_loopw [3, 4] (fun s m wr => ∃ (u : Nat) (r : ByteArray), (u : Int) ≤ 9223372036854775808 ∧ m = .int .i64 (-(u : Int)) ∧ s = .string r ∧ Lib.decDigits n.natAbs = Lib.decDigits u ++ r.data.toList ∧ Below w.heap.size w wr) (fun _ m _ => (-intOf m).toNat)
  case atStart => exact ⟨n.natAbs, ⟨#[]⟩, by omega, rfl, rfl, by simp, Below.refl _ _⟩
  case round =>
    obtain ⟨u, r, hu, rfl, rfl, hd, hb⟩ := hrel
    have HD := Lib.hid hd
    have HB := Lib.hid hb
    clear hd hb
    have hrs : r.size ≤ 30 := by
      have e := congrArg List.length HD.out
      rw [List.length_append, Lib.decDigits_length] at e
      have := Lib.nDigits_le20 n.natAbs (by omega)
      have h2 : r.data.toList.length = r.size := by simp
      omega
    have hcv := conv_one wr u
    by_cases hz : u / 10 = 0
    · have hz1 : (u : Int) / 10 = 0 := by omega
      by_cases hn : n < 0
      · go_wp2
        go_ret
        exact ⟨rets (str_of (by rw [Lib.itoa, if_pos hn, HD.out, dec_first hz]; simp)), HB.out.alloc HB.out.size _⟩
      · go_wp2
        go_ret
        exact ⟨rets (str_of (by rw [Lib.itoa, if_neg (by omega), show n.toNat = n.natAbs by omega, HD.out, dec_first hz]; simp)), HB.out.alloc HB.out.size _⟩
    · have hz1 : (-((u : Int) / 10) == 0) = false := by simp; omega
      go_wp2
      go_roundw
      case rel => exact ⟨u / 10, _, by omega, by simp, rfl, by rw [HD.out, dec_last hz, str_cons]; simp, HB.out.alloc HB.out.size _⟩
      case measure => simp [intOf]; omega
theorem numR_letter (n : Int) (h0 : -9223372036854775808 ≤ n) (h1 : n ≤ 9223372036854775807) : ∃ P : ByteArray, P.data.toList = Lib.itoa n ∧ P.size ≤ 21 ∧ ∀ w, Calls Tryz.prog 32 #[.int .i64 n] w fun e w' => e = .returned (.string P) ∧ Below w.heap.size w w' :=
  ⟨⟨(Lib.itoa n).toArray⟩, rfl, by show (Lib.itoa n).toArray.size ≤ 21; rw [List.size_toArray]; exact Lib.itoa_length_le n h0 h1, fun w => refNum_any n w h0 h1⟩
end Go.Proofs.YtoigjeoncdfdmaaGreatDoor.RefF
