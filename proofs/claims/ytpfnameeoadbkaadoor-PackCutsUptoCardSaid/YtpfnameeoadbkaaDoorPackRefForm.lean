/-
  What the reference's Text, Number and List return; Same.
-/
import Derived.Test.YtpfnameeoadbkaaDoorPackTakeL
import Derived.Lib.SlBytesRow
import Derived.Deep.RegionWith
namespace Go.Proofs.YtpfnameeoadbkaaDoor.PackW
open Go Go.RowKit Go.Proofs.YtpfnameeoadbkaaDoor.NumM Go.Proofs.YtpfnameeoadbkaaDoor.PackM

/-- The last digit. -/
def dc (u : Nat) : UInt8 := UInt8.ofNat (48 + u % 10)
theorem dec_last {u : Nat} (h : ¬ u < 10) : Lib.decDigits u = Lib.decDigits (u / 10) ++ [dc u] := dec_big h
theorem dec_first {u : Nat} (h : u < 10) : Lib.decDigits u = [dc u] := by
  rw [dec_small h, dc, show u % 10 = u by omega]
theorem conv_one (u : Nat) (x : Int) (hx : x = 48 + (u : Int) % 10) (wr : World) :
    Sem.run Tryd.prog (convert 48 9 (.slice (some ⟨wr.heap.size, 0, none⟩) 1 1)) (wr.alloc (.cells #[.int .u8 x] 5)) =
      .ok (.string ⟨#[dc u]⟩) (wr.alloc (.cells #[.int .u8 x] 5)) := by
  subst hx
  have hb : Lib.Bytes (wr.alloc (.cells #[.int .u8 (48 + (u : Int) % 10)] 5)) wr.heap.size 0 ⟨#[dc u]⟩ := by
    intro i hi
    obtain rfl : i = 0 := by have : i < 1 := hi; omega
    have e : ((48 + u % 10 : Nat) : Int) = 48 + (u : Int) % 10 := by omega
    have t : (dc u).toNat = 48 + u % 10 := dig_toNat (by omega)
    show _ = some (Value.int .u8 ((dc u).toNat : Int))
    rw [t, e]
    simp
  exact Lib.run_convert_whole (P := Tryd.prog) _ 48 5 9 Tryd.underlying48 Tryd.underlying5 Tryd.underlying9 wr.heap.size 0 ⟨#[dc u]⟩ hb 1
theorem conv_later (u : Nat) (x : Int) (hx : x = 48 + (u : Int) % 10) {wr w1 : World} (h : Below (wr.alloc (.cells #[.int .u8 x] 5)).heap.size (wr.alloc (.cells #[.int .u8 x] 5)) w1) :
    Sem.run Tryd.prog (convert 48 9 (.slice (some ⟨wr.heap.size, 0, none⟩) 1 1)) w1 = .ok (.string ⟨#[dc u]⟩) w1 := by
  subst hx
  have hb : Lib.Bytes w1 wr.heap.size 0 ⟨#[dc u]⟩ := by
    intro i hi
    obtain rfl : i = 0 := by have : i < 1 := hi; omega
    have e : ((48 + u % 10 : Nat) : Int) = 48 + (u : Int) % 10 := by omega
    have t : (dc u).toNat = 48 + u % 10 := dig_toNat (by omega)
    show w1.cell? ⟨wr.heap.size, 0 + 0, none⟩ = some (Value.int .u8 ((dc u).toNat : Int))
    rw [t, e, h.cell (p := ⟨wr.heap.size, 0 + 0, none⟩) (by show wr.heap.size < _; rw [alloc_size]; omega)]
    simp
  exact Lib.run_convert_whole (P := Tryd.prog) _ 48 5 9 Tryd.underlying48 Tryd.underlying5 Tryd.underlying9 wr.heap.size 0 ⟨#[dc u]⟩ hb 1
theorem dc_wrap (u : Nat) : IntKind.u8.wrap (IntKind.i64.wrap (48 + (u : Int).tmod 10)) = 48 + (u : Int) % 10 := by
  rw [IntKind.wrap_i64, IntKind.wrap_u8, Int.tmod_eq_emod_of_nonneg (by omega)]; omega
theorem dec_len20 {u : Nat} (h : u ≤ 9223372036854775808) : (bs (Lib.decDigits u)).size ≤ 20 := by
  rw [← len_data]
  have := dec_len u 18 (by omega)
  show (Lib.decDigits u).length ≤ 20
  omega
set_option maxHeartbeats 1000000 in
theorem refDigits_any (u : Nat) : ∀ (w : World), u ≤ 9223372036854775808 →
    Calls Tryd.prog 34 #[.int .i64 (-(u : Int))] w fun e w' => e = .returned (.string (bs (Lib.decDigits u))) ∧ Below w.heap.size w w' := by
  induction u using Nat.strongRecOn with
  | _ u ih =>
    intro w hu
    by_cases h : u < 10
    · have F := Lib.hid (dec_first h)
      have hcv := conv_one u (48 + (u : Int)) (by omega)
      go_enter Tryd.func34, Tryd.ntmps34
      go_wp2_with (fail)
      go_ret
      exact ⟨rets1 (by rw [F.out]), (Below.refl _ _).alloc (Nat.le_refl _) _⟩
    · have F := Lib.hid (dec_last h)
      have ih' := fun w => ih (u / 10) (by omega) w (by omega)
      rw [show (-((u / 10 : Nat) : Int)) = IntKind.i64.wrap (-((u : Int) / 10)) by rw [IntKind.wrap_i64]; omega] at ih'
      have IH := Lib.hid ih'
      have L := dec_len20 (u := u / 10) (by omega)
      have L2 : (Lib.decDigits (u / 10)).length ≤ 20 := by rw [← len_data] at L; exact L
      have hcv := conv_one u _ (dc_wrap u)
      have DW := Lib.hid (dc_wrap u)
      have hcv4 := conv_later (wr := w) (w1 := (w.alloc (.cells #[.int .u8 (IntKind.u8.wrap (IntKind.i64.wrap (48 + (u : Int).tmod 10)))] 5)).drew) u _ (dc_wrap u) ((Below.refl _ _).drew)
      clear ih ih'
      go_enter Tryd.func34, Tryd.ntmps34
      go_wp2_with (fail)
      go_region_with (go_at_call 34; refine (IH.out _).mono ?_; rintro e w1 ⟨rfl, hb1⟩; first | (have hcv3 : Sem.run Tryd.prog (convert 48 9 (.slice (some ⟨w.heap.size, 0, none⟩) 1 1)) w1 = .ok (.string ⟨#[dc u]⟩) w1 := conv_later (wr := w) u _ DW.out (((Below.refl _ _).drew).trans hb1)) | skip)
      all_goals go_wp2
      all_goals go_ret
      all_goals
        have e : bs (Lib.decDigits (u / 10)) ++ ⟨#[dc u]⟩ = bs (Lib.decDigits u) := bs_inj (by rw [F.out]; simp)
        first
        | exact ⟨rets1 e, ((Below.refl _ _).drew.trans hb1).alloc hb1.size _⟩
        | exact ⟨rets1 e, (((Below.refl _ _).alloc (Nat.le_refl _) _).drew).trans (hb1.mono (by show w.heap.size ≤ (w.alloc _).heap.size; rw [alloc_size]; omega))⟩

set_option maxHeartbeats 400000 in
theorem refDecimal_any (n : Int) (w : World) (h0 : -9223372036854775808 ≤ n) (h1 : n ≤ 9223372036854775807) :
    Calls Tryd.prog 27 #[.int .i64 n] w fun e w' => e = .returned (.string (bs (Lib.itoa n))) ∧ Below w.heap.size w w' := by
  by_cases h : n < 0
  · have F : Hid (bs (Lib.itoa n) = ⟨#[45]⟩ ++ bs (Lib.decDigits n.natAbs)) := Lib.hid (bs_inj (by unfold Lib.itoa; rw [if_pos h]; simp))
    have hd := refDigits_any n.natAbs w (by omega)
    rw [show -(n.natAbs : Int) = n by omega] at hd
    have HD := Lib.hid hd
    have L := dec_len20 (u := n.natAbs) (by omega)
    have L2 : (Lib.decDigits n.natAbs).length ≤ 20 := by rw [← len_data] at L; exact L
    clear hd
    go_enter Tryd.func27, Tryd.ntmps27
    go_wp2_with (first | (go_at_call 34; refine HD.out.mono ?_; rintro e w1 ⟨rfl, hb1⟩) | go_in)
    go_ret
    exact ⟨rets1 F.out.symm, by assumption⟩
  · have F : Hid (bs (Lib.itoa n) = bs (Lib.decDigits n.natAbs)) := Lib.hid (by unfold Lib.itoa; rw [if_neg h, show n.toNat = n.natAbs by omega])
    have hd := refDigits_any n.natAbs w (by omega)
    rw [show -(n.natAbs : Int) = -n by omega] at hd
    have HD := Lib.hid hd
    clear hd
    go_enter Tryd.func27, Tryd.ntmps27
    go_wp2_with (first | (go_at_call 34; refine HD.out.mono ?_; rintro e w1 ⟨rfl, hb1⟩) | go_in)
    go_ret
    exact ⟨rets1 F.out.symm, by assumption⟩
theorem itoa_size {n : Int} (h0 : -9223372036854775808 ≤ n) (h1 : n ≤ 9223372036854775807) : (bs (Lib.itoa n)).size ≤ 20 := by
  rw [← len_data]; exact itoa_len h0 h1
set_option maxHeartbeats 400000 in
theorem refText_any (s : ByteArray) (w : World) (hs : s.size ≤ 140737488351232) :
    Calls Tryd.prog 12 #[.string s] w fun e w' => e = .returned (.string (bs (textP s.data.toList))) ∧ Below w.heap.size w w' := by
  have F : Hid ((bs (Lib.itoa (s.size : Int)) ++ ⟨#[58]⟩) ++ s = bs (textP s.data.toList)) := Lib.hid (bs_inj (by unfold textP; rw [len_data]; simp))
  have L := itoa_size (n := (s.size : Int)) (by omega) (by omega)
  have L2 := itoa_len (n := (s.size : Int)) (by omega) (by omega)
  go_enter Tryd.func12, Tryd.ntmps12
  go_wp2_with (first | (go_at_call 27; refine (refDecimal_any (s.size : Int) _ (by omega) (by omega)).mono ?_; rintro e w1 ⟨rfl, hb1⟩) | go_in)
  go_ret
  exact ⟨rets1 F.out, by assumption⟩
set_option maxHeartbeats 400000 in
theorem refNumber_any (n : Int) (w : World) (h0 : -9223372036854775808 ≤ n) (h1 : n ≤ 9223372036854775807) :
    Calls Tryd.prog 14 #[.int .i64 n] w fun e w' => e = .returned (.string (bs (numP n))) ∧ Below w.heap.size w w' := by
  have F : Hid (bs (Lib.itoa n) ++ ⟨#[59]⟩ = bs (numP n)) := Lib.hid (bs_inj (by unfold numP; simp))
  have L := itoa_size h0 h1
  have L2 := itoa_len h0 h1
  go_enter Tryd.func14, Tryd.ntmps14
  go_wp2_with (first | (go_at_call 27; refine (refDecimal_any n _ h0 h1).mono ?_; rintro e w1 ⟨rfl, hb1⟩) | go_in)
  go_ret
  exact ⟨rets1 F.out, by assumption⟩
end Go.Proofs.YtpfnameeoadbkaaDoor.PackW
