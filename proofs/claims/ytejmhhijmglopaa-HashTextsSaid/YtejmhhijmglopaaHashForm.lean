/-
  What 'hexadecimal' of package hash and 'form' of its reference return: the last digits of a number.
-/
import Derived.Test.YtejmhhijmglopaaHashHex
import Derived.Lib.EndianMore
import Derived.Lib.JoinLaws
namespace Go.Proofs.Ytejmhhijmglopaa.HashW
open Go Go.RowKit Go.Proofs.Ytejmhhijmglopaa.HashM

abbrev bs (l : List UInt8) : ByteArray := ⟨l.toArray⟩
theorem bs_data (s : ByteArray) : bs s.data.toList = s := rfl
theorem data_bs (l : List UInt8) : (bs l).data.toList = l := rfl
theorem bs_inj {a b : ByteArray} (h : a.data.toList = b.data.toList) : a = b := by rw [← bs_data a, ← bs_data b, h]
theorem bs_size (l : List UInt8) : (bs l).size = l.length := by rw [← len_data]
theorem rets1 {a b : ByteArray} (h : a = b) : Ending.returned (.string a) = .returned (.string b) := by rw [h]
theorem vals1 {a b : ByteArray} (h : a = b) : Value.string a = .string b := by rw [h]
theorem infoU8 : (Try.prog.info? 5).map (fun i => (i.zero, i.size, i.bytes)) = some (some (.int .u8 0), 1, 1) := by kernel_rfl
theorem alloc_size (w : World) (o : Obj) : (w.alloc o).heap.size = w.heap.size + 1 := Go.Deep.nblk_alloc _ _

/-- What the array holds behind k rounds: the digits stand at its end. -/
def heldN (X n k j : Nat) : Value := .int .u8 ((List.replicate (n - k) 0 ++ sfx X k).getD j 0).toNat
theorem heldN_zero (X n j : Nat) (h : j < n) : heldN X n 0 j = .int .u8 0 := by
  unfold heldN
  have e : (List.replicate (n - 0) (0 : UInt8) ++ sfx X 0).getD j 0 = 0 := by
    rw [show sfx X 0 = [] from rfl, List.append_nil, List.getD_eq_getElem?_getD, List.getElem?_replicate, if_pos (by omega)]; rfl
  rw [e]; rfl
theorem heldN_next (X n k j : Nat) (h : k < n) : (if j = n - 1 - k then Value.int .u8 ((dg (X / 16 ^ k % 16)).toNat : Int) else heldN X n k j) = heldN X n (k + 1) j := by
  unfold heldN
  have e : List.replicate (n - k) (0 : UInt8) = List.replicate (n - (k + 1)) 0 ++ [0] := by rw [← List.replicate_succ']; congr 1; omega
  rw [sfx]
  by_cases hj : j = n - 1 - k
  · rw [if_pos hj, List.getD_eq_getElem?_getD, List.getElem?_append_right (by simp; omega)]
    simp only [List.length_replicate]
    rw [show j - (n - (k + 1)) = 0 by omega]
    rfl
  · rw [if_neg hj, List.getD_eq_getElem?_getD, List.getD_eq_getElem?_getD]
    by_cases h1 : j < n - (k + 1)
    · rw [List.getElem?_append_left (by simp; omega), List.getElem?_append_left (by simp; omega), List.getElem?_replicate, List.getElem?_replicate, if_pos (by omega), if_pos (by omega)]
    · rw [List.getElem?_append_right (by simp; omega), List.getElem?_append_right (by simp; omega)]
      simp only [List.length_replicate]
      rw [show j - (n - (k + 1)) = (j - (n - k)) + 1 by omega, List.getElem?_cons_succ]
theorem heldN_all (X n j : Nat) (h : j < n) : heldN X n n j = .int .u8 (((sfx X n).map (fun c => (c.toNat : Int)))[j]?.getD 0) := by
  unfold heldN
  rw [Nat.sub_self, List.replicate_zero, List.nil_append, List.getD_eq_getElem?_getD, List.getElem?_map]
  have : j < (sfx X n).length := by rw [sfx_len]; exact h
  rw [List.getElem?_eq_getElem this]; rfl
abbrev tabB : ByteArray := ⟨#[48, 49, 50, 51, 52, 53, 54, 55, 56, 57, 97, 98, 99, 100, 101, 102]⟩
theorem tab_all : ∀ n : Fin 16, tabB[n.val]'(n.isLt) = dg n.val := by decide +kernel
theorem and15 (x : UInt64) (k : Nat) : bits .and .u64 (V x / 2 ^ (4 * k)) 15 = ((x.toNat / 16 ^ k % 16 : Nat) : Int) := by
  have e : V x / 2 ^ (4 * k) = ((x.toNat / 16 ^ k : Nat) : Int) := by
    unfold V
    rw [show (16 : Nat) = 2 ^ 4 from rfl, ← Nat.pow_mul, Int.natCast_ediv, Int.natCast_pow]; rfl
  have hx := UInt64.toNat_lt x
  have hd := Nat.div_le_self x.toNat (16 ^ k)
  rw [e, show (15 : Int) = ((15 : Nat) : Int) from rfl, u64_and_nat _ _ (by omega) (by omega), show 15 = 2 ^ 4 - 1 from rfl, Nat.and_two_pow_sub_one_eq_mod]
theorem hex_index (x : UInt64) (k : Nat) (t : TypeId) (ht : Try.prog.underlying t = some .string) (w : World) :
    (Instr.index t (.string tabB) (.int .u64 (bits .and .u64 (V x / 2 ^ (4 * k)) 15))).run Try.prog w = .ok (.int .u8 (dg (x.toNat / 16 ^ k % 16)).toNat) w := by
  rw [and15]
  have h : x.toNat / 16 ^ k % 16 < 16 := Nat.mod_lt _ (by omega)
  generalize x.toNat / 16 ^ k % 16 = d at *
  have hs : tabB.size = 16 := rfl
  rw [run_index_string w t tabB .u64 d ht, dif_pos ⟨by omega, by rw [hs]; omega⟩]
  simp only [Int.toNat_natCast]
  rw [tab_all ⟨d, h⟩]
set_option maxHeartbeats 1000000 in
theorem hexadecimal_any (x : UInt64) (n : Nat) (w : World) (hn : n ≤ 16) :
    Calls Try.prog 28 #[.int .u64 (V x), .int .i64 n] w fun e w' => e = .returned (.string (bs (sfx x.toNat n))) ∧ Below w.heap.size w w' := by
  have hmk := run_make_row' (P := Try.prog) 38 5 (.int .u8 0) 1 Try.underlying38 infoU8 rfl .i64 .i64 n (by omega) (by omega)
  go_enter Try.func28, Try.ntmps28
  go_wp2
  go_loopw [10] (fun i wr => ∃ k : Nat, k ≤ n ∧ i = .int .i64 k ∧ wr.rowIs w.heap.size 5 n (heldN x.toNat n k) ∧ Below w.heap.size w wr) (fun i _ => n - (intOf i).toNat)
  case atStart => exact ⟨0, Nat.zero_le _, rfl, (World.rowIs_made w (.int .u8 0) n 5).congr (fun j hj => (heldN_zero _ _ _ hj).symm), (Below.refl _ _).alloc (Nat.le_refl _) _⟩
  case round =>
    obtain ⟨k, hk, rfl, hrow, hbel⟩ := hrel
    have HR := Lib.hid hrow
    have HB := Lib.hid hbel
    clear hrow hbel
    by_cases hlt : k < n
    · have hix := hex_index x k 9 Try.underlying9
      have hc := HR.out.cell (i := n - 1 - k) (by omega)
      have hf := HR.out.frozen (n - 1 - k)
      go_wp2
      go_roundw
      case rel => exact ⟨k + 1, by omega, by go_num, (HR.out.set (n - 1 - k) _).congr (fun j _ => heldN_next _ _ _ _ hlt), HB.out.setCell (Nat.le_refl _) _⟩
      case measure => simp [intOf]; omega
    · obtain rfl : n = k := by omega
      have hconv := run_convert_bytes_arg (P := Try.prog) wr 38 5 Try.underlying38 Try.underlying5 w.heap.size 0 n n ((sfx x.toNat n).map (fun c => (c.toNat : Int))) (by rw [List.length_map, sfx_len]) (fun i hi => by rw [Nat.zero_add, HR.out.cell (by omega), heldN_all _ _ _ (by omega)]; simp) 9 Try.underlying9
      have e : strOfNums ((sfx x.toNat n).map (fun c => (c.toNat : Int))) = bs (sfx x.toNat n) := by
        unfold strOfNums bs
        simp [List.map_map, Function.comp_def]
      rw [e] at hconv
      go_wp2
      go_ret
      exact ⟨rfl, HB.out⟩

/-! ### The reference's form -/
theorem tab_cut (d : Nat) (h : d < 16) : tabB.extract d (d + 1) = bs [dg d] := by
  have all : ∀ n : Fin 16, tabB.extract n.val (n.val + 1) = bs [dg n.val] := by decide +kernel
  exact all ⟨d, h⟩
/-- What is left of the number behind k rounds, and its last digit. -/
def Q (X k : Nat) : Int := ((X / 16 ^ k : Nat) : Int)
theorem Q_zero (x : UInt64) : V x = Q x.toNat 0 := by unfold Q V; rw [Nat.pow_zero, Nat.div_one]
theorem Q_mod (X k : Nat) : (Q X k).tmod 16 = ((X / 16 ^ k % 16 : Nat) : Int) := by
  unfold Q
  generalize X / 16 ^ k = q
  rw [Int.tmod_eq_emod_of_nonneg (by omega)]
  omega
theorem Q_div (X k : Nat) (h : X < 18446744073709551616) : IntKind.u64.wrap ((Q X k).tdiv 16) = Q X (k + 1) := by
  have e : X / 16 ^ (k + 1) = X / 16 ^ k / 16 := by rw [Nat.pow_succ, Nat.div_div_eq_div_mul]
  have hd := Nat.div_le_self X (16 ^ k)
  unfold Q
  rw [e]
  generalize X / 16 ^ k = q at *
  rw [IntKind.wrap_u64, Int.tdiv_eq_ediv_of_nonneg (by omega)]
  omega
theorem wrapD (d : Nat) (h : d < 16) : IntKind.u64.wrap ((d : Int) + 1) = (d : Int) + 1 := by rw [IntKind.wrap_u64]; omega
theorem form_step (X k d : Nat) (hd : X / 16 ^ k % 16 = d) (h : d < 16) : tabB.extract d (d + 1) ++ bs (sfx X k) = bs (sfx X (k + 1)) := by
  rw [tab_cut d h, sfx, hd]
  exact bs_inj (by simp)
set_option maxHeartbeats 1000000 in
theorem form_any (x : UInt64) (n : Nat) (w : World) (hn : n ≤ 16) :
    Calls Try.prog 29 #[.int .u64 (V x), .int .i64 n] w fun e w' => e = .returned (.string (bs (sfx x.toNat n))) ∧ w = w' := by
  rw [Q_zero]
  go_enter Try.func29, Try.ntmps29
  go_wp2
  go_loop [0, 5, 6] (fun y s i => ∃ k : Nat, k ≤ n ∧ i = .int .i64 k ∧ s = .string (bs (sfx x.toNat k)) ∧ y = .int .u64 (Q x.toNat k)) (fun _ _ i => n - (intOf i).toNat)
  case atStart => exact ⟨0, Nat.zero_le _, rfl, rfl, rfl⟩
  case round =>
    obtain ⟨k, hk, rfl, rfl, rfl⟩ := hrel
    by_cases hlt : k < n
    · have hm := Q_mod x.toNat k
      have hq := Q_div x.toNat k (UInt64.toNat_lt x)
      have hl : (sfx x.toNat k).length ≤ 16 := by rw [sfx_len]; omega
      have h16 : x.toNat / 16 ^ k % 16 < 16 := Nat.mod_lt _ (by omega)
      obtain ⟨d, hd⟩ : ∃ d, x.toNat / 16 ^ k % 16 = d := ⟨_, rfl⟩
      have S := Lib.hid (form_step x.toNat k d hd (by omega))
      rw [hd] at hm h16
      clear hd
      have hw := wrapD d h16
      go_wp2
      go_round
      case rel => exact ⟨k + 1, by omega, by go_num, vals1 S.out, rfl⟩
      case measure => simp [intOf]; omega
    · obtain rfl : n = k := by omega
      go_wp2
      go_ret
      exact ⟨rfl, rfl⟩
end Go.Proofs.Ytejmhhijmglopaa.HashW
