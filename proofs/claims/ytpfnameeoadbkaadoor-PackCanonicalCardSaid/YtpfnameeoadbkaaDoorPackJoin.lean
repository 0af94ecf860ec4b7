/-
  What Text, Number and List of package pack return.
-/
import Derived.Test.YtpfnameeoadbkaaDoorPackTakes
import Derived.Lib.JoinLaws
import Derived.Lib.EndianMore
import Derived.Laws.BytesArg
namespace Go.Proofs.YtpfnameeoadbkaaDoor.PackW
open Go Go.RowKit Go.Proofs.YtpfnameeoadbkaaDoor.NumM Go.Proofs.YtpfnameeoadbkaaDoor.PackM

/-- The first k parts, one behind the other. -/
def catP (P : Nat → ByteArray) : Nat → List UInt8
  | 0 => []
  | k + 1 => catP P k ++ (P k).data.toList
theorem catP_next (P : Nat → ByteArray) (k : Nat) : (catP P (k + 1)).length = (catP P k).length + (P k).size := by
  show (catP P k ++ (P k).data.toList).length = _
  rw [List.length_append, len_data]
theorem catP_le (P : Nat → ByteArray) {k n : Nat} (h : k ≤ n) : (catP P k).length ≤ (catP P n).length := by
  induction n with
  | zero => rw [show k = 0 by omega]; exact Nat.le_refl _
  | succ n ih =>
    by_cases hk : k = n + 1
    · rw [hk]; exact Nat.le_refl _
    · have := ih (by omega)
      rw [catP_next]; omega
/-- What the array holds when the first parts lie in it. -/
def held (l : List UInt8) (j : Nat) : Value := .int .u8 (l.getD j 0).toNat
theorem held_nil (j : Nat) : held [] j = .int .u8 0 := rfl
theorem held_next (l : List UInt8) (p : ByteArray) (j : Nat) :
    (if l.length ≤ j ∧ j < l.length + (byteCells p).length then (byteCells p)[j - l.length]?.getD default else held l j) = held (l ++ p.data.toList) j := by
  rw [byteCells_length]
  unfold held
  by_cases h : l.length ≤ j ∧ j < l.length + p.size
  · rw [if_pos h, List.getD_eq_getElem?_getD, List.getElem?_append_right h.1]
    unfold byteCells
    have hl : j - l.length < p.data.toList.length := by rw [len_data]; omega
    rw [List.getElem?_map, List.getElem?_eq_getElem hl]
    rfl
  · rw [if_neg h, List.getD_eq_getElem?_getD, List.getD_eq_getElem?_getD]
    by_cases h1 : j < l.length
    · rw [List.getElem?_append_left h1]
    · rw [List.getElem?_eq_none (by omega), List.getElem?_eq_none (by rw [List.length_append, len_data]; omega)]
theorem infoU8 : (Tryd.prog.info? 5).map (fun i => (i.zero, i.size, i.bytes)) = some (some (.int .u8 0), 1, 1) := by kernel_rfl
theorem rets1 {a b : ByteArray} (h : a = b) : Ending.returned (.string a) = .returned (.string b) := by rw [h]

set_option maxHeartbeats 1000000 in
theorem joined_any (w : World) (b off n cap : Nat) (P : Nat → ByteArray) (hcell : ∀ i, i < n → w.cell? ⟨b, off + i, none⟩ = some (.string (P i))) (hb : b < w.heap.size) (hn : n ≤ 140737488355328)
    (hlen : (catP P n).length ≤ 281474976710656) :
    Calls Tryd.prog 25 #[.slice (some ⟨b, off, none⟩) n cap] w fun e w' => e = .returned (.string (bs (catP P n))) ∧ Below w.heap.size w w' := by
  obtain ⟨T, hT⟩ : ∃ T, (catP P n).length = T := ⟨_, rfl⟩
  have hmk := run_make_row' (P := Tryd.prog) 48 5 (.int .u8 0) 1 Tryd.underlying48 infoU8 rfl .i64 .i64 T (by omega) (by omega)
  have HC := Lib.hid hcell
  have HT := Lib.hid hT
  rw [hT] at hlen
  clear hcell hT
  go_enter Tryd.func25, Tryd.ntmps25
  go_wp2
  go_loop [3, 12] (fun z i => ∃ k : Nat, k ≤ n ∧ i = .int .i64 k ∧ z = .int .i64 (catP P k).length) (fun _ i => n - (intOf i).toNat)
  case atStart => exact ⟨0, Nat.zero_le _, rfl, rfl⟩
  case round =>
    obtain ⟨k, hk, rfl, rfl⟩ := hrel
    by_cases hlt : k < n
    · have hcx := HC.out k hlt
      have NX := Lib.hid (catP_next P k)
      have hle : (catP P k).length + (P k).size ≤ T := by
        have := catP_le P (k := k + 1) (n := n) (by omega)
        rw [catP_next, HT.out] at this
        exact this
      obtain ⟨p, hp⟩ : ∃ p, P k = p := ⟨_, rfl⟩
      obtain ⟨z, hz⟩ : ∃ z, (catP P k).length = z := ⟨_, rfl⟩
      rw [hp] at hcx
      rw [hp, hz] at hle NX
      rw [hz]
      clear hp hz
      go_wp2
      go_round
      case rel => exact ⟨k + 1, by omega, by go_num, by rw [NX.out]; go_num⟩
      case measure => simp [intOf]; omega
    · obtain rfl : n = k := by omega
      rw [HT.out]
      go_wp2
      go_loopw [7, 25] (fun en i wr => ∃ k : Nat, k ≤ n ∧ i = .int .i64 k ∧ en = .int .i64 (catP P k).length ∧ wr.rowIs w.heap.size 5 T (held (catP P k)) ∧ Below w.heap.size w wr) (fun _ i _ => n - (intOf i).toNat)
      case atStart => exact ⟨0, Nat.zero_le _, rfl, rfl, (World.rowIs_made w (.int .u8 0) T 5).congr (fun j _ => (held_nil j).symm), (Below.refl _ _).alloc (Nat.le_refl _) _⟩
      case round =>
        obtain ⟨k, hk, rfl, rfl, hrow, hbel⟩ := hrel
        have HR := Lib.hid hrow
        have HB := Lib.hid hbel
        clear hrow hbel
        by_cases hlt : k < n
        · have hcx := (HB.out.cell (p := ⟨b, off + k, none⟩) hb).trans (HC.out k hlt)
          have NX := Lib.hid (catP_next P k)
          have NC : Hid (catP P (k + 1) = catP P k ++ (P k).data.toList) := Lib.hid rfl
          have hle : (catP P k).length + (P k).size ≤ T := by
            have := catP_le P (k := k + 1) (n := n) (by omega)
            rw [catP_next, HT.out] at this
            exact this
          obtain ⟨p, hp⟩ : ∃ p, P k = p := ⟨_, rfl⟩
          obtain ⟨z, hz⟩ : ∃ z, (catP P k).length = z := ⟨_, rfl⟩
          rw [hp] at hcx NC
          rw [hp, hz] at hle NX
          rw [hz]
          have HZ := Lib.hid hz
          clear hp hz
          go_wp2_with (first
            | (at_builtin; refine wpList_append_room1 _ rfl (.tmp 35) (.tmp 36) 48 9 rfl 5 (.int .u8 0) 1 Tryd.underlying48 infoU8 w.heap.size 0 z (z + p.size) rfl _ rfl p.size (byteCells p) (Src.ofString _ Tryd.underlying9 p) (Nat.le_refl _) (fun j hj => by rw [byteCells_length] at hj; rw [HR.out.cell (by omega)]; rfl) (fun j _ => HR.out.frozen _) ?_)
            | go_in)
          go_roundw
          case rel => exact ⟨k + 1, by omega, by go_num, by rw [NX.out]; go_num, (rowIs_setCells _ _ _ _ HR.out).congr (fun j _ => by rw [NC.out, ← held_next, HZ.out]), Go.below_setCells (Nat.le_refl _) _ _ _ HB.out⟩
          case measure => simp [intOf]; omega
        · obtain rfl : n = k := by omega
          have hconv := run_convert_bytes_arg (P := Tryd.prog) wr 48 5 Tryd.underlying48 Tryd.underlying5 w.heap.size 0 T T ((catP P n).map (fun c => (c.toNat : Int))) (by rw [List.length_map, HT.out]) (fun i hi => by rw [HR.out.cell (by omega)]; unfold held; simp [HT.out, hi]) 9 Tryd.underlying9
          have e : strOfNums ((catP P n).map (fun c => (c.toNat : Int))) = bs (catP P n) := by
            unfold strOfNums bs
            simp [List.map_map, Function.comp_def]
          rw [e] at hconv
          rw [HT.out]
          go_wp2
          go_ret
          exact ⟨rfl, HB.out⟩

def PL (ys : List (List UInt8)) (i : Nat) : ByteArray := bs (ys.getD i [])
theorem catP_list (ys : List (List UInt8)) : ∀ k, k ≤ ys.length → catP (PL ys) k = (ys.take k).flatten
  | 0, _ => by simp [catP]
  | k + 1, h => by
    have e : (PL ys k).data.toList = ys[k] := by simp [PL, List.getD_eq_getElem?_getD, List.getElem?_eq_getElem (show k < ys.length by omega)]
    rw [catP, catP_list ys k (by omega), List.take_succ_eq_append_getElem (by omega), e, List.flatten_append, List.flatten_cons, List.flatten_nil, List.append_nil]
theorem joined_list (w : World) (b off cap : Nat) (ys : List (List UInt8)) (hcell : ∀ i (h : i < ys.length), w.cell? ⟨b, off + i, none⟩ = some (.string (bs ys[i]))) (hb : b < w.heap.size)
    (hn : ys.length ≤ 140737488355328) (hlen : ys.flatten.length ≤ 281474976710656) :
    Calls Tryd.prog 25 #[.slice (some ⟨b, off, none⟩) ys.length cap] w fun e w' => e = .returned (.string (bs ys.flatten)) ∧ Below w.heap.size w w' := by
  have e : catP (PL ys) ys.length = ys.flatten := by rw [catP_list ys _ (Nat.le_refl _), List.take_length]
  have h := joined_any w b off ys.length cap (PL ys) (fun i hi => by rw [hcell i hi]; simp [PL, List.getD_eq_getElem?_getD, List.getElem?_eq_getElem hi]) hb hn (by rw [e]; exact hlen)
  rw [e] at h
  exact h
theorem dec_len (u k : Nat) (h : u < 10 ^ (k + 1)) : (Lib.decDigits u).length ≤ k + 1 := by
  induction k generalizing u with
  | zero => rw [dec_small (by omega)]; simp
  | succ k ih =>
    by_cases h1 : u < 10
    · rw [dec_small h1]; simp
    · rw [dec_big h1, List.length_append]
      have := ih (u / 10) (by rw [Nat.pow_succ] at h; omega)
      simp only [List.length_cons, List.length_nil]; omega
theorem itoa_len {n : Int} (h0 : -9223372036854775808 ≤ n) (h1 : n ≤ 9223372036854775807) : (Lib.itoa n).length ≤ 20 := by
  unfold Lib.itoa
  by_cases h : n < 0
  · rw [if_pos h, List.length_cons]
    have := dec_len n.natAbs 18 (by omega)
    omega
  · rw [if_neg h]
    have := dec_len n.toNat 18 (by omega)
    omega
theorem alloc_cell (w : World) (o : Array Value) (t : TypeId) (i : Nat) (v : Value) (h : o[i]? = some v) : (w.alloc (.cells o t)).cell? ⟨w.heap.size, i, none⟩ = some v := by
  have hb : (w.alloc (.cells o t)).heap[w.heap.size]? = some (.cells o t) := Go.Deep.blk_alloc_new _ _
  exact (cell_of_row _ _ i o t (0, 0) hb).trans h
theorem alloc_size (w : World) (o : Obj) : (w.alloc o).heap.size = w.heap.size + 1 := Go.Deep.nblk_alloc _ _

set_option maxHeartbeats 400000 in
theorem text_any (s : ByteArray) (w : World) (hs : s.size ≤ 140737488351232) (ht : Tab w) :
    Calls Tryd.prog 11 #[.string s] w fun e w' => e = .returned (.string (bs (textP s.data.toList))) ∧ Below w.heap.size w w' := by
  have HP := Lib.hid ht.pow10
  have L := Lib.hid (itoa_len (n := (s.size : Int)) (by omega) (by omega))
  clear ht
  go_enter Tryd.func11, Tryd.ntmps11
  go_wp2_with (first
    | (go_at_call 26; refine (formatCode_any (s.size : Int) _ (by omega) (by omega) HP.out).mono ?_; rintro e w1 ⟨rfl, hb1⟩)
    | (go_at_call 25; refine (joined_list _ _ 0 3 [Lib.itoa (s.size : Int), [58], s.data.toList] ?hc ?hb (by simp) ?hl).mono ?_; rotate_right; rintro e w2 ⟨rfl, hb2⟩)
    | go_in)
  case hc =>
    intro i hi
    rw [Nat.zero_add]
    refine alloc_cell _ _ _ _ _ ?_
    match i, hi with
    | 0, _ => rfl
    | 1, _ => rfl
    | 2, _ => rfl
  case hb => rw [alloc_size]; omega
  case hl =>
    have := L.out
    have := len_data s
    simp only [List.flatten_cons, List.flatten_nil, List.length_append, List.length_cons, List.length_nil]
    omega
  go_ret
  exact ⟨rfl, (hb1.alloc hb1.size _).trans (hb2.mono (by rw [alloc_size]; have := hb1.size; omega))⟩
set_option maxHeartbeats 400000 in
theorem number_any (n : Int) (w : World) (h0 : -9223372036854775808 ≤ n) (h1 : n ≤ 9223372036854775807) (ht : Tab w) :
    Calls Tryd.prog 13 #[.int .i64 n] w fun e w' => e = .returned (.string (bs (numP n))) ∧ Below w.heap.size w w' := by
  have HP := Lib.hid ht.pow10
  have L := Lib.hid (itoa_len h0 h1)
  clear ht
  go_enter Tryd.func13, Tryd.ntmps13
  go_wp2_with (first
    | (go_at_call 26; refine (formatCode_any n _ h0 h1 HP.out).mono ?_; rintro e w1 ⟨rfl, hb1⟩)
    | (go_at_call 25; refine (joined_list _ _ 0 2 [Lib.itoa n, [59]] ?hc ?hb (by simp) ?hl).mono ?_; rotate_right; rintro e w2 ⟨rfl, hb2⟩)
    | go_in)
  case hc =>
    intro i hi
    rw [Nat.zero_add]
    refine alloc_cell _ _ _ _ _ ?_
    match i, hi with
    | 0, _ => rfl
    | 1, _ => rfl
  case hb => rw [alloc_size]; omega
  case hl =>
    have := L.out
    simp only [List.flatten_cons, List.flatten_nil, List.length_append, List.length_cons, List.length_nil]
    omega
  go_ret
  exact ⟨rfl, (hb1.alloc hb1.size _).trans (hb2.mono (by rw [alloc_size]; have := hb1.size; omega))⟩

/-! Slices of texts. -/
/-- The value is a slice of these texts. -/
structure StrsAt (w : World) (v : Value) (ys : List (List UInt8)) : Prop where
  is : ∃ a cap, v = .slice a ys.length cap ∧ ys.length ≤ cap ∧ (ys ≠ [] → ∃ b off, a = some ⟨b, off, none⟩ ∧ b < w.heap.size ∧ ∀ i (h : i < ys.length), w.cell? ⟨b, off + i, none⟩ = some (.string (bs ys[i])))
theorem StrsAt.later {w w' : World} {v : Value} {ys : List (List UInt8)} (h : StrsAt w v ys) (hb : Below w.heap.size w w') : StrsAt w' v ys := by
  obtain ⟨a, cap, hv, hle, hc⟩ := h.is
  refine ⟨a, cap, hv, hle, fun hn => ?_⟩
  obtain ⟨b, off, ha, hlt, hcell⟩ := hc hn
  have hs := hb.size
  exact ⟨b, off, ha, by omega, fun i hi => (hb.cell (p := ⟨b, off + i, none⟩) hlt).trans (hcell i hi)⟩
theorem StrsAt.grow {w w' : World} {v : Value} {ys : List (List UInt8)} {B : Nat} (h : StrsAt w v ys) (hb : Below B w w') (hB : w.heap.size ≤ B) : StrsAt w' v ys := h.later (hb.mono hB)
def strV (l : List UInt8) : Value := .string (bs l)
theorem StrsAt.ofOwn {w : World} {B : Nat} {v : Value} {ys : List (List UInt8)} (h : w.ownsRow B 9 1 v ys.length (ys.map strV)) : StrsAt w v ys := by
  obtain ⟨_, ⟨hv, hn⟩ | ⟨g, cap, cur, hv, _, hg, hle, _, _, htake⟩⟩ := h
  · rw [List.length_eq_zero_iff.1 hn]
    exact ⟨none, 0, hv, Nat.le_refl _, fun x => absurd rfl x⟩
  · refine ⟨some ⟨g, 0, none⟩, cap, hv, hle, fun _ => ⟨g, 0, rfl, (Array.getElem?_eq_some_iff.1 hg).1, fun i hi => ?_⟩⟩
    rw [Nat.zero_add, cell_of_row w g i cur 9 (0, 0) hg]
    have e : (ys.map strV)[i]? = some (.string (bs ys[i])) := by rw [List.getElem?_map, List.getElem?_eq_getElem hi]; rfl
    rw [← htake, Nat.mul_one, List.getElem?_take, if_pos hi] at e
    simpa using e
theorem infoStr : (Tryd.prog.info? 9).map (fun i => (i.zero, i.size, i.bytes)) = some (some (.string ⟨#[]⟩), 1, 16) := by kernel_rfl
theorem owns_lit (w : World) (B : Nat) (l : List UInt8) (hB : B ≤ w.heap.size) : (w.alloc (.cells #[.string (bs l)] 9)).ownsRow B 9 1 (.slice (some ⟨w.heap.size, 0, none⟩) 1 1) 1 ([l].map strV) :=
  ⟨rfl, .inr ⟨w.heap.size, 1, #[.string (bs l)], rfl, hB, Go.Deep.blk_alloc_new _ _, Nat.le_refl _, by decide, rfl, rfl⟩⟩
end Go.Proofs.YtpfnameeoadbkaaDoor.PackW
