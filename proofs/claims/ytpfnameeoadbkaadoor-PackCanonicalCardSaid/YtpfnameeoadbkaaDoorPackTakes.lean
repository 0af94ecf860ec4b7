/-
  What TakeText and TakeNumber return, in package pack and in its reference.
-/
import Derived.Test.YtpfnameeoadbkaaDoorPackWalks
namespace Go.Proofs.YtpfnameeoadbkaaDoor.PackW
open Go Go.RowKit Go.Proofs.YtpfnameeoadbkaaDoor.NumM Go.Proofs.YtpfnameeoadbkaaDoor.PackM

/-- The text, and the number, at an offset: what is taken, how far, the error. -/
def tx (s : ByteArray) (k : Nat) : List UInt8 × Nat × Int := textL (s.data.toList.drop k)
def nx (s : ByteArray) (k : Nat) : Int × Nat × Int := numL (s.data.toList.drop k)
def txO (s : ByteArray) (k : Nat) : Int := if (tx s k).2.2 = 0 then ((k + (tx s k).2.1 : Nat) : Int) else 0
def nxO (s : ByteArray) (k : Nat) : Int := if (nx s k).2.2 = 0 then ((k + (nx s k).2.1 : Nat) : Int) else 0
theorem drop_len (s : ByteArray) (k : Nat) : (s.data.toList.drop k).length = s.size - k := by rw [List.length_drop, len_data]
theorem txt_tk (s : ByteArray) (k : Nat) : tk s k (dEnd s k) 58 = sizeL (s.data.toList.drop k) := by
  unfold tk sizeL dEnd
  rw [show k + dgs (s.data.toList.drop k) - k = dgs (s.data.toList.drop k) by omega, List.drop_drop]
/-- Where a number's digits begin. -/
def nb (s : ByteArray) (k : Nat) : Nat := k + sgn (s.data.toList.drop k)
theorem nb_le {s : ByteArray} {k : Nat} (h : k ≤ s.size) : nb s k ≤ s.size := by
  have := sgn_le (s.data.toList.drop k)
  rw [drop_len] at this
  unfold nb; omega
theorem nb_yes {s : ByteArray} {k : Nat} (h : k < s.size) (g : s[k] = 45) : nb s k = k + 1 := by
  unfold nb
  rw [sgn_yes (by rw [drop_at s k h, g]; rfl)]
theorem nb_no {s : ByteArray} {k : Nat} (h : k < s.size) (g : ¬ s[k] = 45) : nb s k = k := by
  unfold nb
  rw [sgn_not (by rw [drop_at s k h]; simpa using g)]; rfl
theorem nb_end {s : ByteArray} {k : Nat} (h : ¬ k < s.size) : nb s k = k := by
  unfold nb
  rw [drop_end s k (by omega)]; rfl
theorem num_tk (s : ByteArray) (k : Nat) : tk s k (dEnd s (nb s k)) 59 = nx s k := by
  have e : dEnd s (nb s k) = k + nLen (s.data.toList.drop k) := by
    unfold dEnd nb nLen
    rw [List.drop_drop]; omega
  unfold tk nx numL
  rw [e, show k + nLen (s.data.toList.drop k) - k = nLen (s.data.toList.drop k) by omega, List.drop_drop]
theorem takeL_len {num rest : List UInt8} {m : UInt8} (h : (takeL num rest m).2.2 = 0) : (takeL num rest m).2.1 = num.length + 1 := by
  unfold takeL at h ⊢
  by_cases h0 : (unitL num rest m).2 = 0
  · rw [if_pos h0]
  · rw [if_neg h0] at h; exact absurd h h0
theorem num_O {s : ByteArray} {k : Nat} : tkO s k (dEnd s (nb s k)) 59 = nxO s k := by
  unfold tkO nxO
  rw [num_tk]
  by_cases h : (nx s k).2.2 = 0
  · rw [if_pos h, if_pos h]
    have l : (nx s k).2.1 = _ := takeL_len h
    have hn := nLen_le (s.data.toList.drop k)
    rw [drop_len] at hn
    have e : dEnd s (nb s k) = k + nLen (s.data.toList.drop k) := by
      unfold dEnd nb nLen
      rw [List.drop_drop]; omega
    rw [l, e, List.length_take, drop_len]; omega
  · rw [if_neg h, if_neg h]
theorem takeL_err {num rest : List UInt8} {m : UInt8} (h : ¬ (takeL num rest m).2.2 = 0) : takeL num rest m = (0, 0, (takeL num rest m).2.2) := by
  unfold takeL at h ⊢
  by_cases h0 : (unitL num rest m).2 = 0
  · rw [if_pos h0] at h; exact absurd rfl h
  · rw [if_neg h0]

def tText (s : ByteArray) (k : Nat) (w : World) (e : Ending) (w' : World) : Prop :=
  e = .returned (.tuple #[.string (bs (tx s k).1), .int .i64 (txO s k), .int .i64 (tx s k).2.2]) ∧ Below w.heap.size w w'
def tNum (s : ByteArray) (k : Nat) (w : World) (e : Ending) (w' : World) : Prop :=
  e = .returned (.tuple #[.int .i64 (nx s k).1, .int .i64 (nxO s k), .int .i64 (nx s k).2.2]) ∧ Below w.heap.size w w'
theorem rets3 {a d : ByteArray} {b c e f : Int} (h : (a, b, c) = (d, e, f)) : Ending.returned (.tuple #[.string a, .int .i64 b, .int .i64 c]) = Ending.returned (.tuple #[.string d, .int .i64 e, .int .i64 f]) := by
  cases h; rfl
theorem tx_err {s : ByteArray} {k : Nat} (h : ¬ (tk s k (dEnd s k) 58).2.2 = 0) : ((⟨#[]⟩ : ByteArray), (0 : Int), (tk s k (dEnd s k) 58).2.2) = (bs (tx s k).1, txO s k, (tx s k).2.2) := by
  have e : tx s k = ([], 0, (tk s k (dEnd s k) 58).2.2) := by
    rw [txt_tk] at h ⊢
    unfold tx textL
    rw [if_neg h]
  unfold txO
  rw [e, if_neg h]
theorem tx_size {s : ByteArray} {k : Nat} (hk : k ≤ s.size) (h : (tk s k (dEnd s k) 58).2.2 = 0) :
    ∃ n : Nat, (tk s k (dEnd s k) 58).1 = n ∧ tkO s k (dEnd s k) 58 = ((dEnd s k + 1 : Nat) : Int) ∧ dEnd s k + 1 ≤ s.size ∧ n ≤ 9223372036854775807 ∧ (tk s k (dEnd s k) 58).2.1 = dEnd s k + 1 - k := by
  have h' := h
  rw [txt_tk] at h'
  obtain ⟨n, q, e, h1, h2, h3⟩ := sizeL_ok h'
  have l : (sizeL (s.data.toList.drop k)).2.1 = ((s.data.toList.drop k).take (dgs (s.data.toList.drop k))).length + 1 := takeL_len h'
  have hd := dgs_le (s.data.toList.drop k)
  rw [List.length_take, Nat.min_eq_left hd] at l
  have hl : (s.data.toList.drop k).length = (Lib.itoa (n : Int)).length + 1 + q.length := by rw [e]; simp; omega
  rw [drop_len] at hl
  refine ⟨n, by rw [txt_tk, h1], by unfold tkO; rw [if_pos h]; omega, ?_, h3, ?_⟩
  · unfold dEnd; omega
  · rw [txt_tk, l]; unfold dEnd; omega
theorem tx_over {s : ByteArray} {k n : Nat} (hk : k ≤ s.size) (h : (tk s k (dEnd s k) 58).2.2 = 0) (hn : (tk s k (dEnd s k) 58).1 = n) (hl : s.size - (dEnd s k + 1) < n) :
    ((⟨#[]⟩ : ByteArray), (0 : Int), (6 : Int)) = (bs (tx s k).1, txO s k, (tx s k).2.2) := by
  obtain ⟨_, _, _, a, _, b⟩ := tx_size hk h
  rw [txt_tk] at h hn b
  have e : tx s k = ([], 0, 6) := by
    unfold tx textL
    rw [if_pos h, if_pos (by
      rw [b, List.drop_drop, show k + (dEnd s k + 1 - k) = dEnd s k + 1 by have := le_dEnd s k; omega, drop_len, hn]; omega)]
  unfold txO
  rw [e]; rfl
theorem tx_ok {s : ByteArray} {k n : Nat} (hk : k ≤ s.size) (h : (tk s k (dEnd s k) 58).2.2 = 0) (hn : (tk s k (dEnd s k) 58).1 = n) (hl : ¬ s.size - (dEnd s k + 1) < n) :
    (s.extract (dEnd s k + 1) (dEnd s k + 1 + n), ((dEnd s k + 1 + n : Nat) : Int), (0 : Int)) = (bs (tx s k).1, txO s k, (tx s k).2.2) := by
  obtain ⟨_, _, _, a, _, b⟩ := tx_size hk h
  rw [txt_tk] at h hn b
  have hle := le_dEnd s k
  have e : tx s k = ((s.data.toList.drop (dEnd s k + 1)).take n, dEnd s k + 1 - k + n, 0) := by
    unfold tx textL
    rw [if_pos h, if_neg (by
      rw [b, List.drop_drop, show k + (dEnd s k + 1 - k) = dEnd s k + 1 by omega, drop_len, hn]; omega), b, List.drop_drop, show k + (dEnd s k + 1 - k) = dEnd s k + 1 by omega, hn, Int.toNat_natCast]
  unfold txO
  rw [e]
  refine Prod.ext ?_ (Prod.ext ?_ rfl)
  · exact bs_inj (by rw [ext_data, data_bs]; congr 1; omega)
  · show ((dEnd s k + 1 + n : Nat) : Int) = if (0 : Int) = 0 then ((k + (dEnd s k + 1 - k + n) : Nat) : Int) else 0
    rw [if_pos rfl]; omega

set_option maxHeartbeats 400000 in
/-- TakeText at an offset of the string or at its end. -/
theorem takeText_in (s : ByteArray) (k : Nat) (w : World) (hs : s.size ≤ 140737488351232) (hk : k ≤ s.size) (ht : Tab w) :
    Calls Tryd.prog 18 #[.string s, .int .i64 k] w (tText s k w) := by
  have HT := Lib.hid ht
  clear ht
  have hE1 := le_dEnd s k
  have hE2 := dEnd_le hk
  by_cases h : (tk s k (dEnd s k) 58).2.2 = 0
  · obtain ⟨n, a, b, c, d, _⟩ := tx_size hk h
    have A := Lib.hid a
    have B := Lib.hid b
    have H := Lib.hid h
    have h' : ((tk s k (dEnd s k) 58).2.2 != 0) = false := by rw [h]; rfl
    by_cases hl : s.size - (dEnd s k + 1) < n
    · have F := Lib.hid (tx_over hk h a hl)
      clear h
      go_enter Tryd.func18, Tryd.ntmps18
      go_wp2_with (first | (go_at_call 30; refine (digitsEnd_any s k _ hs hk).mono ?_; rintro e w' ⟨rfl, rfl⟩) | (go_at_call 29; refine (take_any s k (dEnd s k) 58 _ hs hE1 hE2 HT.out).mono ?_; rintro e w' ⟨rfl, hb⟩) | go_in)
      go_ret3
      exact ⟨rets3 F.out, by assumption⟩
    · have F := Lib.hid (tx_ok hk h a hl)
      clear h
      go_enter Tryd.func18, Tryd.ntmps18
      go_wp2_with (first | (go_at_call 30; refine (digitsEnd_any s k _ hs hk).mono ?_; rintro e w' ⟨rfl, rfl⟩) | (go_at_call 29; refine (take_any s k (dEnd s k) 58 _ hs hE1 hE2 HT.out).mono ?_; rintro e w' ⟨rfl, hb⟩) | go_in)
      go_ret3
      exact ⟨rets3 F.out, by assumption⟩
  · have F := Lib.hid (tx_err h)
    have h' : ((tk s k (dEnd s k) 58).2.2 != 0) = true := by simpa using h
    clear h
    go_enter Tryd.func18, Tryd.ntmps18
    go_wp2_with (first | (go_at_call 30; refine (digitsEnd_any s k _ hs hk).mono ?_; rintro e w' ⟨rfl, rfl⟩) | (go_at_call 29; refine (take_any s k (dEnd s k) 58 _ hs hE1 hE2 HT.out).mono ?_; rintro e w' ⟨rfl, hb⟩) | go_in)
    go_ret3
    exact ⟨rets3 F.out, by assumption⟩
set_option maxHeartbeats 400000 in
theorem takeText_out (s : ByteArray) (k : Int) (w : World) (_h0 : -9223372036854775808 ≤ k) (_h1 : k ≤ 9223372036854775807) (hk : k < 0 ∨ s.size < k) :
    Calls Tryd.prog 18 #[.string s, .int .i64 k] w fun e w' => e = .returned (.tuple #[.string ⟨#[]⟩, .int .i64 0, .int .i64 1]) ∧ w = w' := by
  rcases hk with hk | hk
  · go_enter Tryd.func18, Tryd.ntmps18
    go_wp2
    go_ret3
    exact ⟨rfl, rfl⟩
  · have hd : decide (k ≤ (s.size : Int)) = false := by simpa using hk
    have h0 : 0 ≤ k := by omega
    go_enter Tryd.func18, Tryd.ntmps18
    go_wp2
    go_ret3
    exact ⟨rfl, rfl⟩
set_option maxHeartbeats 400000 in
/-- TakeNumber at an offset of the string or at its end. -/
theorem takeNum_in (s : ByteArray) (k : Nat) (w : World) (hs : s.size ≤ 140737488351232) (hk : k ≤ s.size) (ht : Tab w) :
    Calls Tryd.prog 20 #[.string s, .int .i64 k] w (tNum s k w) := by
  have F := Lib.hid (num_tk s k)
  have G := Lib.hid (num_O (s := s) (k := k))
  have HT := Lib.hid ht
  clear ht
  have hB := nb_le hk
  have hB1 : k ≤ nb s k := by unfold nb; omega
  have hE1 := le_dEnd s (nb s k)
  have hE2 := dEnd_le hB
  by_cases hlt : k < s.size
  · by_cases h : s[k] = 45
    · have e := nb_yes hlt h
      have h' : ((s[k].toNat : Int) == 45) = true := by rw [h]; rfl
      rw [e] at hB hE1 hE2
      rw [e] at F G
      clear h e
      go_enter Tryd.func20, Tryd.ntmps20
      go_wp2_with (first | (go_at_call 30; refine (digitsEnd_any s (k + 1) _ hs hB).mono ?_; rintro e w' ⟨rfl, rfl⟩) | (go_at_call 29; refine (take_any s k (dEnd s (k + 1)) 59 _ hs (by omega) hE2 HT.out).mono ?_; rintro e w' ⟨rfl, hb⟩) | go_in)
      go_ret3
      exact ⟨ret3 (by rw [G.out, F.out]), by assumption⟩
    · have e := nb_no hlt h
      have h' : ((s[k].toNat : Int) == 45) = false := by
        rw [← UInt8.toNat_inj] at h
        have h2 : ¬ s[k].toNat = 45 := h
        simp; omega
      rw [e] at hB hE1 hE2
      rw [e] at F G
      clear h e
      go_enter Tryd.func20, Tryd.ntmps20
      go_wp2_with (first | (go_at_call 30; refine (digitsEnd_any s k _ hs hB).mono ?_; rintro e w' ⟨rfl, rfl⟩) | (go_at_call 29; refine (take_any s k (dEnd s k) 59 _ hs (by omega) hE2 HT.out).mono ?_; rintro e w' ⟨rfl, hb⟩) | go_in)
      go_ret3
      exact ⟨ret3 (by rw [G.out, F.out]), by assumption⟩
  · have e := nb_end hlt
    rw [e] at hB hE1 hE2
    rw [e] at F G
    clear e
    go_enter Tryd.func20, Tryd.ntmps20
    go_wp2_with (first | (go_at_call 30; refine (digitsEnd_any s k _ hs hB).mono ?_; rintro e w' ⟨rfl, rfl⟩) | (go_at_call 29; refine (take_any s k (dEnd s k) 59 _ hs (by omega) hE2 HT.out).mono ?_; rintro e w' ⟨rfl, hb⟩) | go_in)
    go_ret3
    exact ⟨ret3 (by rw [G.out, F.out]), by assumption⟩
set_option maxHeartbeats 400000 in
theorem takeNum_out (s : ByteArray) (k : Int) (w : World) (_h0 : -9223372036854775808 ≤ k) (_h1 : k ≤ 9223372036854775807) (hk : k < 0 ∨ s.size < k) :
    Calls Tryd.prog 20 #[.string s, .int .i64 k] w fun e w' => e = .returned (.tuple #[.int .i64 0, .int .i64 0, .int .i64 1]) ∧ w = w' := by
  rcases hk with hk | hk
  · go_enter Tryd.func20, Tryd.ntmps20
    go_wp2
    go_ret3
    exact ⟨rfl, rfl⟩
  · have hd : decide (k ≤ (s.size : Int)) = false := by simpa using hk
    have h0 : 0 ≤ k := by omega
    go_enter Tryd.func20, Tryd.ntmps20
    go_wp2
    go_ret3
    exact ⟨rfl, rfl⟩
end Go.Proofs.YtpfnameeoadbkaaDoor.PackW
