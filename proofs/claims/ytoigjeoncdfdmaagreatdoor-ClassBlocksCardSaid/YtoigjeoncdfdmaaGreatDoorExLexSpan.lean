/-
  span: how many bytes stand before the first rune that does not belong.
-/
import Derived.Test.YtoigjeoncdfdmaaGreatDoorLexSmall
import Derived.Lib.MapLaws
import Derived.Laws.RangeAny
namespace Go.Proofs.YtoigjeoncdfdmaaGreatDoor.LexW
open Go Go.RowKit Go.Proofs.YtoigjeoncdfdmaaGreatDoor.NumM Go.Proofs.YtoigjeoncdfdmaaGreatDoor.LexM

theorem getB (s : ByteArray) (i : Nat) (h : i < s.size) : s.get! i = s[i] := by
  simp [ByteArray.get!, getElem!_pos, h]
  rfl
/-- A rune of more than one byte, or none: all its bytes are 128 or more, and lie in the string. -/
theorem rune_bytes (s : ByteArray) (pos : Nat) (h : pos < s.size) (ha : 128 ≤ s[pos].toNat) :
    pos + (Utf8.decode s pos).2 ≤ s.size ∧ ∀ i, pos ≤ i → i < pos + (Utf8.decode s pos).2 → ∃ hi : i < s.size, 128 ≤ s[i].toNat := by
  rw [Lib.decode_at]
  have e0 := getB s pos h
  have one : ∀ i, pos ≤ i → i < pos + 1 → ∃ hi : i < s.size, 128 ≤ s[i].toNat := by
    intro i h1 h2
    obtain rfl : i = pos := by omega
    exact ⟨h, ha⟩
  rcases Lib.decodeN_shape (s.size - pos) (s.get! pos).toNat (s.get! (pos + 1)).toNat (s.get! (pos + 2)).toNat (s.get! (pos + 3)).toNat with ⟨c, e⟩ | ⟨c1, c2, c3, cv, e⟩ | ⟨c1, c2, c3, c4, cv, cs, e⟩ | ⟨c1, c2, c3, c4, c5, cv, cw, e⟩ | e
  · rw [e0] at c; omega
  · rw [e]
    have e1 := getB s (pos + 1) (by omega)
    refine ⟨by simp only; omega, fun i h1 h2 => ?_⟩
    simp only at h2
    rcases Nat.lt_or_ge i (pos + 1) with hi | hi
    · exact one i h1 hi
    · obtain rfl : i = pos + 1 := by omega
      exact ⟨by omega, by rw [← e1]; omega⟩
  · rw [e]
    have e1 := getB s (pos + 1) (by omega)
    have e2 := getB s (pos + 2) (by omega)
    refine ⟨by simp only; omega, fun i h1 h2 => ?_⟩
    simp only at h2
    rcases Nat.lt_or_ge i (pos + 1) with hi | hi
    · exact one i h1 hi
    · rcases Nat.lt_or_ge i (pos + 2) with hi2 | hi2
      · obtain rfl : i = pos + 1 := by omega
        exact ⟨by omega, by rw [← e1]; omega⟩
      · obtain rfl : i = pos + 2 := by omega
        exact ⟨by omega, by rw [← e2]; omega⟩
  · rw [e]
    have e1 := getB s (pos + 1) (by omega)
    have e2 := getB s (pos + 2) (by omega)
    have e3 := getB s (pos + 3) (by omega)
    refine ⟨by simp only; omega, fun i h1 h2 => ?_⟩
    simp only at h2
    rcases Nat.lt_or_ge i (pos + 1) with hi | hi
    · exact one i h1 hi
    · rcases Nat.lt_or_ge i (pos + 2) with hi2 | hi2
      · obtain rfl : i = pos + 1 := by omega
        exact ⟨by omega, by rw [← e1]; omega⟩
      · rcases Nat.lt_or_ge i (pos + 3) with hi3 | hi3
        · obtain rfl : i = pos + 2 := by omega
          exact ⟨by omega, by rw [← e2]; omega⟩
        · obtain rfl : i = pos + 3 := by omega
          exact ⟨by omega, by rw [← e3]; omega⟩
  · rw [e]
    exact ⟨by simp only; omega, one⟩
theorem take_snoc (s : ByteArray) (k : Nat) (h : k < s.size) : s.data.toList.take (k + 1) = s.data.toList.take k ++ [s[k]] := by
  rw [List.take_succ_eq_append_getElem (by simpa using h)]; rfl
theorem len_data (s : ByteArray) : s.data.toList.length = s.size := by simp
theorem drop_cons (s : ByteArray) (k : Nat) (h : k < s.size) : s.data.toList.drop k = s[k] :: s.data.toList.drop (k + 1) := by
  rw [List.drop_eq_getElem_cons (by simpa using h)]; rfl

def wrI (c : Int) : Bool := smI c || (dgI c || ((decide (65 ≤ c) && decide (c ≤ 90)) || (c == 95)))
theorem wrI_byte (c : UInt8) : wrI (c.toNat : Int) = wrd c := by
  rw [Bool.eq_iff_iff]
  simp [wrI, smI, dgI, wrd, sml, dgt, capl]
  omega
theorem wrI_high {c : Int} (h : 128 ≤ c) : wrI c = false := by
  simp [wrI, smI, dgI]
  omega
theorem inWord_any (c : Int) (w : World) : Calls Tryz.prog 94 #[.int .i32 c] w fun e w' => e = .returned (.bool (wrI c)) ∧ w = w' := by
  go_enter Tryz.func94, Tryz.ntmps94
  go_wp2_with (first | (go_at_call 96; refine (isSmall_any _ _).mono ?_; rintro e w' ⟨rfl, rfl⟩) | (go_at_call 98; refine (isDigit_any _ _).mono ?_; rintro e w' ⟨rfl, rfl⟩))
  all_goals
    go_ret
    exact ⟨retb (by simp_all [wrI]; try (intros; omega)), rfl⟩
/-- The bytes before the first that does not belong: what stops a list. -/
theorem takeWhile_at {p : UInt8 → Bool} {l : List UInt8} {k : Nat} (h : (l.take k).all p = true) (hs : l.length ≤ k ∨ ∃ c r, l.drop k = c :: r ∧ p c = false) (hk : k ≤ l.length) : (l.takeWhile p).length = k := by
  have e1 : l.takeWhile p = l.take k ++ (l.drop k).takeWhile p := by
    have := List.takeWhile_append_of_pos (p := p) (l₁ := l.take k) (l₂ := l.drop k) (fun a ha => List.all_eq_true.1 h a ha)
    rw [List.take_append_drop] at this
    exact this
  have hlen : (l.take k).length = k := by rw [List.length_take]; omega
  rcases hs with hs | ⟨c, r, hd, hc⟩
  · rw [e1, List.drop_eq_nil_of_le hs]
    simp only [List.takeWhile_nil, List.append_nil]
    exact hlen
  · rw [e1, hd, List.takeWhile_cons, hc]
    simp only [Bool.false_eq_true, if_false, List.append_nil]
    exact hlen
def tInt (n : Nat) (w : World) (e : Ending) (w' : World) : Prop := e = .returned (.int .i64 (n : Int)) ∧ Below w.heap.size w w'
theorem tInt_mk {n m : Nat} {w w' : World} (h : m = n) (hb : Below w.heap.size w w') : tInt n w (.returned (.int .i64 (m : Int))) w' := by subst h; exact ⟨rfl, hb⟩
theorem below_iter (w : World) (s : ByteArray) (pos : Nat) : Below w.heap.size w (w.iter s pos) := (Below.refl _ _).alloc (Nat.le_refl _) _
set_option maxRecDepth 100000 in
set_option maxHeartbeats 1000000 in
theorem spanWord (s : ByteArray) (w : World) :
    Calls Tryz.prog 93 #[.string s, .func (.func 94) #[] #[]] w (tInt (wordS s.data.toList).length w) := by
  go_enter Tryz.func93, Tryz.ntmps93
  go_wp2
  go_loopw [5] (fun _ wr => ∃ pos : Nat, wr = w.iter s pos ∧ pos ≤ s.size ∧ (s.data.toList.take pos).all wrd = true) (fun _ wr => s.size - wr.iterPos w.heap.size)
  case atStart => exact ⟨0, rfl, Nat.zero_le _, rfl⟩
  case round =>
    obtain ⟨pos, rfl, hk, ha⟩ := hrel
    have HA := Lib.hid ha
    clear ha
    by_cases hp : pos < s.size
    · by_cases h7 : s[pos].toNat < 128
      · have hnx : ∀ ty, (Instr.next (.pointer (some ⟨w.heap.size, 0, none⟩)) true ty).run Tryz.prog (w.iter s pos) = _ := fun ty => run_next_ascii w s pos ty hp h7
        have HW := Lib.hid (wrI_byte s[pos])
        obtain ⟨c, hc⟩ : ∃ c : Int, (s[pos].toNat : Int) = c := ⟨_, rfl⟩
        rw [hc] at HW hnx
        clear hc
        have IW : ∀ W, Calls Tryz.prog 94 #[.int .i32 c] W fun e w' => e = .returned (.bool (wrI c)) ∧ W = w' := fun W => inWord_any c W
        rw [HW.out] at IW
        cases hw : wrd s[pos]
        · have HH := Lib.hid hw
          rw [hw] at IW
          clear hw
          have IW := Lib.hid IW
          go_wp2_with (go_at_call 94; refine (IW.out _).mono ?_; rintro e w' ⟨rfl, rfl⟩)
          go_ret
          exact tInt_mk (takeWhile_at HA.out (.inr ⟨_, _, drop_cons s pos hp, HH.out⟩) (by rw [len_data]; omega)).symm (below_iter _ _ _)
        · have HH := Lib.hid hw
          rw [hw] at IW
          clear hw
          have IW := Lib.hid IW
          go_wp2_with (go_at_call 94; refine (IW.out _).mono ?_; rintro e w' ⟨rfl, rfl⟩)
          go_roundw
          case rel => exact ⟨pos + 1, rfl, by omega, by rw [take_snoc s pos hp, List.all_append, HA.out]; simp [HH.out]⟩
          case measure => simp; omega
      · have hnx : ∀ ty, (Instr.next (.pointer (some ⟨w.heap.size, 0, none⟩)) true ty).run Tryz.prog (w.iter s pos) = _ := fun ty => run_next_any w s pos ty hp
        have hR := decode_high s pos hp (by omega)
        have HH : Hid (wrd s[pos] = false) := Lib.hid (by rw [← wrI_byte]; exact wrI_high (by omega))
        obtain ⟨R, hRR⟩ : ∃ R, (Utf8.decode s pos).1 = R := ⟨_, rfl⟩
        obtain ⟨K, hKK⟩ : ∃ K, (Utf8.decode s pos).2 = K := ⟨_, rfl⟩
        rw [hRR, hKK] at hnx
        rw [hRR] at hR
        have IW : ∀ W, Calls Tryz.prog 94 #[.int .i32 (R : Int)] W fun e w' => e = .returned (.bool (wrI R)) ∧ W = w' := fun W => inWord_any R W
        rw [wrI_high (by omega)] at IW
        have IW := Lib.hid IW
        clear hRR hKK hR h7
        go_wp2_with (go_at_call 94; refine (IW.out _).mono ?_; rintro e w' ⟨rfl, rfl⟩)
        go_ret
        exact tInt_mk (takeWhile_at HA.out (.inr ⟨_, _, drop_cons s pos hp, HH.out⟩) (by rw [len_data]; omega)).symm (below_iter _ _ _)
    · have hnx : ∀ ty, (Instr.next (.pointer (some ⟨w.heap.size, 0, none⟩)) true ty).run Tryz.prog (w.iter s pos) = _ := fun ty => run_next_end w s pos ty hp
      go_wp2
      go_ret
      exact tInt_mk (by rw [show s.size = pos by omega]; exact (takeWhile_at HA.out (.inl (by rw [len_data]; omega)) (by rw [len_data]; omega)).symm) (below_iter _ _ _)
/-- The bytes of a comment. -/
def noNl (c : UInt8) : Bool := decide (c.toNat ≠ 10)
def cmtS (l : List UInt8) : List UInt8 := l.takeWhile noNl
end Go.Proofs.YtoigjeoncdfdmaaGreatDoor.LexW
