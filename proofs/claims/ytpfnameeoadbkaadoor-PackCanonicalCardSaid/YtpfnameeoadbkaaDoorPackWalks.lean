/-
  What the functions of package pack that take values out of a string return.
-/
import Derived.Test.YtpfnameeoadbkaaDoorPackMath
import Derived.Test.YtpfnameeoadbkaaDoorPackParse
import Derived.WalkSmall
namespace Go.Proofs.YtpfnameeoadbkaaDoor.PackW
open Go Go.RowKit Go.Proofs.YtpfnameeoadbkaaDoor.NumM Go.Proofs.YtpfnameeoadbkaaDoor.PackM

/-- What the listed variables give the walks. -/
structure Tab (w : World) : Prop where
  pow10 : Lib.TabIs Tryd.prog w "internal/strconv.uint64pow10" .u64 Lib.pow10Tab
  range : ∃ tp p, w.var? Tryd.prog "strconv.ErrRange" = some #[.iface tp p]
theorem gRange : Tryd.prog.globalNamed "strconv.ErrRange" = some 2 := by kernel_rfl
theorem gPow10 : Tryd.prog.globalNamed "internal/strconv.uint64pow10" = some 0 := by kernel_rfl
theorem var_later {n : String} {g : Nat} {cs : Array Value} {w w' : World} (hg : Tryd.prog.globalNamed n = some g) (h : w.var? Tryd.prog n = some cs) (hb : Below w.heap.size w w') : w'.var? Tryd.prog n = some cs := by
  by_cases hlt : g < w.heap.size
  · exact var?_below hb hg hlt h
  · unfold World.var? at h
    simp only [hg, Option.bind_some] at h
    rw [Array.getElem?_eq_none (by omega)] at h
    cases h
theorem Tab.later {w w' : World} (h : Tab w) (hb : Below w.heap.size w w') : Tab w' :=
  ⟨var_later gPow10 h.pow10 hb, by obtain ⟨tp, p, hr⟩ := h.range; exact ⟨tp, p, var_later gRange hr hb⟩⟩
theorem below_drewN (w : World) (n : Nat) : Below w.heap.size w (w.drewN n) := ⟨rfl, rfl, rfl, Nat.le_refl _, fun _ _ => rfl⟩

/-! Strings and lists. -/
abbrev bs (l : List UInt8) : ByteArray := ⟨l.toArray⟩
theorem bs_data (s : ByteArray) : bs s.data.toList = s := rfl
theorem data_bs (l : List UInt8) : (bs l).data.toList = l := rfl
theorem bs_inj {a b : ByteArray} (h : a.data.toList = b.data.toList) : a = b := by rw [← bs_data a, ← bs_data b, h]
theorem len_data (s : ByteArray) : s.data.toList.length = s.size := by simp
theorem ext_data (s : ByteArray) (a e : Nat) : (s.extract a e).data.toList = (s.data.toList.drop a).take (e - a) := by
  simp [ByteArray.data_extract, Array.toList_extract]
theorem drop_at (s : ByteArray) (k : Nat) (h : k < s.size) : s.data.toList.drop k = s[k] :: s.data.toList.drop (k + 1) := by
  rw [List.drop_eq_getElem_cons (by simpa using h)]; rfl
theorem drop_end (s : ByteArray) (k : Nat) (h : s.size ≤ k) : s.data.toList.drop k = [] := List.drop_eq_nil_of_le (by rw [len_data]; exact h)
def dEnd (s : ByteArray) (k : Nat) : Nat := k + dgs (s.data.toList.drop k)
theorem dEnd_step {s : ByteArray} {k : Nat} (h : k < s.size) (g : dgt s[k] = true) : dEnd s (k + 1) = dEnd s k := by
  unfold dEnd dgs
  rw [drop_at s k h]
  simp [g]; omega
theorem dEnd_stop {s : ByteArray} {k : Nat} (h : k < s.size) (g : ¬ dgt s[k] = true) : dEnd s k = k := by
  unfold dEnd dgs
  rw [drop_at s k h]
  simp [g]
theorem dEnd_over {s : ByteArray} {k : Nat} (h : ¬ k < s.size) : dEnd s k = k := by
  unfold dEnd dgs
  rw [drop_end s k (by omega)]
  simp
theorem dEnd_le {s : ByteArray} {k : Nat} (h : k ≤ s.size) : dEnd s k ≤ s.size := by
  have := dgs_le (s.data.toList.drop k)
  rw [List.length_drop, len_data] at this
  unfold dEnd; omega
theorem le_dEnd (s : ByteArray) (k : Nat) : k ≤ dEnd s k := by unfold dEnd; omega

set_option maxHeartbeats 400000 in
theorem digitsEnd_any (s : ByteArray) (k : Nat) (w : World) (hs : s.size ≤ 140737488351232) (hk : k ≤ s.size) :
    Calls Tryd.prog 30 #[.string s, .int .i64 k] w fun e w' => e = .returned (.int .i64 (dEnd s k)) ∧ w = w' := by
  go_enter Tryd.func30, Tryd.ntmps30
  go_wp2
  go_loop [1] (fun i => ∃ j : Nat, j ≤ s.size ∧ i = .int .i64 j ∧ dEnd s j = dEnd s k) (fun i => s.size - (intOf i).toNat)
  case atStart => exact ⟨k, hk, rfl, rfl⟩
  case round =>
    obtain ⟨j, hj, rfl, hd⟩ := hrel
    have HD := Lib.hid hd
    clear hd
    by_cases hlt : j < s.size
    · by_cases g : dgt s[j] = true
      · have g2 := dgt_iff.1 g
        have g3 : (48 : Int) ≤ (s[j].toNat : Int) := by omega
        have g4 : (s[j].toNat : Int) ≤ 57 := by omega
        have G := Lib.hid g
        clear g g2
        go_wp2
        go_round
        case rel => exact ⟨j + 1, by omega, by go_num, by rw [dEnd_step hlt G.out]; exact HD.out⟩
        case measure => simp [intOf]; omega
      · have g2 : (s[j].toNat : Int) < 48 ∨ 57 < (s[j].toNat : Int) := by
          rw [dgt_iff] at g; omega
        have G := Lib.hid g
        clear g
        rcases g2 with g2 | g2
        all_goals
          go_wp2
          go_ret
          exact ⟨ret1 (by rw [← HD.out, dEnd_stop hlt G.out]), rfl⟩
    · go_wp2
      go_ret
      exact ⟨ret1 (by rw [← HD.out, dEnd_over hlt]), rfl⟩
set_option maxHeartbeats 400000 in
theorem numeral_any (s : ByteArray) (k : Nat) (w : World) (hs : s.size ≤ 140737488351232) (hk : k ≤ s.size) :
    Calls Tryd.prog 31 #[.string s, .int .i64 k] w fun e w' => e = .returned (.int .i64 (dEnd s k)) ∧ w = w' := by
  go_enter Tryd.func31, Tryd.ntmps31
  go_wp2
  go_loop [1] (fun i => ∃ j : Nat, j ≤ s.size ∧ i = .int .i64 j ∧ dEnd s j = dEnd s k) (fun i => s.size - (intOf i).toNat)
  case atStart => exact ⟨k, hk, rfl, rfl⟩
  case round =>
    obtain ⟨j, hj, rfl, hd⟩ := hrel
    have HD := Lib.hid hd
    clear hd
    by_cases hlt : j < s.size
    · by_cases g : dgt s[j] = true
      · have g2 := dgt_iff.1 g
        have g3 : (48 : Int) ≤ (s[j].toNat : Int) := by omega
        have g4 : (s[j].toNat : Int) ≤ 57 := by omega
        have G := Lib.hid g
        clear g g2
        go_wp2
        go_round
        case rel => exact ⟨j + 1, by omega, by go_num, by rw [dEnd_step hlt G.out]; exact HD.out⟩
        case measure => simp [intOf]; omega
      · have g2 : (s[j].toNat : Int) < 48 ∨ 57 < (s[j].toNat : Int) := by
          rw [dgt_iff] at g; omega
        have G := Lib.hid g
        clear g
        rcases g2 with g2 | g2
        all_goals
          go_wp2
          go_ret
          exact ⟨ret1 (by rw [← HD.out, dEnd_stop hlt G.out]), rfl⟩
    · go_wp2
      go_ret
      exact ⟨ret1 (by rw [← HD.out, dEnd_over hlt]), rfl⟩

/-- What 'take' returns: the value, the offset behind the mark, the error. -/
def tk (s : ByteArray) (a e : Nat) (m : UInt8) : Int × Nat × Int := takeL ((s.data.toList.drop a).take (e - a)) (s.data.toList.drop e) m
def tkO (s : ByteArray) (a e : Nat) (m : UInt8) : Int := if (tk s a e m).2.2 = 0 then (e : Int) + 1 else 0
theorem ret3 {a b c d e f : Int} (h : (a, b, c) = (d, e, f)) : Ending.returned (.tuple #[.int .i64 a, .int .i64 b, .int .i64 c]) = Ending.returned (.tuple #[.int .i64 d, .int .i64 e, .int .i64 f]) := by
  cases h; rfl
theorem tk_end {s : ByteArray} {a e : Nat} {m : UInt8} (h : e = s.size) : ((0 : Int), (0 : Int), (6 : Int)) = ((tk s a e m).1, tkO s a e m, (tk s a e m).2.2) := by
  unfold tkO tk
  rw [drop_end s e (by omega)]; rfl
theorem tk_mark {s : ByteArray} {a e : Nat} {m : UInt8} (h : e < s.size) (hm : ¬ s[e] = m) : ((0 : Int), (0 : Int), (5 : Int)) = ((tk s a e m).1, tkO s a e m, (tk s a e m).2.2) := by
  unfold tkO tk takeL
  rw [drop_at s e h, unit_cons, if_neg hm]; rfl
theorem tk_err {s : ByteArray} {a e : Nat} {m : UInt8} (h : e < s.size) (hm : s[e] = m) (hp : ¬ (parseS ((s.data.toList.drop a).take (e - a))).2 = 0) :
    ((0 : Int), (0 : Int), (parseS ((s.data.toList.drop a).take (e - a))).2) = ((tk s a e m).1, tkO s a e m, (tk s a e m).2.2) := by
  unfold tkO tk takeL
  rw [drop_at s e h, hm, unit_mark, if_neg hp, if_neg hp]
theorem tk_ok {s : ByteArray} {a e : Nat} {m : UInt8} (h : e < s.size) (hm : s[e] = m) (hp : (parseS ((s.data.toList.drop a).take (e - a))).2 = 0) :
    ((parseS ((s.data.toList.drop a).take (e - a))).1, (e : Int) + 1, (0 : Int)) = ((tk s a e m).1, tkO s a e m, (tk s a e m).2.2) := by
  unfold tkO tk takeL
  rw [drop_at s e h, hm, unit_mark, if_pos hp]; rfl
theorem byte_ne {a b : UInt8} : (¬ a = b) ↔ ((a.toNat : Int) != (b.toNat : Int)) = true := by
  rw [bne_iff_ne, ne_eq, ← UInt8.toNat_inj]; omega
theorem byte_eq {a b : UInt8} (h : a = b) : ((a.toNat : Int) != (b.toNat : Int)) = false := by subst h; simp
def took (s : ByteArray) (a e : Nat) (m : UInt8) (w : World) (E : Ending) (w' : World) : Prop :=
  E = .returned (.tuple #[.int .i64 (tk s a e m).1, .int .i64 (tkO s a e m), .int .i64 (tk s a e m).2.2]) ∧ Below w.heap.size w w'
set_option maxHeartbeats 400000 in
theorem take_any (s : ByteArray) (a e : Nat) (m : UInt8) (w : World) (hs : s.size ≤ 140737488351232) (hae : a ≤ e) (he : e ≤ s.size) (ht : Tab w) :
    Calls Tryd.prog 29 #[.string s, .int .i64 a, .int .i64 e, .int .u8 m.toNat] w (took s a e m w) := by
  obtain ⟨tp, p, hv⟩ := ht.range
  have HV := Lib.hid hv
  clear hv ht
  by_cases h1 : e = s.size
  · have F := Lib.hid (tk_end (a := a) (m := m) h1)
    subst h1
    go_enter Tryd.func29, Tryd.ntmps29
    go_wp2
    go_ret3
    exact ⟨ret3 F.out, Below.refl _ _⟩
  · have hlt : e < s.size := by omega
    have h1' : ((e : Int) == (s.size : Int)) = false := by simp; omega
    by_cases h2 : s[e] = m
    · have h2' := byte_eq h2
      have hx : (s.extract a e).size ≤ 140737488351232 := by simp; omega
      by_cases h3 : (parseS ((s.data.toList.drop a).take (e - a))).2 = 0
      · have F := Lib.hid (tk_ok hlt h2 h3)
        have h3' : ((parseS ((s.data.toList.drop a).take (e - a))).2 != 0) = false := by simpa using h3
        clear h2 h3
        go_enter Tryd.func29, Tryd.ntmps29
        go_wp2_with (go_at_call 35; refine (parseCode_any _ _ hx tp p HV.out).mono ?_; rintro e w' ⟨rfl, hb⟩)
        go_ret3
        exact ⟨ret3 F.out, by assumption⟩
      · have F := Lib.hid (tk_err hlt h2 h3)
        have h3' : ((parseS ((s.data.toList.drop a).take (e - a))).2 != 0) = true := by simpa using h3
        clear h2 h3
        go_enter Tryd.func29, Tryd.ntmps29
        go_wp2_with (go_at_call 35; refine (parseCode_any _ _ hx tp p HV.out).mono ?_; rintro e w' ⟨rfl, hb⟩)
        go_ret3
        exact ⟨ret3 F.out, by assumption⟩
    · have F := Lib.hid (tk_mark (a := a) hlt h2)
      have h2' := byte_ne.1 h2
      clear h2
      go_enter Tryd.func29, Tryd.ntmps29
      go_wp2
      go_ret3
      exact ⟨ret3 F.out, Below.refl _ _⟩
end Go.Proofs.YtpfnameeoadbkaaDoor.PackW
