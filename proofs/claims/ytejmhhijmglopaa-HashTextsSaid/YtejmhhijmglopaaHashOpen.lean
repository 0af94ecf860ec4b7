/-
  What Hex, Unhex, Seal and Open return, those of package hash and those of its reference.
-/
import Derived.Test.YtejmhhijmglopaaHashForm
namespace Go.Proofs.Ytejmhhijmglopaa.HashW
open Go Go.RowKit Go.Proofs.Ytejmhhijmglopaa.HashM

theorem hexCode (x : UInt64) (w : World) :
    Calls Try.prog 17 #[.int .u64 (V x)] w fun e w' => e = .returned (.string (bs (sfx x.toNat 16))) ∧ Below w.heap.size w w' := by
  have H := Lib.hid (hexadecimal_any x 16 w (by omega))
  go_enter Try.func17, Try.ntmps17
  go_wp2_with (go_at_call 28; refine H.out.mono ?_; rintro e w' ⟨rfl, hb⟩)
  go_ret
  exact ⟨rfl, by assumption⟩
theorem hexRef (x : UInt64) (w : World) :
    Calls Try.prog 22 #[.int .u64 (V x)] w fun e w' => e = .returned (.string (bs (sfx x.toNat 16))) ∧ w = w' := by
  have H := Lib.hid (form_any x 16 w (by omega))
  go_enter Try.func22, Try.ntmps22
  go_wp2_with (go_at_call 29; refine H.out.mono ?_; rintro e w' ⟨rfl, rfl⟩)
  go_ret
  exact ⟨rfl, rfl⟩

/-! ### Unhex -/
def uhB (s : ByteArray) : Bool := decide (s.size = 16) && okH s.data.toList
def uhV (s : ByteArray) : Int := if uhB s then W s.data.toList else 0
def uhE (s : ByteArray) : Int := if uhB s then 0 else 5
theorem uh_ok {s : ByteArray} (h : s.size = 16) (g : okH s.data.toList = true) : pv s.data.toList = uhV s ∧ (0 : Int) = uhE s := by
  have e : uhB s = true := by unfold uhB; rw [g]; simp [h]
  unfold uhV uhE
  rw [e]
  exact ⟨(pv_ok g).symm, rfl⟩
theorem uh_size {s : ByteArray} (h : ¬ s.size = 16) : (0 : Int) = uhV s ∧ (5 : Int) = uhE s := by
  have e : uhB s = false := by unfold uhB; simp [h]
  unfold uhV uhE
  rw [e]
  exact ⟨rfl, rfl⟩
theorem uh_no {s : ByteArray} (g : okH s.data.toList = false) : (0 : Int) = uhV s ∧ (5 : Int) = uhE s := by
  have e : uhB s = false := by unfold uhB; rw [g]; simp
  unfold uhV uhE
  rw [e]
  exact ⟨rfl, rfl⟩
theorem ret2i {k j : IntKind} {a b c d : Int} (h : a = c) (g : b = d) : Ending.returned (.tuple #[.int k a, .int j b]) = Ending.returned (.tuple #[.int k c, .int j d]) := by rw [h, g]
theorem unhexCode (s : ByteArray) (w : World) (hs : s.size ≤ 140737488351232) :
    Calls Try.prog 16 #[.string s] w fun e w' => e = .returned (.tuple #[.int .u64 (uhV s), .int .i64 (uhE s)]) ∧ w = w' := by
  by_cases h : s.size = 16
  · have h' : ((s.size : Int) != 16) = false := by simp [h]
    by_cases g : okH s.data.toList = true
    · have R := Lib.hid (uh_ok h g)
      clear h
      go_enter Try.func16, Try.ntmps16
      go_wp2_with (go_at_call 30; refine (parse_any _ _ hs).mono ?_; rintro e w' ⟨rfl, rfl⟩)
      go_ret2
      exact ⟨ret2i R.out.1 R.out.2, rfl⟩
    · have g' : okH s.data.toList = false := by simpa using g
      have R := Lib.hid (uh_no g')
      clear h g
      go_enter Try.func16, Try.ntmps16
      go_wp2_with (go_at_call 30; refine (parse_any _ _ hs).mono ?_; rintro e w' ⟨rfl, rfl⟩)
      go_ret2
      exact ⟨ret2i R.out.1 R.out.2, rfl⟩
  · have h' : ((s.size : Int) != 16) = true := by simp; omega
    have R := Lib.hid (uh_size h)
    clear h
    go_enter Try.func16, Try.ntmps16
    go_wp2_with (go_at_call 30; refine (parse_any _ _ hs).mono ?_; rintro e w' ⟨rfl, rfl⟩)
    go_ret2
    exact ⟨ret2i R.out.1 R.out.2, rfl⟩
theorem unhexRef (s : ByteArray) (w : World) (hs : s.size ≤ 140737488351232) :
    Calls Try.prog 23 #[.string s] w fun e w' => e = .returned (.tuple #[.int .u64 (uhV s), .int .i64 (uhE s)]) ∧ w = w' := by
  by_cases h : s.size = 16
  · have h' : ((s.size : Int) != 16) = false := by simp [h]
    by_cases g : okH s.data.toList = true
    · have R := Lib.hid (uh_ok h g)
      clear h
      go_enter Try.func23, Try.ntmps23
      go_wp2_with (go_at_call 31; refine (read_any _ _ hs).mono ?_; rintro e w' ⟨rfl, rfl⟩)
      go_ret2
      exact ⟨ret2i R.out.1 R.out.2, rfl⟩
    · have g' : okH s.data.toList = false := by simpa using g
      have R := Lib.hid (uh_no g')
      clear h g
      go_enter Try.func23, Try.ntmps23
      go_wp2_with (go_at_call 31; refine (read_any _ _ hs).mono ?_; rintro e w' ⟨rfl, rfl⟩)
      go_ret2
      exact ⟨ret2i R.out.1 R.out.2, rfl⟩
  · have h' : ((s.size : Int) != 16) = true := by simp; omega
    have R := Lib.hid (uh_size h)
    clear h
    go_enter Try.func23, Try.ntmps23
    go_wp2_with (go_at_call 31; refine (read_any _ _ hs).mono ?_; rintro e w' ⟨rfl, rfl⟩)
    go_ret2
    exact ⟨ret2i R.out.1 R.out.2, rfl⟩

/-! ### Seal -/
def sealL (l : List UInt8) : List UInt8 := l ++ 35 :: sfx (crcL l).toNat 8
theorem crcV (c : UInt32) : V32 c = V c.toUInt64 := by unfold V V32; rw [UInt32.toNat_toUInt64]
theorem crcN (c : UInt32) : c.toUInt64.toNat = c.toNat := UInt32.toNat_toUInt64 c
theorem crcW (c : UInt32) : IntKind.u64.wrap (V32 c) = V32 c := by
  have := V32_lo c
  have := V32_hi c
  rw [IntKind.wrap_u64]; omega
theorem seal_eq (s : ByteArray) : (s ++ ⟨#[35]⟩) ++ bs (sfx (crcL s.data.toList).toNat 8) = bs (sealL s.data.toList) := bs_inj (by unfold sealL; simp)
set_option maxHeartbeats 400000 in
theorem sealCode (s : ByteArray) (w : World) (hs : s.size ≤ 140737488351232) :
    Calls Try.prog 14 #[.string s] w fun e w' => e = .returned (.string (bs (sealL s.data.toList))) ∧ Below w.heap.size w w' := by
  have h := hexadecimal_any (crcL s.data.toList).toUInt64 8 w (by omega)
  rw [← crcV, crcN] at h
  have H := Lib.hid h
  have hw := crcW (crcL s.data.toList)
  have hl : (sfx (crcL s.data.toList).toNat 8).length ≤ 16 := by rw [sfx_len]; omega
  have S := Lib.hid (seal_eq s)
  clear h
  go_enter Try.func14, Try.ntmps14
  go_wp2_with (first
    | (go_at_call 12; refine (crcCode _ _ hs).mono ?_; rintro e w' ⟨rfl, rfl⟩)
    | (go_at_call 28; refine H.out.mono ?_; rintro e w1 ⟨rfl, hb⟩))
  go_ret
  exact ⟨rets1 S.out, by assumption⟩
set_option maxHeartbeats 400000 in
theorem sealRef (s : ByteArray) (w : World) (hs : s.size ≤ 140737488351232) :
    Calls Try.prog 15 #[.string s] w fun e w' => e = .returned (.string (bs (sealL s.data.toList))) ∧ w = w' := by
  have h := form_any (crcL s.data.toList).toUInt64 8 w (by omega)
  rw [← crcV, crcN] at h
  have H := Lib.hid h
  have hw := crcW (crcL s.data.toList)
  have hl : (sfx (crcL s.data.toList).toNat 8).length ≤ 16 := by rw [sfx_len]; omega
  have S := Lib.hid (seal_eq s)
  clear h
  go_enter Try.func15, Try.ntmps15
  go_wp2_with (first
    | (go_at_call 13; refine (crcRef _ _ hs).mono ?_; rintro e w' ⟨rfl, rfl⟩)
    | (go_at_call 29; refine H.out.mono ?_; rintro e w1 ⟨rfl, rfl⟩))
  go_ret
  exact ⟨rets1 S.out, rfl⟩
/-! ### Open -/
/-- The last eight bytes; the bytes ahead of the mark. -/
def tl (s : ByteArray) : List UInt8 := (s.extract (s.size - 9 + 1) s.size).data.toList
def hd (s : ByteArray) : ByteArray := s.extract 0 (s.size - 9)
def opE (s : ByteArray) : Int := if s.size < 9 then 6 else if s.data.toList[s.size - 9]? = some 35 ∧ okH (tl s) = true then (if pv (tl s) = V32 (crcL (hd s).data.toList) then 0 else 14) else 5
def opS (s : ByteArray) : ByteArray := if opE s = 0 then hd s else ⟨#[]⟩
theorem at_data (s : ByteArray) (k : Nat) (h : k < s.size) : s.data.toList[k]? = some s[k] := by
  rw [List.getElem?_eq_getElem (by simpa using h)]; rfl
theorem op_short {s : ByteArray} (h : s.size < 9) : opE s = 6 := by unfold opE; rw [if_pos h]
theorem op_mark {s : ByteArray} (h : 9 ≤ s.size) (g : ¬ s[s.size - 9] = 35) : opE s = 5 := by
  unfold opE
  rw [if_neg (by omega), at_data s _ (by omega), if_neg]
  intro x
  exact g (Option.some.inj x.1)
theorem op_digits {s : ByteArray} (h : 9 ≤ s.size) (g : okH (tl s) = false) : opE s = 5 := by
  unfold opE
  rw [if_neg (by omega), g, if_neg]
  intro x
  exact absurd x.2 (by decide)
theorem op_sum {s : ByteArray} (h : 9 ≤ s.size) (m : s[s.size - 9] = 35) (g : okH (tl s) = true) (c : ¬ pv (tl s) = V32 (crcL (hd s).data.toList)) : opE s = 14 := by
  unfold opE
  rw [if_neg (by omega), at_data s _ (by omega), m, if_pos ⟨rfl, g⟩, if_neg c]
theorem op_ok {s : ByteArray} (h : 9 ≤ s.size) (m : s[s.size - 9] = 35) (g : okH (tl s) = true) (c : pv (tl s) = V32 (crcL (hd s).data.toList)) : opE s = 0 := by
  unfold opE
  rw [if_neg (by omega), at_data s _ (by omega), m, if_pos ⟨rfl, g⟩, if_pos c]
theorem opS_no {s : ByteArray} {e : Int} (h : opE s = e) (g : ¬ e = 0) : (⟨#[]⟩ : ByteArray) = opS s := by unfold opS; rw [h, if_neg g]
theorem opS_ok {s : ByteArray} (h : opE s = 0) : hd s = opS s := by unfold opS; rw [h, if_pos rfl]
theorem retsi {a c : ByteArray} {b d : Int} (h : a = c) (g : b = d) : Ending.returned (.tuple #[.string a, .int .i64 b]) = Ending.returned (.tuple #[.string c, .int .i64 d]) := by rw [h, g]
theorem byte_ne {a b : UInt8} : (¬ a = b) ↔ ((a.toNat : Int) != (b.toNat : Int)) = true := by
  rw [bne_iff_ne, ne_eq, ← UInt8.toNat_inj]; omega
theorem byte_eq {a b : UInt8} (h : a = b) : ((a.toNat : Int) != (b.toNat : Int)) = false := by subst h; simp
set_option maxHeartbeats 800000 in
theorem openCode (s : ByteArray) (w : World) (hs : s.size ≤ 140737488351232) :
    Calls Try.prog 24 #[.string s] w fun e w' => e = .returned (.tuple #[.string (opS s), .int .i64 (opE s)]) ∧ w = w' := by
  by_cases h9 : s.size < 9
  · have E := Lib.hid (op_short h9)
    have hn : (s.size : Int) - 9 < 0 := by omega
    go_enter Try.func24, Try.ntmps24
    go_wp2
    go_ret2
    exact ⟨retsi (opS_no E.out (by decide)) E.out.symm, rfl⟩
  · have h9' : 9 ≤ s.size := by omega
    clear h9
    have hlt : s.size - 9 < s.size := by omega
    have hx : (s.extract (s.size - 9 + 1) s.size).size ≤ 140737488351232 := by rw [ByteArray.size_extract]; omega
    have hy : (s.extract 0 (s.size - 9)).size ≤ 140737488351232 := by rw [ByteArray.size_extract]; omega
    have hp := parse_any (s.extract (s.size - 9 + 1) s.size) w hx
    have hc := crcCode (s.extract 0 (s.size - 9)) w hy
    have eT : (s.extract (s.size - 9 + 1) s.size).data.toList = tl s := rfl
    have eH : (s.extract 0 (s.size - 9)).data.toList = (hd s).data.toList := rfl
    rw [eT] at hp
    rw [eH] at hc
    clear eT eH hx hy
    obtain ⟨c, hcc⟩ : ∃ c, crcL (hd s).data.toList = c := ⟨_, rfl⟩
    have hw := crcW c
    rw [hcc] at hc
    have P := Lib.hid hp
    have C := Lib.hid hc
    have HC := Lib.hid hcc
    clear hp hc hcc
    by_cases m : s[s.size - 9] = 35
    · have m' : ((s[s.size - 9].toNat : Int) != 35) = false := byte_eq m
      by_cases g : okH (tl s) = true
      · by_cases v : pv (tl s) = V32 c
        · have E := Lib.hid (op_ok h9' m g (by rw [HC.out]; exact v))
          have v' : (pv (tl s) != V32 c) = false := by rw [v]; simp
          clear m v
          go_enter Try.func24, Try.ntmps24
          go_wp2_with (first
            | (go_at_call 30; refine P.out.mono ?_; rintro e w' ⟨rfl, rfl⟩)
            | (go_at_call 12; refine C.out.mono ?_; rintro e w' ⟨rfl, rfl⟩))
          go_ret2
          exact ⟨retsi (opS_ok E.out) E.out.symm, rfl⟩
        · have E := Lib.hid (op_sum h9' m g (by rw [HC.out]; exact v))
          have v' : (pv (tl s) != V32 c) = true := by simpa using v
          clear m v
          go_enter Try.func24, Try.ntmps24
          go_wp2_with (first
            | (go_at_call 30; refine P.out.mono ?_; rintro e w' ⟨rfl, rfl⟩)
            | (go_at_call 12; refine C.out.mono ?_; rintro e w' ⟨rfl, rfl⟩))
          go_ret2
          exact ⟨retsi (opS_no E.out (by decide)) E.out.symm, rfl⟩
      · have g' : okH (tl s) = false := by simpa using g
        have E := Lib.hid (op_digits h9' g')
        clear m g
        go_enter Try.func24, Try.ntmps24
        go_wp2_with (first
            | (go_at_call 30; refine P.out.mono ?_; rintro e w' ⟨rfl, rfl⟩)
            | (go_at_call 12; refine C.out.mono ?_; rintro e w' ⟨rfl, rfl⟩))
        go_ret2
        exact ⟨retsi (opS_no E.out (by decide)) E.out.symm, rfl⟩
    · have m' : ((s[s.size - 9].toNat : Int) != 35) = true := byte_ne.1 m
      have E := Lib.hid (op_mark h9' m)
      clear m
      go_enter Try.func24, Try.ntmps24
      go_wp2_with (first
            | (go_at_call 30; refine P.out.mono ?_; rintro e w' ⟨rfl, rfl⟩)
            | (go_at_call 12; refine C.out.mono ?_; rintro e w' ⟨rfl, rfl⟩))
      go_ret2
      exact ⟨retsi (opS_no E.out (by decide)) E.out.symm, rfl⟩
set_option maxHeartbeats 800000 in
theorem openRef (s : ByteArray) (w : World) (hs : s.size ≤ 140737488351232) :
    Calls Try.prog 25 #[.string s] w fun e w' => e = .returned (.tuple #[.string (opS s), .int .i64 (opE s)]) ∧ w = w' := by
  by_cases h9 : s.size < 9
  · have E := Lib.hid (op_short h9)
    have hn : (s.size : Int) - 9 < 0 := by omega
    go_enter Try.func25, Try.ntmps25
    go_wp2
    go_ret2
    exact ⟨retsi (opS_no E.out (by decide)) E.out.symm, rfl⟩
  · have h9' : 9 ≤ s.size := by omega
    clear h9
    have hlt : s.size - 9 < s.size := by omega
    have hx : (s.extract (s.size - 9 + 1) s.size).size ≤ 140737488351232 := by rw [ByteArray.size_extract]; omega
    have hy : (s.extract 0 (s.size - 9)).size ≤ 140737488351232 := by rw [ByteArray.size_extract]; omega
    have hp := read_any (s.extract (s.size - 9 + 1) s.size) w hx
    have hc := crcRef (s.extract 0 (s.size - 9)) w hy
    have eT : (s.extract (s.size - 9 + 1) s.size).data.toList = tl s := rfl
    have eH : (s.extract 0 (s.size - 9)).data.toList = (hd s).data.toList := rfl
    rw [eT] at hp
    rw [eH] at hc
    clear eT eH hx hy
    obtain ⟨c, hcc⟩ : ∃ c, crcL (hd s).data.toList = c := ⟨_, rfl⟩
    have hw := crcW c
    rw [hcc] at hc
    have P := Lib.hid hp
    have C := Lib.hid hc
    have HC := Lib.hid hcc
    clear hp hc hcc
    by_cases m : s[s.size - 9] = 35
    · have m' : ((s[s.size - 9].toNat : Int) != 35) = false := byte_eq m
      by_cases g : okH (tl s) = true
      · by_cases v : pv (tl s) = V32 c
        · have E := Lib.hid (op_ok h9' m g (by rw [HC.out]; exact v))
          have v' : (pv (tl s) != V32 c) = false := by rw [v]; simp
          clear m v
          go_enter Try.func25, Try.ntmps25
          go_wp2_with (first
            | (go_at_call 31; refine P.out.mono ?_; rintro e w' ⟨rfl, rfl⟩)
            | (go_at_call 13; refine C.out.mono ?_; rintro e w' ⟨rfl, rfl⟩))
          go_ret2
          exact ⟨retsi (opS_ok E.out) E.out.symm, rfl⟩
        · have E := Lib.hid (op_sum h9' m g (by rw [HC.out]; exact v))
          have v' : (pv (tl s) != V32 c) = true := by simpa using v
          clear m v
          go_enter Try.func25, Try.ntmps25
          go_wp2_with (first
            | (go_at_call 31; refine P.out.mono ?_; rintro e w' ⟨rfl, rfl⟩)
            | (go_at_call 13; refine C.out.mono ?_; rintro e w' ⟨rfl, rfl⟩))
          go_ret2
          exact ⟨retsi (opS_no E.out (by decide)) E.out.symm, rfl⟩
      · have g' : okH (tl s) = false := by simpa using g
        have E := Lib.hid (op_digits h9' g')
        clear m g
        go_enter Try.func25, Try.ntmps25
        go_wp2_with (first
            | (go_at_call 31; refine P.out.mono ?_; rintro e w' ⟨rfl, rfl⟩)
            | (go_at_call 13; refine C.out.mono ?_; rintro e w' ⟨rfl, rfl⟩))
        go_ret2
        exact ⟨retsi (opS_no E.out (by decide)) E.out.symm, rfl⟩
    · have m' : ((s[s.size - 9].toNat : Int) != 35) = true := byte_ne.1 m
      have E := Lib.hid (op_mark h9' m)
      clear m
      go_enter Try.func25, Try.ntmps25
      go_wp2_with (first
            | (go_at_call 31; refine P.out.mono ?_; rintro e w' ⟨rfl, rfl⟩)
            | (go_at_call 13; refine C.out.mono ?_; rintro e w' ⟨rfl, rfl⟩))
      go_ret2
      exact ⟨retsi (opS_no E.out (by decide)) E.out.symm, rfl⟩
end Go.Proofs.Ytejmhhijmglopaa.HashW
