/-
  What the reference's 'Parse' of an integer returns, for every text of at most 16384 bytes.
-/
import Derived.Test.YtoigjeoncdfdmaaGreatDoorLexParse
import Derived.Test.YtoigjeoncdfdmaaGreatDoorNumMath
import Derived.Lib.SlBytesRow
namespace Go.Proofs.YtoigjeoncdfdmaaGreatDoor.RefP
open Go Go.RowKit Go.Proofs.YtoigjeoncdfdmaaGreatDoor.NumM
open Go.Proofs.YtoigjeoncdfdmaaGreatDoor.PackW (ret1 ret2 retb take_snoc not_all some_byte)

theorem lim1 {x : Int} (h : okI x = true) : (lim x).1 = x := by rw [lim_ok h]
theorem lim2 {x : Int} (h : okI x = true) : (lim x).2 = 0 := by rw [lim_ok h]
theorem lim3 {x : Int} (h : okI x = false) : (lim x).2 = 3 := by rw [lim_no h]
/-- At least one byte, and only digits. -/
def dgS (l : List UInt8) : Bool := l.all dgt && !l.isEmpty
def digitsP (l : List UInt8) (w : World) (e : Ending) (w' : World) : Prop := e = .returned (.bool (dgS l)) ∧ w = w'
def parsedR (l : List UInt8) (w : World) (e : Ending) (w' : World) : Prop := e = .returned (.tuple #[.int .i64 (parseS l).1, .int .i64 (parseS l).2]) ∧ w = w'
theorem dgS_iff {t : ByteArray} {l : List UInt8} (hd : t.data.toList = tl l) : dgS t.data.toList = ((tl l).all dgt && !(tl l).isEmpty) := by rw [hd]; rfl
theorem parsed_no {l : List UInt8} (h : isDec l = false) : ((0 : Int), (5 : Int)) = parseS l := by rw [parseS, h]; rfl
theorem parsed_range {l : List UInt8} (h : isDec l = true) (hv : 9223372036854775808 < (vl 0 (tl l) : Int)) : ((0 : Int), (3 : Int)) = parseS l := by
  rw [parseS, h, if_pos rfl, lim_no]
  rw [okI_no]
  unfold valS
  split <;> omega
theorem isDec_no1 {t : ByteArray} {l : List UInt8} (hd : t.data.toList = tl l) (h : dgS t.data.toList = false) : isDec l = false := by
  rw [dgS_iff hd] at h
  rw [isDec, h]; rfl
theorem isDec_no2 {t : ByteArray} {l : List UInt8} (hd : t.data.toList = tl l) (ht : 0 < t.size) (h : t[0].toNat = 48) (hl : l ≠ [48]) : isDec l = false := by
  have e : (tl l).head? = some 48 := by rw [head_at hd ht, show t[0] = 48 from by rw [← UInt8.toNat_inj, h]; rfl]
  have b : (l == [48]) = false := by simpa using hl
  rw [isDec, e, b]; simp
theorem isDec_yes {t : ByteArray} {l : List UInt8} (hd : t.data.toList = tl l) (h : dgS t.data.toList = true) (hh : ¬ ((tl l).head? = some 48 ∧ l ≠ [48])) : isDec l = true := by
  rw [dgS_iff hd, Bool.and_eq_true] at h
  refine isDec_of h.1 ?_ hh
  have := h.2
  intro e; rw [e] at this; cases this
theorem head_no {t : ByteArray} {l : List UInt8} (hd : t.data.toList = tl l) (ht : 0 < t.size) (h : ¬ t[0].toNat = 48) : ¬ ((tl l).head? = some 48 ∧ l ≠ [48]) := by
  intro x
  have e := x.1
  rw [head_at hd ht] at e
  exact h (by rw [Option.some.inj e]; rfl)
theorem size_of_dgS {t : ByteArray} (h : dgS t.data.toList = true) : 0 < t.size := by
  rw [dgS, Bool.and_eq_true, some_byte] at h
  simpa using h.2
end Go.Proofs.YtoigjeoncdfdmaaGreatDoor.RefP
