/-
  Laws that the card uses; no conditions beside those that each states (ItRFld).
-/
import Derived.Deep.AppendLies
import Derived.Deep.RegionLaw
import Derived.Test.YtpejflgdehioaaaGreatDoorQ11
namespace Go.Proofs.YtpejflgdehioaaaGreatDoor.ItW
open Go Go.RowKit Go.Proofs.YtpejflgdehioaaaGreatDoor.NumM Go.Proofs.YtpejflgdehioaaaGreatDoor.LexW Go.Proofs.YtpejflgdehioaaaGreatDoor.LexM Go.Proofs.YtpejflgdehioaaaGreatDoor.ExM Go.Proofs.YtpejflgdehioaaaGreatDoor.ExW Go.Proofs.YtpejflgdehioaaaGreatDoor.ItM
open Go.Proofs.YtpejflgdehioaaaGreatDoor.ClM (Fld)
theorem szO_at {fs : List Fld} {s : ByteArray} : ∀ {k : Nat} {f : Fld}, fs[k]? = some f → f.nm.data.toList = s.data.toList → (∀ (j : Nat) g, j < k → fs[j]? = some g → g.nm.data.toList ≠ s.data.toList) → szO fs s = some f.sz := by
  induction fs with
  | nil => intro k f h; simp at h
  | cons a r ih =>
    intro k f h e hn; rw [szO_cons]; cases k with
    | zero =>
      obtain rfl : a = f := (by simpa using h); rw [if_pos (by unfold ClM.same; rw [e]; simp)]
    | succ k =>
      rw [if_neg (by have := hn 0 a (by omega) rfl; simpa [ClM.same] using this)]; exact ih (k := k) (by simpa using h) e fun j g hj hg => hn (j + 1) g (by omega) (by simpa using hg)
theorem szO_no {fs : List Fld} {s : ByteArray} (h : ∀ (i : Nat) f, i < fs.length → fs[i]? = some f → f.nm.data.toList ≠ s.data.toList) : szO fs s = none := by
  induction fs with
  | nil => rfl
  | cons a r ih =>
    rw [szO_cons, if_neg (by have := h 0 a (by simp) rfl; simpa [ClM.same] using this)]; exact ih fun i f hi hf => h (i + 1) f (by simp; omega) (by simpa using hf)
theorem szI_some {fs : List Fld} {s : ByteArray} {n : Int} (h : szO fs s = some n) : szI fs s = n := by unfold szI; rw [h]; rfl
theorem szI_none {fs : List Fld} {s : ByteArray} (h : szO fs s = none) : szI fs s = 0 := by unfold szI; rw [h]; rfl
end Go.Proofs.YtpejflgdehioaaaGreatDoor.ItW
