/-
  Laws that the card uses; no conditions beside those that each states (ItLaid).
-/
import Derived.Test.YtpejflgdehioaaaGreatDoorQ36
namespace Go.Proofs.YtpejflgdehioaaaGreatDoor.ItW
open Go Go.RowKit Go.ChangeShapes Go.WideShapes Go.ChangeAt Go.Proofs.YtpejflgdehioaaaGreatDoor.NumM Go.Proofs.YtpejflgdehioaaaGreatDoor.LexM Go.Proofs.YtpejflgdehioaaaGreatDoor.LexW Go.Proofs.YtpejflgdehioaaaGreatDoor.ExM Go.Proofs.YtpejflgdehioaaaGreatDoor.ExW Go.Proofs.YtpejflgdehioaaaGreatDoor.ItM
open Go.Proofs.YtpejflgdehioaaaGreatDoor.ClM (Fld)
theorem tSyntax : (Tryz.prog.globals[1]?).map (·.type) = some 194 := by kernel_rfl
theorem tabI_of_laid {W : World} (h : laidMetH Tryz.prog laidAll W) : TabI W := by
  refine ⟨tab_of_laid h, ?_⟩; rw [MakeChecks.laidMetH_plain _ _ _ (by kernel_rfl)] at h; have h1 : laidMet Tryz.prog (("strconv.ErrRange", Rows.laid_strconv_ErrRange) :: ("strconv.ErrSyntax", Rows.laid_strconv_ErrSyntax) :: []) W := h.tail.tail.tail; have h2 : laidMet Tryz.prog (("strconv.ErrSyntax", Rows.laid_strconv_ErrSyntax) :: []) W := h1.tail; obtain ⟨a0, _, hv0, _⟩ := laid_sentinel h2 gSyntax tSyntax Tryz.underlying194 rowErr Tryz.underlying233 Tryz.underlying235 rfl rfl Tryz.underlying9 cellsErr cellsStr; exact ⟨_, _, hv0⟩
theorem fds_of {N : Nat} {W : World} {p : Option Addr} {cap : Nat} {fs : List Fld} (h : ClW.At (ClW.Lo N) W (.r .fields) (.slice p fs.length cap) (.row .fields (fs.map ClM.Fld.lf))) : FdsA N W (.slice p fs.length cap) fs := by
  obtain ⟨p', cap', F, e, r⟩ := h.rowOf; rw [List.length_map] at e; simp only [Value.slice.injEq] at e; obtain ⟨rfl, -, rfl⟩ := e; have hl := r.hl; have hc := r.hc; rw [List.length_map] at hl hc; have lf : ∀ (i : Nat) (f : Fld), fs[i]? = some f → (fs.map ClM.Fld.lf)[i]? = some (ClM.Fld.lf f) := (fun i f hi => by rw [List.getElem?_map, hi]; rfl); refine ⟨p, cap, rfl, hl, hc, fun f hf => ?_, fun h0 => ?_⟩
  · obtain ⟨i, hi⟩ := List.getElem?_of_mem hf; exact (r.hx i _ 0 _ .s (lf i f hi) rfl rfl).sOf.2
  · obtain ⟨b, off, rfl, hb, hcell⟩ := r.hp (by rw [List.length_map]; exact h0); refine ⟨b, off, rfl, hb, fun i f hi => ?_⟩; have hil := (List.getElem?_eq_some_iff.1 hi).1; have c := (fun j (hj : j < 5) => hcell i j (by rw [List.length_map]; exact hil) hj); have e0 := (r.hx i _ 0 _ .s (lf i f hi) rfl rfl).sOf.1; have e1 := (r.hx i _ 1 _ .n (lf i f hi) rfl rfl).nOf; have e2 := (r.hx i _ 2 _ .n (lf i f hi) rfl rfl).nOf; have e3 := (r.hx i _ 3 _ .n (lf i f hi) rfl rfl).nOf; have e4 := (r.hx i _ 4 _ .n (lf i f hi) rfl rfl).nOf; have c0 := c 0 (by decide); have c1 := c 1 (by decide); have c2 := c 2 (by decide); have c3 := c 3 (by decide); have c4 := c 4 (by decide); rw [e0] at c0; rw [e1] at c1; rw [e2] at c2; rw [e3] at c3; rw [e4] at c4; exact ⟨c0, c1, c2, c3, c4⟩
theorem cla_of {N : Nat} {W : World} {pf : Option Addr} {cf : Nat} {pb : Option Addr} {cb : Nat} {c : ClM.Cl} (h : ClW.CV (ClW.Lo N) W pf cf pb cb c) : ClA N W (ClW.cv c.nm c.par (.slice pf c.fs.length cf) (.slice pb c.bs.length cb)) c.fs :=
  ⟨c.nm, c.par, _, pb, c.bs.length, cb, rfl, fds_of h.fs⟩
end Go.Proofs.YtpejflgdehioaaaGreatDoor.ItW
