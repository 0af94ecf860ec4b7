/-
  Laws that the card uses; no conditions beside those that each states (ExKids ItScW ItRCho ItRScT ItLSca ExOpen).
-/
import Derived.Test.YtpejflgdehioaaaGreatDoorQ36
namespace Go.Proofs.YtpejflgdehioaaaGreatDoor.ExW
open Go Go.RowKit Go.Proofs.YtpejflgdehioaaaGreatDoor.NumM Go.Proofs.YtpejflgdehioaaaGreatDoor.LexW Go.Proofs.YtpejflgdehioaaaGreatDoor.LexM Go.Proofs.YtpejflgdehioaaaGreatDoor.ExM
def tFo (N : Nat) (x : Ex) (w : World) (e : Ending) (w' : World) : Prop := ∃ v, e = .returned v ∧ ExS (Foot N w.heap.size w') w' v x ∧ Below w.heap.size w w'
theorem tFo.at_ {N : Nat} {x : Ex} {w w' : World} {v : Value} (h : ExS (Foot N w.heap.size w') w' v x) (hN : N ≤ w'.heap.size) : ExAt w'.heap.size w' v x :=
  h.toAt (fun b hb => hb.elim (fun g => by omega) (fun g => g.2))
end Go.Proofs.YtpejflgdehioaaaGreatDoor.ExW
namespace Go.Proofs.YtpejflgdehioaaaGreatDoor.ItM
open Go Go.Proofs.YtpejflgdehioaaaGreatDoor.WordM Go.Proofs.YtpejflgdehioaaaGreatDoor.LexM Go.Proofs.YtpejflgdehioaaaGreatDoor.ExM
open Go.Proofs.YtpejflgdehioaaaGreatDoor.ClM (Fld)
theorem one_of {ks : List Ex} (h : ks.length = 1) : ∃ a, ks = [a] := by
  match ks, h with
  | [a], _ => exact ⟨a, rfl⟩
theorem GE.ok {fs : List Fld} {e : Ex} (h : GE fs e) : Ok e := by
  obtain ⟨l, h⟩ := h; exact (ok_at e l).2 fun x hx => (h x hx).1
theorem scB_vld {fs : List Fld} {e : Ex} (h : scB fs e = true) : vld (scM fs e) = 0 := by
  obtain ⟨o, n, s, ks⟩ := e; rw [scB_mk, Bool.and_eq_true] at h; exact of_decide_eq_true h.2
end Go.Proofs.YtpejflgdehioaaaGreatDoor.ItM
namespace Go.Proofs.YtpejflgdehioaaaGreatDoor.ItW
open Go Go.RowKit Go.Shelf Go.Proofs.YtpejflgdehioaaaGreatDoor.NumM Go.Proofs.YtpejflgdehioaaaGreatDoor.LexW Go.Proofs.YtpejflgdehioaaaGreatDoor.LexM Go.Proofs.YtpejflgdehioaaaGreatDoor.ExM Go.Proofs.YtpejflgdehioaaaGreatDoor.ExW Go.Proofs.YtpejflgdehioaaaGreatDoor.ItM
open Go.Proofs.YtpejflgdehioaaaGreatDoor.ClM (Fld)
attribute [local go_sem ↓] Go.wp_at_zero Go.wp_at_succ
structure RD (w : World) (c6 : List Value) (V : World) : Prop where
  h6 : Blk V w.heap.size c6
  rm : Room4 V (w.heap.size + 1)
  lo : Below w.heap.size w V
theorem RD.stay {w V V' : World} {c6 : List Value} (h : RD w c6 V) (hb : Below V.heap.size V V') : RD w c6 V' :=
  ⟨h.h6.stay hb, h.rm.stay hb, h.lo.trans (hb.mono h.lo.size)⟩
end Go.Proofs.YtpejflgdehioaaaGreatDoor.ItW
namespace Go.Proofs.YtpejflgdehioaaaGreatDoor.ItW
open Go Go.RowKit Go.Shelf Go.Proofs.YtpejflgdehioaaaGreatDoor.NumM Go.Proofs.YtpejflgdehioaaaGreatDoor.LexW Go.Proofs.YtpejflgdehioaaaGreatDoor.LexM Go.Proofs.YtpejflgdehioaaaGreatDoor.ExM Go.Proofs.YtpejflgdehioaaaGreatDoor.ExW Go.Proofs.YtpejflgdehioaaaGreatDoor.ItM
open Go.Proofs.YtpejflgdehioaaaGreatDoor.ClM (Fld)
def tScR (r : Ex × Int) (w : World) (x : Ending) (w' : World) : Prop := ∃ v, x = .returned (.tuple #[v, .int .i64 r.2]) ∧ ExAt w'.heap.size w' v r.1 ∧ Below w.heap.size w w'
theorem fin_true {w W : World} (hb : Below w.heap.size w W) : Ending.returned (.bool true) = .returned (.bool true) ∧ Below w.heap.size w W := ⟨rfl, hb⟩
theorem sca_sz {fs : List Fld} {x : Ex} : sz (scaS fs x).1 ≤ 400 := by
  have hz : sz zE ≤ 400 := (by unfold zE; rw [sz_mk, szs_nil]; decide); unfold scaS; split
  · split
    · split
      · rename_i hq; exact ((vld_zero _).1 (scB_vld hq)).2.2
      · exact hz
    · exact hz
  · exact hz
end Go.Proofs.YtpejflgdehioaaaGreatDoor.ItW
namespace Go.Proofs.YtpejflgdehioaaaGreatDoor.ExW
open Go Go.RowKit Go.ChangeShapes Go.WideShapes Go.ChangeAt Go.Proofs.YtpejflgdehioaaaGreatDoor.LexM Go.Proofs.YtpejflgdehioaaaGreatDoor.LexW Go.Proofs.YtpejflgdehioaaaGreatDoor.ExM
set_option maxRecDepth 100000 in
theorem open_expr {H : Type} {enc : TypeId × Value → H} {W : World} {r : Reach} {b0 : Nat} {v : Value} {d : DataW H} {p : List MemPlace} (hval : Value.okWide Tryz.prog W r b0 43 v)
    (h : DataW.Trod enc Tryz.prog W 0 (fun _ => true) true 43 v d p) (hlt : ∀ x ∈ p, x.block < W.heap.size) (hw : ∀ n ∈ d.weights Tryz.prog 43, n ≤ 140737488351232) : ∃ e : Ex, ExAt W.heap.size W v e := by
  obtain ⟨cs, rfl, hcs⟩ := okWide_struct Tryz.underlying43 hval; rw [cellsX.2.2.1] at hcs; obtain ⟨fuel, hf⟩ := h; obtain ⟨e, q, cap, he, hx⟩ := open_ex fuel cs.toList (d, p) (by simpa using hcs) (by simpa [Value.cells] using hf) hlt hw; have hc : cs = #[.int .i64 e.op, .int .i64 e.n, .string e.nm, .slice q e.args.length cap] := by
    apply Array.ext'; rw [he]
  rw [hc]; exact ⟨e, hx⟩
end Go.Proofs.YtpejflgdehioaaaGreatDoor.ExW
