/-
  The struct Forms as an argument: opened.
-/
import Derived.Test.YtpfnameeoadbkaaDoorPackOpen
namespace Go.Proofs.YtpfnameeoadbkaaDoor.PackW
open Go Go.ChangeShapes Go.WideShapes Go.ChangeAt Go.RowKit Go.Proofs.YtpfnameeoadbkaaDoor.NumM Go.Proofs.YtpfnameeoadbkaaDoor.PackM

/-- What a value of type Forms holds. -/
structure FormV where
  before : ByteArray
  behind : ByteArray
  n : Int
  l : Value
  at' : Int
def FormV.val (f : FormV) : Value := .agg #[.string f.before, .string f.behind, .int .i64 f.n, f.l, .int .u16 f.at']
structure FormV.Ok (f : FormV) (W : World) (ys : List (List UInt8)) (B : Nat) : Prop where
  n0 : -9223372036854775808 ≤ f.n
  n1 : f.n ≤ 9223372036854775807
  a0 : 0 ≤ f.at'
  a1 : f.at' ≤ 65535
  before : f.before.size ≤ B
  behind : f.behind.size ≤ B
  strs : StrsAt W f.l ys
  each : ∀ y ∈ ys, y.length ≤ B
  count : ys.length ≤ B
theorem cells1 : Tryd.prog.cellsOf 9 = 1 ∧ Tryd.prog.cellsOf 3 = 1 ∧ Tryd.prog.cellsOf 22 = 1 ∧ Tryd.prog.cellsOf 39 = 1 ∧ Tryd.prog.cellsOf 41 = 5 := by
  refine ⟨?_, ?_, ?_, ?_, ?_⟩ <;> kernel_rfl
theorem bounds16 {a : Int} (h : (Lit.int .u16 a).wf = true) : 0 ≤ a ∧ a ≤ 65535 := by
  have e1 : IntKind.u16.min = 0 := rfl
  have e2 : IntKind.u16.max = 65535 := rfl
  simp [Lit.wf, e1, e2] at h
  exact h
theorem open_forms {H : Type} {enc : TypeId × Value → H} {W : World} {r : Reach} {b0 : Nat} {v : Value} {d : DataW H} {p : List MemPlace} (hval : Value.okWide Tryd.prog W r b0 41 v)
    (h : DataW.Trod enc Tryd.prog W 0 (fun _ => true) true 41 v d p) (hlt : ∀ x ∈ p, x.block < W.heap.size) (hB : Rows.uptoBulk d ≤ 1048576) : ∃ (f : FormV) (ys : List (List UInt8)), v = f.val ∧ f.Ok W ys 1048576 := by
  obtain ⟨cs, rfl, hcs⟩ := okWide_struct Tryd.underlying41 hval
  obtain ⟨k1, k2, k3, k4, k5⟩ := cells1
  rw [k5] at hcs
  obtain ⟨fuel, hf⟩ := h
  obtain ⟨xs, n, rfl, hx, hl, hlen, hfd⟩ := DataW.trod_struct Tryd.underlying41 hf
  obtain ⟨c0, c1, c2, c3, c4, rfl⟩ : ∃ c0 c1 c2 c3 c4, cs = #[c0, c1, c2, c3, c4] := by
    obtain ⟨l⟩ := cs
    match l, hcs with
    | [c0, c1, c2, c3, c4], _ => exact ⟨c0, c1, c2, c3, c4, rfl⟩
  match xs, hlen with
  | [y0, y1, y2, y3, y4], _ =>
    have h0 : DataW.trod enc Tryd.prog W 0 (fun _ => true) true n 9 ([c0, c1, c2, c3, c4].take (Tryd.prog.cellsOf 9)) = some y0 := hfd 0 _ rfl
    rw [k1, show [c0, c1, c2, c3, c4].take 1 = [c0] from rfl] at h0
    have h1 : DataW.trod enc Tryd.prog W 0 (fun _ => true) true n 9 ([c1, c2, c3, c4].take (Tryd.prog.cellsOf 9)) = some y1 := hfd 1 _ rfl
    rw [k1, show [c1, c2, c3, c4].take 1 = [c1] from rfl] at h1
    have h2 : DataW.trod enc Tryd.prog W 0 (fun _ => true) true n 3 ([c2, c3, c4].take (Tryd.prog.cellsOf 3)) = some y2 := hfd 2 _ rfl
    rw [k2, show [c2, c3, c4].take 1 = [c2] from rfl] at h2
    have h3 : DataW.trod enc Tryd.prog W 0 (fun _ => true) true n 22 ([c3, c4].take (Tryd.prog.cellsOf 22)) = some y3 := hfd 3 _ rfl
    rw [k3, show [c3, c4].take 1 = [c3] from rfl] at h3
    have h4 : DataW.trod enc Tryd.prog W 0 (fun _ => true) true n 39 ([c4].take (Tryd.prog.cellsOf 39)) = some y4 := hfd 4 _ rfl
    rw [k4, show [c4].take 1 = [c4] from rfl] at h4
    simp only [Prod.mk.injEq] at hx
    obtain ⟨rfl, rfl⟩ := hx
    have hb := bulk_agg [y0.1, y1.1, y2.1, y3.1, y4.1]
    have hm : ∀ z ∈ [y0.1, y1.1, y2.1, y3.1, y4.1], Rows.uptoBulk z ≤ 1048576 := fun z hz => Nat.le_trans (bulk_mem hz) (Nat.le_trans hb hB)
    obtain ⟨s0, e0, x0, _⟩ := DataW.trod_string Tryd.underlying9 h0
    obtain ⟨s1, e1, x1, _⟩ := DataW.trod_string Tryd.underlying9 h1
    obtain ⟨m2, e2, _, w2⟩ := DataW.trod_int Tryd.underlying3 h2
    obtain ⟨m4, e4, _, w4⟩ := DataW.trod_int Tryd.underlying39 h4
    obtain ⟨ys, t1, t2, t3⟩ := open_texts (d := y3.1) (p := y3.2) h3 (fun x hx => hlt x (by simp [hx]))
    have b0 := hm y0.1 (by simp)
    have b1 := hm y1.1 (by simp)
    have b3 := hm y3.1 (by simp)
    rw [x0, bulk_str, len_data] at b0
    rw [x1, bulk_str, len_data] at b1
    obtain rfl : c0 = .string s0 := by simpa using e0
    obtain rfl : c1 = .string s1 := by simpa using e1
    obtain rfl : c2 = .int .i64 m2 := by simpa using e2
    obtain rfl : c4 = .int .u16 m4 := by simpa using e4
    exact ⟨⟨s0, s1, m2, c3, m4⟩, ys, rfl, ⟨(bounds w2).1, (bounds w2).2, (bounds16 w4).1, (bounds16 w4).2, by show s0.size ≤ _; omega, by show s1.size ≤ _; omega, t1, fun y hy => Nat.le_trans (t2 y hy) b3, Nat.le_trans t3 b3⟩⟩
end Go.Proofs.YtpfnameeoadbkaaDoor.PackW
