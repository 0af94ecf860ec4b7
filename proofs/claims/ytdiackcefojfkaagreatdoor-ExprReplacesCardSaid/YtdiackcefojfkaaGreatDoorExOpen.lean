/-
  The arguments of this seat's laws, opened.
-/
import Derived.Test.YtdiackcefojfkaaGreatDoorExLaid
namespace Go.Proofs.YtdiackcefojfkaaGreatDoor.ExW
open Go Go.RowKit Go.ChangeShapes Go.WideShapes Go.ChangeAt Go.Proofs.YtdiackcefojfkaaGreatDoor.LexM Go.Proofs.YtdiackcefojfkaaGreatDoor.LexW Go.Proofs.YtdiackcefojfkaaGreatDoor.ExM

theorem reach_le {n : Nat} (h : decide (n ≤ reachBytes) = true) : n ≤ 140737488351232 := of_decide_eq_true h
set_option maxRecDepth 100000 in
theorem open_expr {H : Type} {enc : TypeId × Value → H} {W : World} {r : Reach} {b0 : Nat} {v : Value} {d : DataW H} {p : List MemPlace} (hval : Value.okWide Tryz.prog W r b0 24 v)
    (h : DataW.Trod enc Tryz.prog W 0 (fun _ => true) true 24 v d p) (hlt : ∀ x ∈ p, x.block < W.heap.size) (hw : ∀ n ∈ d.weights Tryz.prog 24, n ≤ 140737488351232) : ∃ e : Ex, ExAt W.heap.size W v e := by
  obtain ⟨cs, rfl, hcs⟩ := okWide_struct Tryz.underlying24 hval
  rw [cellsX.2.2.1] at hcs
  obtain ⟨fuel, hf⟩ := h
  obtain ⟨e, q, cap, he, hx⟩ := open_ex fuel cs.toList (d, p) (by simpa using hcs) (by simpa [Value.cells] using hf) hlt hw
  have hc : cs = #[.int .i64 e.op, .int .i64 e.n, .string e.nm, .slice q e.args.length cap] := by
    apply Array.ext'
    rw [he]
  rw [hc]
  exact ⟨e, hx⟩
set_option maxRecDepth 100000 in
theorem open_sig {H : Type} {enc : TypeId × Value → H} {W : World} {fuel : Nat} {cs : List Value} {x : DataW H × List MemPlace} (hl : cs.length = 2)
    (h : DataW.trod enc Tryz.prog W 0 (fun _ => true) true fuel 47 cs = some x) : ∃ t : ByteArray × Int, cs = [.string t.1, .int .i64 t.2] ∧ (-9223372036854775808 ≤ t.2 ∧ t.2 ≤ 9223372036854775807) ∧ t.1.size ≤ 9223372036854775807 := by
  obtain ⟨k1, k2, _⟩ := cellsX
  obtain ⟨xs, n, rfl, rfl, _, hlen, hfd⟩ := DataW.trod_struct Tryz.underlying47 h
  match cs, hl with
  | [c0, c1], _ =>
    match xs, hlen with
    | [y0, y1], _ =>
      have h0 : DataW.trod enc Tryz.prog W 0 (fun _ => true) true n 9 ([c0, c1].take (Tryz.prog.cellsOf 9)) = some y0 := hfd 0 _ rfl
      rw [k2, show [c0, c1].take 1 = [c0] from rfl] at h0
      have h1 : DataW.trod enc Tryz.prog W 0 (fun _ => true) true n 3 ([c1].take (Tryz.prog.cellsOf 3)) = some y1 := hfd 1 _ rfl
      rw [k1, show [c1].take 1 = [c1] from rfl] at h1
      obtain ⟨s0, e0, _, w0⟩ := DataW.trod_string Tryz.underlying9 h0
      obtain ⟨m1, e1, _, w1⟩ := DataW.trod_int Tryz.underlying3 h1
      obtain rfl : c0 = .string s0 := by simpa using e0
      obtain rfl : c1 = .int .i64 m1 := by simpa using e1
      exact ⟨(s0, m1), rfl, bounds w1, by unfold maxLen at w0; exact w0⟩
set_option maxRecDepth 100000 in
theorem open_sigs {H : Type} {enc : TypeId × Value → H} {W : World} {r : Reach} {b0 : Nat} {v : Value} {d : DataW H} {p : List MemPlace} (hval : Value.okWide Tryz.prog W r b0 35 v)
    (h : DataW.Trod enc Tryz.prog W 0 (fun _ => true) true 35 v d p) (hlt : ∀ x ∈ p, x.block < W.heap.size) (hw : ∀ n ∈ d.weights Tryz.prog 35, n ≤ 140737488351232) :
    ∃ l : Env, SigsAt W v l ∧ (∀ t ∈ l, -9223372036854775808 ≤ t.2 ∧ t.2 ≤ 9223372036854775807) ∧ (∀ t ∈ l, t.1.size ≤ 9223372036854775807) := by
  obtain ⟨a0, len0, cap0, rfl⟩ := okWide_slice Tryz.underlying35 hval
  obtain ⟨fuel, hf⟩ := h
  rcases DataW.trod_slice Tryz.underlying35 (by simpa [Value.cells] using hf) with ⟨hcs, _⟩ | ⟨a, len, cap, elems, rest, m, _, hcs, hx, _, hlc, _, hel, hE, _, _⟩
  · obtain ⟨rfl, rfl, rfl⟩ : a0 = none ∧ len0 = 0 ∧ cap0 = 0 := by simpa using hcs
    exact ⟨[], SigsAt.nil W, by simp, by simp⟩
  · obtain ⟨rfl, rfl, rfl⟩ : a0 = some a ∧ len0 = len ∧ cap0 = cap := by simpa using hcs
    simp only [Prod.mk.injEq] at hx
    obtain ⟨rfl, rfl⟩ := hx
    rw [cellsX.2.2.2.1] at hE hlt
    have hbytes : len0 ≤ 140737488351232 := by
      have := hw ((elems.length + rest.length) * 24) (by simp only [DataW.weights, Tryz.underlying35, cellsX.2.2.2.2.2.2, List.length_map]; simp)
      omega
    have each : ∀ i, i < len0 → ∃ t : ByteArray × Int, (∀ j, j < 2 → W.cell? ((a.add (i * 2)).add j) = ([.string t.1, .int .i64 t.2] : List Value)[j]?) ∧ (-9223372036854775808 ≤ t.2 ∧ t.2 ≤ 9223372036854775807) ∧ t.1.size ≤ 9223372036854775807 := fun i hi => by
      have hb := hE i hi
      rw [List.getElem?_eq_getElem (by omega), Option.bind_eq_some_iff] at hb
      obtain ⟨cs', hc', ht'⟩ := hb
      obtain ⟨_, hcl, hat⟩ := World.cells?_some hc'
      obtain ⟨t, rfl, q1, q2⟩ := open_sig hcl ht'
      exact ⟨t, hat, q1, q2⟩
    obtain ⟨l, hll, hq⟩ := pick_list len0 each
    refine ⟨l, ⟨some a, cap0, by rw [hll], by omega, by omega, fun h0 => ?_⟩, fun t ht => ?_, fun t ht => ?_⟩
    · obtain ⟨b, off, spot⟩ := a
      have hspot : spot = none := by
        obtain ⟨t0, ht0⟩ : ∃ t, l[0]? = some t := ⟨_, List.getElem?_eq_getElem h0⟩
        have := (hq 0 t0 ht0).1 0 (by omega)
        simpa [Addr.add] using World.cell?_spot this
      subst hspot
      refine ⟨b, off, rfl, hlt (.cell b off) (List.mem_append.2 (.inl (MemPlace.mem_row.2 ⟨0, by omega, by simp⟩))), fun i t hi => ?_⟩
      have q := (hq i t hi).1
      simp only [add_at] at q
      exact ⟨q 0 (by omega), q 1 (by omega)⟩
    · obtain ⟨i, hi, he⟩ := List.mem_iff_getElem.1 ht
      exact (hq i t (by rw [List.getElem?_eq_getElem hi, he])).2.1
    · obtain ⟨i, hi, he⟩ := List.mem_iff_getElem.1 ht
      exact (hq i t (by rw [List.getElem?_eq_getElem hi, he])).2.2
end Go.Proofs.YtdiackcefojfkaaGreatDoor.ExW
