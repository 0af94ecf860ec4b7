/-
  A slice of Booleans, opened.
-/
import Derived.Test.YtdiackcefojfkaaGreatDoorExOpen
import Derived.Test.YtdiackcefojfkaaGreatDoorExSigO
namespace Go.Proofs.YtdiackcefojfkaaGreatDoor.ExW
open Go Go.RowKit Go.ChangeShapes Go.WideShapes Go.ChangeAt Go.Proofs.YtdiackcefojfkaaGreatDoor.LexM Go.Proofs.YtdiackcefojfkaaGreatDoor.LexW Go.Proofs.YtdiackcefojfkaaGreatDoor.ExM

theorem cellsB : Tryz.prog.cellsOf 4 = 1 ∧ Tryz.prog.bytesOf 4 = 1 := by
  refine ⟨?_, ?_⟩ <;> kernel_rfl
set_option maxRecDepth 100000 in
theorem open_bools {H : Type} {enc : TypeId × Value → H} {W : World} {r : Reach} {b0 : Nat} {v : Value} {d : DataW H} {p : List MemPlace} (hval : Value.okWide Tryz.prog W r b0 49 v)
    (h : DataW.Trod enc Tryz.prog W 0 (fun _ => true) true 49 v d p) (hlt : ∀ x ∈ p, x.block < W.heap.size) (hw : ∀ n ∈ d.weights Tryz.prog 49, n ≤ 140737488351232) :
    ∃ l : List Bool, BoolsAt W v l := by
  obtain ⟨a0, len0, cap0, rfl⟩ := okWide_slice Tryz.underlying49 hval
  obtain ⟨fuel, hf⟩ := h
  rcases DataW.trod_slice Tryz.underlying49 (by simpa [Value.cells] using hf) with ⟨hcs, _⟩ | ⟨a, len, cap, elems, rest, m, _, hcs, hx, _, hlc, _, hel, hE, _, _⟩
  · obtain ⟨rfl, rfl, rfl⟩ : a0 = none ∧ len0 = 0 ∧ cap0 = 0 := by simpa using hcs
    exact ⟨[], BoolsAt.nil W⟩
  · obtain ⟨rfl, rfl, rfl⟩ : a0 = some a ∧ len0 = len ∧ cap0 = cap := by simpa using hcs
    simp only [Prod.mk.injEq] at hx
    obtain ⟨rfl, rfl⟩ := hx
    rw [cellsB.1] at hE hlt
    have hbytes : len0 ≤ 140737488351232 := by
      have := hw ((elems.length + rest.length) * 1) (by simp only [DataW.weights, Tryz.underlying49, cellsB.2, List.length_map]; simp)
      omega
    have each : ∀ i, i < len0 → ∃ t : Bool, W.cell? (a.add i) = some (.bool t) := fun i hi => by
      have hb := hE i hi
      rw [List.getElem?_eq_getElem (by omega), Option.bind_eq_some_iff] at hb
      obtain ⟨cs', hc', ht'⟩ := hb
      obtain ⟨_, hcl, hat⟩ := World.cells?_some hc'
      obtain ⟨t, rfl, _⟩ := DataW.trod_bool Tryz.underlying4 ht'
      have q := hat 0 (by simp)
      refine ⟨t, ?_⟩
      simpa [Addr.add] using q
    obtain ⟨l, hll, hq⟩ := pick_list len0 each
    refine ⟨l, some a, cap0, by rw [hll], by omega, by omega, fun h0 => ?_⟩
    obtain ⟨b, off, spot⟩ := a
    have hspot : spot = none := by
      obtain ⟨t0, ht0⟩ : ∃ t, l[0]? = some t := ⟨_, List.getElem?_eq_getElem h0⟩
      have := hq 0 t0 ht0
      simpa [Addr.add] using World.cell?_spot this
    subst hspot
    refine ⟨b, off, rfl, hlt (.cell b off) (List.mem_append.2 (.inl (MemPlace.mem_row.2 ⟨0, by omega, by simp⟩))), fun i t hi => ?_⟩
    have q := hq i t hi
    simp only [add_at] at q
    exact q
end Go.Proofs.YtdiackcefojfkaaGreatDoor.ExW
