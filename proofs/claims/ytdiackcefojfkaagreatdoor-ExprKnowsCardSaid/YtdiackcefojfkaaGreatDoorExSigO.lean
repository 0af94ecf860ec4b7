/-
  A row of signals of the call's own, as signals; the names of an expression in memory; a slice of Booleans in memory.
-/
import Derived.Test.YtdiackcefojfkaaGreatDoorExOver
namespace Go.Proofs.YtdiackcefojfkaaGreatDoor.ExW
open Go Go.RowKit Go.Proofs.YtdiackcefojfkaaGreatDoor.NumM Go.Proofs.YtdiackcefojfkaaGreatDoor.LexW Go.Proofs.YtdiackcefojfkaaGreatDoor.LexM Go.Proofs.YtdiackcefojfkaaGreatDoor.ExM

/-- The cells of signals. -/
def sigCells : Env → List Value
  | [] => []
  | x :: r => .string x.1 :: .int .i64 x.2 :: sigCells r
theorem sigCells_snoc (x : ByteArray × Int) : ∀ l : Env, sigCells (l ++ [x]) = sigCells l ++ [.string x.1, .int .i64 x.2]
  | [] => rfl
  | y :: r => by rw [List.cons_append, sigCells, sigCells_snoc x r, sigCells]; rfl
theorem sigCells_at : ∀ (l : Env) (i : Nat) (x : ByteArray × Int), l[i]? = some x → (sigCells l)[i * 2]? = some (.string x.1) ∧ (sigCells l)[i * 2 + 1]? = some (.int .i64 x.2)
  | [], i, x, h => by simp at h
  | y :: r, 0, x, h => by
    obtain rfl : y = x := by simpa using h
    exact ⟨rfl, rfl⟩
  | y :: r, i + 1, x, h => by
    have := sigCells_at r i x (by simpa using h)
    rw [sigCells, show (i + 1) * 2 = i * 2 + 1 + 1 by omega]
    simpa using this
theorem sigCells_len : ∀ l : Env, (sigCells l).length = l.length * 2
  | [] => rfl
  | y :: r => by rw [sigCells]; simp [sigCells_len r]; omega
theorem sigs_own {W : World} {B : Nat} {v : Value} {l : Env} (h : W.ownsRow B 47 2 v l.length (sigCells l)) (hl : l.length ≤ 140737488351232) : SigsAt W v l := by
  obtain ⟨_, ⟨hv, hn⟩ | ⟨g, cap, cur, hv, hB, hg, hle, _, _, htake⟩⟩ := h
  · have : l = [] := List.length_eq_zero_iff.1 hn
    subst this
    rw [hv]
    exact SigsAt.nil W
  · refine ⟨some ⟨g, 0, none⟩, cap, hv, hl, hle, fun _ => ⟨g, 0, rfl, (Array.getElem?_eq_some_iff.1 hg).1, fun i x hi => ?_⟩⟩
    have hil := (List.getElem?_eq_some_iff.1 hi).1
    obtain ⟨q0, q1⟩ := sigCells_at l i x hi
    rw [← htake, List.getElem?_take, if_pos (by omega)] at q0 q1
    rw [Nat.zero_add, cell_of_row W g _ cur 47 (0, 0) hg, cell_of_row W g _ cur 47 (0, 0) hg]
    exact ⟨by simpa using q0, by simpa using q1⟩
theorem sigCells_one : ∀ l : Env, ∀ u ∈ sigCells l, u.oneCell' = true
  | [], u, h => by simp [sigCells] at h
  | x :: r, u, h => by
    rw [sigCells] at h
    rcases List.mem_cons.1 h with rfl | h
    · rfl
    · rcases List.mem_cons.1 h with rfl | h
      · rfl
      · exact sigCells_one r u h
theorem sigs_news {W : World} {ad : Addr} {cap : Nat} {env : Env} (h : SigsAt W (.slice (some ad) env.length cap) env) : ∀ j u, (sigCells env)[j]? = some u → W.cell? (ad.add j) = some u := by
  intro j u hu
  have hj := (List.getElem?_eq_some_iff.1 hu).1
  rw [sigCells_len] at hj
  obtain ⟨p, c, e, _, _, hp⟩ := h
  obtain ⟨b, off, rfl, _, hcell⟩ := hp (by omega)
  obtain ⟨rfl, _⟩ : ad = ⟨b, off, none⟩ ∧ c = cap := by simpa [eq_comm] using e
  obtain ⟨x, hx⟩ : ∃ x, env[j / 2]? = some x := ⟨_, List.getElem?_eq_getElem (by omega)⟩
  obtain ⟨q0, q1⟩ := sigCells_at env (j / 2) x hx
  obtain ⟨c0, c1⟩ := hcell (j / 2) x hx
  have ea : (⟨b, off, none⟩ : Addr).add j = ⟨b, off + j, none⟩ := by
    unfold Addr.add
    by_cases h0 : j = 0
    · subst h0; simp
    · simp [h0]
  rw [ea]
  rcases Nat.mod_two_eq_zero_or_one j with h2 | h2
  · have h3 : j / 2 * 2 = j := by omega
    rw [h3] at q0 c0
    rw [q0] at hu; cases hu
    exact c0
  · have h3 : j / 2 * 2 + 1 = j := by omega
    rw [h3] at q1
    rw [q1] at hu; cases hu
    rw [← c1]
    congr 2
    omega
theorem infoSig : (Tryz.prog.info? 47).map (fun i => (i.zero, i.size, i.bytes)) = some (some (.agg #[.string ⟨#[]⟩, .int .i64 0]), 2, 24) := by kernel_rfl
theorem sig_lit (w : World) (s : ByteArray) (n : Int) : (w.alloc (.cells #[.string s, .int .i64 n] 47)).ownsRow w.heap.size 47 2 (.slice (some ⟨w.heap.size, 0, none⟩) 1 1) 1 [.string s, .int .i64 n] :=
  ⟨rfl, .inr ⟨w.heap.size, 1, #[.string s, .int .i64 n], rfl, Nat.le_refl _, heap_alloc_new _ _, Nat.le_refl _, by decide, rfl, rfl⟩⟩
/-- The names of an expression in memory are no longer than memory. -/
theorem at_names {N : Nat} {w : World} {v : Value} {e : Ex} (h : ExAt N w v e) : ∀ (l : Nat), ∀ x ∈ pre l e, x.nm.size ≤ 140737488351232 := by
  induction h with
  | mk pl cl hs hl hc hp hx ih =>
    intro l x hm
    rw [pre_mk] at hm
    rcases List.mem_cons.1 hm with rfl | hm
    · exact hs
    · obtain ⟨a, ha, hxa⟩ := mem_pres.1 hm
      obtain ⟨i, hi⟩ := List.getElem?_of_mem ha
      exact ih i a hi _ x hxa
/-- The value is a slice of these Booleans. -/
def BoolsAt (w : World) (v : Value) (l : List Bool) : Prop :=
  ∃ p cap, v = .slice p l.length cap ∧ l.length ≤ 140737488351232 ∧ l.length ≤ cap ∧ (0 < l.length → ∃ b off, p = some ⟨b, off, none⟩ ∧ b < w.heap.size ∧ ∀ i x, l[i]? = some x → w.cell? ⟨b, off + i, none⟩ = some (.bool x))
theorem BoolsAt.later {w w' : World} {v : Value} {l : List Bool} (h : BoolsAt w v l) (hb : Below w.heap.size w w') : BoolsAt w' v l := by
  obtain ⟨p, cap, rfl, hl, hc, hx⟩ := h
  refine ⟨p, cap, rfl, hl, hc, fun h0 => ?_⟩
  obtain ⟨b, off, hp, hbs, hcell⟩ := hx h0
  refine ⟨b, off, hp, Nat.lt_of_lt_of_le hbs hb.size, fun i t hi => ?_⟩
  rw [hb.cell hbs]
  exact hcell i t hi
theorem BoolsAt.nil (w : World) : BoolsAt w (.slice none 0 0) [] := ⟨none, 0, rfl, by simp, by simp, fun h => by simp at h⟩
end Go.Proofs.YtdiackcefojfkaaGreatDoor.ExW
