/-
  Rows of a call's own as rows of leaves.
-/
import Derived.Test.YtoigjeoncdfdmaaGreatDoorClBase
import Derived.Deep.AppendLies
namespace Go.Proofs.YtoigjeoncdfdmaaGreatDoor.ClW
open Go Go.RowKit Go.Proofs.YtoigjeoncdfdmaaGreatDoor.NumM Go.Proofs.YtoigjeoncdfdmaaGreatDoor.LexW Go.Proofs.YtoigjeoncdfdmaaGreatDoor.LexM Go.Proofs.YtoigjeoncdfdmaaGreatDoor.ClM
open Go.«Sort»

theorem own_lt {w : World} {base : Nat} {e : TypeId} {size n : Nat} {v : Value} {xs : List Value} (h : w.ownsRow base e size v n xs) : ∀ k, v.ownBlock = some k → base ≤ k ∧ k < w.heap.size := h.lt
theorem own_block {w : World} {B : Nat} {e : TypeId} {size : Nat} {v : Value} {n : Nat} {xs : List Value} (h : w.ownsRow B e size v n xs) : ∀ k, v.ownBlock = some k → B ≤ k := fun k hk => (h.lt k hk).1
theorem own_len {w : World} {base : Nat} {e : TypeId} {size n : Nat} {v : Value} {xs : List Value} (h : w.ownsRow base e size v n xs) : ∃ q c, v = .slice q n c := by
  rcases h.2 with ⟨rfl, rfl⟩ | ⟨g, cap, cur, rfl, _⟩
  · exact ⟨_, _, rfl⟩
  · exact ⟨_, _, rfl⟩
theorem own_later {w w' : World} {B : Nat} {e : TypeId} {size : Nat} {v : Value} {n : Nat} {xs : List Value} (h : w.ownsRow B e size v n xs) (hb : Below w.heap.size w w') : w'.ownsRow B e size v n xs := by
  obtain ⟨hl, h | ⟨g, cap, cur, hv, hB, hg, h1, h2, h3, h4⟩⟩ := h
  · exact ⟨hl, .inl h⟩
  · exact ⟨hl, .inr ⟨g, cap, cur, hv, hB, (hb.block g (Array.getElem?_eq_some_iff.1 hg).1).trans hg, h1, h2, h3, h4⟩⟩
theorem own_grown {w w' : World} {base : Nat} {e : TypeId} {size n : Nat} {v : Value} {xs : List Value} {row : Option Nat} (h : w.ownsRow base e size v n xs) (hg : w.grownBy w' row) (hr : ∀ b, v.ownBlock = some b → row ≠ some b) : w'.ownsRow base e size v n xs :=
  World.ownsRow.kept h hg (by
    cases hv : v.ownBlock with
    | none => exact .inl rfl
    | some b => exact .inr (fun e => hr b hv e.symm))
theorem own_low {w : World} {B B' : Nat} {e : TypeId} {size : Nat} {v : Value} {n : Nat} {xs : List Value} (h : w.ownsRow B e size v n xs) (hb : B' ≤ B) : w.ownsRow B' e size v n xs := by
  obtain ⟨hl, h | ⟨g, cap, cur, hv, hB, rest⟩⟩ := h
  · exact ⟨hl, .inl h⟩
  · exact ⟨hl, .inr ⟨g, cap, cur, hv, Nat.le_trans hb hB, rest⟩⟩
theorem own_cells {w : World} {B : Nat} {e : TypeId} {size : Nat} {p : Option Addr} {n cap : Nat} {xs : List Value} (h : w.ownsRow B e size (.slice p n cap) n xs) (hn : 0 < n) : ∃ g, p = some ⟨g, 0, none⟩ ∧ B ≤ g ∧ g < w.heap.size ∧ ∀ o, o < n * size → w.cell? ⟨g, 0 + o, none⟩ = some (xs.getD o undef) := by
  obtain ⟨hl, ⟨_, h0⟩ | ⟨g, cap', cur, hv, hB, hg, h1, h2, h3, h4⟩⟩ := h
  · omega
  · cases hv
    refine ⟨g, rfl, hB, (Array.getElem?_eq_some_iff.1 hg).1, fun o ho => ?_⟩
    have hc : cur.toList[o]? = xs[o]? := by
      rw [← h4, List.getElem?_take, if_pos ho]
    have hx : xs[o]? = some (xs.getD o undef) := by
      rw [List.getD_eq_getElem?_getD, List.getElem?_eq_getElem (by omega)]; rfl
    rw [hx] at hc
    simp only [World.cell?, hg, Nat.zero_add]
    simpa using hc
theorem own_cap {w : World} {B : Nat} {e : TypeId} {size : Nat} {p : Option Addr} {n cap : Nat} {xs : List Value} (h : w.ownsRow B e size (.slice p n cap) n xs) : n ≤ cap := by
  obtain ⟨hl, ⟨hv, h0⟩ | ⟨g, cap', cur, hv, hB, hg, h1, h2, h3, h4⟩⟩ := h
  · cases hv; omega
  · cases hv; exact h1
/-- A row of the call's own is a row of leaves. -/
theorem rowA_own {S : Nat → Prop} {w : World} {B : Nat} {e : TypeId} {k : Kd} {p : Option Addr} {n cap : Nat} {xs : List Value} {l : List (List Lf)} (h : w.ownsRow B e (shp k).length (.slice p n cap) n xs) (hl : l.length = n) (hb : n * byt k ≤ 140737488351232)
    (hw : ∀ (i : Nat) (x : List Lf), l[i]? = some x → x.length = (shp k).length)
    (hx : ∀ (i : Nat) (x : List Lf) (j : Nat) (y : Lf) (sh : Sh), l[i]? = some x → x[j]? = some y → (shp k)[j]? = some sh → At S w sh (xs.getD (i * (shp k).length + j) undef) y)
    (hS : ∀ g, B ≤ g → g < w.heap.size → (Value.slice p n cap).ownBlock = some g → S g) : RowA S w k p cap (fun i j => xs.getD (i * (shp k).length + j) undef) l := by
  refine ⟨by rw [hl]; exact hb, by rw [hl]; exact own_cap h, fun h0 => ?_, hw, hx⟩
  obtain ⟨g, rfl, hB, hg, hc⟩ := own_cells h (by omega)
  refine ⟨g, 0, rfl, hS g hB hg rfl, fun i j hi hj => ?_⟩
  have := hc (i * (shp k).length + j) (by
    have : (i + 1) * (shp k).length ≤ n * (shp k).length := Nat.mul_le_mul_right _ (by omega)
    rw [Nat.succ_mul] at this
    omega)
  rw [← Nat.add_assoc] at this
  exact this
/-- Texts as leaves. -/
def SL (l : List ByteArray) : List (List Lf) := l.map (fun s => [Lf.s s])
theorem SL_len (l : List ByteArray) : (SL l).length = l.length := by simp [SL]
theorem SL_at {l : List ByteArray} {i : Nat} {x : List Lf} (h : (SL l)[i]? = some x) : ∃ s, l[i]? = some s ∧ x = [.s s] := by
  unfold SL at h
  rw [List.getElem?_map] at h
  obtain ⟨s, hs, rfl⟩ := Option.map_eq_some_iff.1 h
  exact ⟨s, hs, rfl⟩
/-- A slice of texts that the call made. -/
def tStrs (l : List ByteArray) (w : World) (e : Ending) (w' : World) : Prop :=
  ∃ v, e = .returned v ∧ w'.ownsRow w.heap.size 9 1 v l.length (l.map Value.string) ∧ Below w.heap.size w w'
theorem strs_own {w : World} {B : Nat} {v : Value} {l : List ByteArray} (h : w.ownsRow B 9 1 v l.length (l.map Value.string)) (hs : ∀ s ∈ l, s.size ≤ 140737488351232) (hb : l.length * 16 ≤ 140737488351232) :
    ∃ p cap G, v = .slice p l.length cap ∧ RowA (Hi B w) w .strs p cap G (SL l) := by
  obtain ⟨p, cap, rfl⟩ := own_len h
  refine ⟨p, cap, _, rfl, rowA_own (k := .strs) h (SL_len l) hb (fun i x hx => ?_) (fun i x j y sh hx hy hsh => ?_) (fun g h1 h2 _ => ⟨h1, h2⟩)⟩
  · obtain ⟨s, _, rfl⟩ := SL_at hx; rfl
  · obtain ⟨s, hi, rfl⟩ := SL_at hx
    match j, hy, hsh with
    | 0, hy, hsh =>
      cases hy
      cases hsh
      have e : (l.map Value.string).getD (i * (shp Kd.strs).length + 0) undef = .string s := by
        rw [List.getD_eq_getElem?_getD, show i * (shp Kd.strs).length + 0 = i by simp [shp], List.getElem?_map, hi]; rfl
      rw [e]
      exact .s s (hs s (List.mem_of_getElem? hi))
    | j + 1, hy, _ => simp at hy
theorem RowA.stS {S : Nat → Prop} {w : World} {p : Option Addr} {cap : Nat} {G : Nat → Nat → Value} {l : List ByteArray} (h : RowA S w .strs p cap G (SL l)) {i : Nat} {s : ByteArray} (hi : l[i]? = some s) :
    ∃ b off, p = some ⟨b, off, none⟩ ∧ S b ∧ w.cell? ⟨b, off + i, none⟩ = some (.string s) ∧ s.size ≤ 140737488351232 := by
  have hx : (SL l)[i]? = some [.s s] := by unfold SL; rw [List.getElem?_map, hi]; rfl
  obtain ⟨b, off, s', e, rfl, hb, hc, hs⟩ := h.st hx
  cases e
  exact ⟨b, off, rfl, hb, hc, hs⟩
theorem RowA.toLo {lo : Nat} {w : World} {k : Kd} {p : Option Addr} {cap : Nat} {G : Nat → Nat → Value} {l : List (List Lf)} (h : RowA (Hi lo w) w k p cap G l) : RowA (Lo w.heap.size) w k p cap G l := h.kept (fun _ g => g.2) (fun _ _ _ _ hv => hv)
theorem infoS : (Tryz.prog.info? 9).map (fun i => (i.zero, i.size, i.bytes)) = some (some (.string ⟨#[]⟩), 1, 16) := by kernel_rfl
theorem cell_one_at {w : World} {B : Nat} (hB : w.heap.size = B) (x : Value) (t : TypeId) : ∀ j u, [x][j]? = some u → (w.alloc (.cells #[x] t)).cell? ((⟨B, 0, none⟩ : Addr).add j) = some u := by
  subst hB
  exact World.news_of_block (cs := #[x]) (heap_alloc_new _ _)
theorem cells_at {w : World} {B : Nat} (hB : w.heap.size = B) (xs : List Value) (t : TypeId) : ∀ j u, xs[j]? = some u → (w.alloc (.cells xs.toArray t)).cell? ((⟨B, 0, none⟩ : Addr).add j) = some u := by
  subst hB
  exact World.news_of_block (cs := xs.toArray) (heap_alloc_new _ _)
theorem map_snoc {α β : Type} {f : α → β} {l : List α} {k : Nat} {x : α} (h : l[k]? = some x) : (l.take (k + 1)).map f = (l.take k).map f ++ [f x] := by
  obtain ⟨hk, he⟩ := List.getElem?_eq_some_iff.1 h
  rw [List.take_succ_eq_append_getElem hk, List.map_append, he]; rfl
end Go.Proofs.YtoigjeoncdfdmaaGreatDoor.ClW
