/-
  Laws that the card uses; no conditions beside those that each states (ExMem ExNameS).
-/
import Derived.Test.YtpejflgdehioaaaGreatDoorT02
import Derived.Test.YtpejflgdehioaaaGreatDoorT04
namespace Go.Proofs.YtpejflgdehioaaaGreatDoor.ExW
open Go Go.RowKit Go.Proofs.YtpejflgdehioaaaGreatDoor.LexW Go.Proofs.YtpejflgdehioaaaGreatDoor.LexM Go.Proofs.YtpejflgdehioaaaGreatDoor.ExM
abbrev xv (o n : Int) (s : ByteArray) (a : Value) : Value := .agg #[.int .i64 o, .int .i64 n, .string s, a]
inductive ExAt (N : Nat) (w : World) : Value → Ex → Prop where
  | mk {o n : Int} {s : ByteArray} {ks : List Ex} {p : Option Addr} {cap : Nat} (pl : Nat → Option Addr) (cl : Nat → Nat)
      (hs : s.size ≤ 140737488351232) (hl : ks.length ≤ 140737488351232) (hc : ks.length ≤ cap)
      (hp : 0 < ks.length → ∃ b off, p = some ⟨b, off, none⟩ ∧ b < N ∧ ∀ i a, ks[i]? = some a →
        w.cell? ⟨b, off + i * 4, none⟩ = some (.int .i64 a.op) ∧ w.cell? ⟨b, off + i * 4 + 1, none⟩ = some (.int .i64 a.n) ∧ w.cell? ⟨b, off + i * 4 + 2, none⟩ = some (.string a.nm) ∧ w.cell? ⟨b, off + i * 4 + 3, none⟩ = some (.slice (pl i) a.args.length (cl i)))
      (hx : ∀ i a, ks[i]? = some a → ExAt N w (xv a.op a.n a.nm (.slice (pl i) a.args.length (cl i))) a) :
      ExAt N w (xv o n s (.slice p ks.length cap)) (.mk o n s ks)
structure ArgsAt (N : Nat) (w : World) (p : Option Addr) (cap : Nat) (pl : Nat → Option Addr) (cl : Nat → Nat) (ks : List Ex) : Prop where
  hl : ks.length ≤ 140737488351232
  hc : ks.length ≤ cap
  hp : 0 < ks.length → ∃ b off, p = some ⟨b, off, none⟩ ∧ b < N ∧ ∀ i a, ks[i]? = some a →
        w.cell? ⟨b, off + i * 4, none⟩ = some (.int .i64 a.op) ∧ w.cell? ⟨b, off + i * 4 + 1, none⟩ = some (.int .i64 a.n) ∧ w.cell? ⟨b, off + i * 4 + 2, none⟩ = some (.string a.nm) ∧ w.cell? ⟨b, off + i * 4 + 3, none⟩ = some (.slice (pl i) a.args.length (cl i))
  hx : ∀ i a, ks[i]? = some a → ExAt N w (xv a.op a.n a.nm (.slice (pl i) a.args.length (cl i))) a
theorem ExAt.form {N : Nat} {w : World} {v : Value} {e : Ex} (h : ExAt N w v e) : ∃ p cap pl cl, v = xv e.op e.n e.nm (.slice p e.args.length cap) ∧ e.nm.size ≤ 140737488351232 ∧ ArgsAt N w p cap pl cl e.args := by
  cases h with
  | mk pl cl hs hl hc hp hx => exact ⟨_, _, pl, cl, rfl, hs, hl, hc, hp, hx⟩
theorem ExAt.of {N : Nat} {w : World} {o n : Int} {s : ByteArray} {p : Option Addr} {cap : Nat} {pl : Nat → Option Addr} {cl : Nat → Nat} {ks : List Ex} (hs : s.size ≤ 140737488351232) (h : ArgsAt N w p cap pl cl ks) : ExAt N w (xv o n s (.slice p ks.length cap)) (.mk o n s ks) :=
  .mk pl cl hs h.hl h.hc h.hp h.hx
theorem ExAt.kept {N N' : Nat} {w w' : World} (hk : ∀ b o, b < N → ∀ v, w.cell? ⟨b, o, none⟩ = some v → w'.cell? ⟨b, o, none⟩ = some v) (hN : N ≤ N') {v : Value} {e : Ex} (h : ExAt N w v e) : ExAt N' w' v e := by
  induction h with
  | mk pl cl hs hl hc hp hx ih =>
    refine .mk pl cl hs hl hc (fun h0 => ?_) (fun i a hi => ih i a hi); obtain ⟨b, off, e, hb, hcell⟩ := hp h0; exact ⟨b, off, e, Nat.lt_of_lt_of_le hb hN, fun i a hi => ⟨hk _ _ hb _ (hcell i a hi).1, hk _ _ hb _ (hcell i a hi).2.1, hk _ _ hb _ (hcell i a hi).2.2.1, hk _ _ hb _ (hcell i a hi).2.2.2⟩⟩
theorem ExAt.under {N : Nat} {w w' : World} (hb : Below N w w') {v : Value} {e : Ex} (h : ExAt N w v e) : ExAt N w' v e :=
  h.kept (fun b o hlt _ hv => (hb.cell (p := ⟨b, o, none⟩) hlt).trans hv) (Nat.le_refl _)
theorem ExAt.later {w w' : World} (hb : Below w.heap.size w w') {v : Value} {e : Ex} (h : ExAt w.heap.size w v e) : ExAt w'.heap.size w' v e :=
  h.kept (fun b o hlt _ hv => (hb.cell (p := ⟨b, o, none⟩) hlt).trans hv) hb.size
theorem ExAt.wide {N N' : Nat} {w : World} (hN : N ≤ N') {v : Value} {e : Ex} (h : ExAt N w v e) : ExAt N' w v e := h.kept (fun _ _ _ _ hv => hv) hN
theorem ArgsAt.kept {N N' : Nat} {w w' : World} (hk : ∀ b o, b < N → ∀ v, w.cell? ⟨b, o, none⟩ = some v → w'.cell? ⟨b, o, none⟩ = some v) (hN : N ≤ N') {p : Option Addr} {cap : Nat} {pl : Nat → Option Addr} {cl : Nat → Nat} {ks : List Ex} (h : ArgsAt N w p cap pl cl ks) : ArgsAt N' w' p cap pl cl ks := by
  refine ⟨h.hl, h.hc, fun h0 => ?_, fun i a hi => (h.hx i a hi).kept hk hN⟩; obtain ⟨b, off, e, hb, hcell⟩ := h.hp h0; exact ⟨b, off, e, Nat.lt_of_lt_of_le hb hN, fun i a hi => ⟨hk _ _ hb _ (hcell i a hi).1, hk _ _ hb _ (hcell i a hi).2.1, hk _ _ hb _ (hcell i a hi).2.2.1, hk _ _ hb _ (hcell i a hi).2.2.2⟩⟩
theorem ArgsAt.under {N : Nat} {w w' : World} (hb : Below N w w') {p : Option Addr} {cap : Nat} {pl : Nat → Option Addr} {cl : Nat → Nat} {ks : List Ex} (h : ArgsAt N w p cap pl cl ks) : ArgsAt N w' p cap pl cl ks :=
  h.kept (fun b o hlt _ hv => (hb.cell (p := ⟨b, o, none⟩) hlt).trans hv) (Nat.le_refl _)
theorem ArgsAt.later {w w' : World} (hb : Below w.heap.size w w') {p : Option Addr} {cap : Nat} {pl : Nat → Option Addr} {cl : Nat → Nat} {ks : List Ex} (h : ArgsAt w.heap.size w p cap pl cl ks) : ArgsAt w'.heap.size w' p cap pl cl ks :=
  h.kept (fun b o hlt _ hv => (hb.cell (p := ⟨b, o, none⟩) hlt).trans hv) hb.size
theorem ArgsAt.nil (N : Nat) (w : World) (p : Option Addr) (cap : Nat) : ArgsAt N w p cap (fun _ => none) (fun _ => 0) [] :=
  ⟨by simp, by simp, fun h => by simp at h, fun i a hi => by simp at hi⟩
theorem grown_of_below {w w' : World} (h : Below w.heap.size w w') : w.grownBy w' none := ⟨h.os, h.tape, h.output, h.size, fun k hk _ => h.block k hk⟩
theorem below_of_grown {w w' : World} (h : w.grownBy w' none) : Below w.heap.size w w' := ⟨h.os, h.tape, h.output, h.size, fun k hk => h.block k hk (by simp)⟩
structure Nd where
  lv : Nat
  op : Int
  n : Int
  nm : ByteArray
  p : Option Addr
  k : Nat
  cap : Nat
  hl : lv ≤ 100000
  hs : nm.size ≤ 140737488351232
  hk : k ≤ 140737488351232
def Nd.info (x : Nd) : In := ⟨x.lv, x.op, x.n, x.nm, x.k⟩
abbrev Nd.enc (x : Nd) : Array Value := #[.int .i64 x.lv, xv x.op x.n x.nm (.slice x.p x.k x.cap)]
structure Keep (n₀ n₁ : Nat) (W W' : World) : Prop where
  size : W.heap.size ≤ W'.heap.size
  blk : ∀ b cs t fr, W.heap[b]? = some (.cells cs t fr) → (b < n₀ ∨ (n₁ ≤ b ∧ (t = 43 ∨ t = 168))) → W'.heap[b]? = some (.cells cs t fr)
theorem Keep.refl (n₀ n₁ : Nat) (W : World) : Keep n₀ n₁ W W := ⟨Nat.le_refl _, fun _ _ _ _ h _ => h⟩
theorem Keep.trans {n₀ n₁ : Nat} {A B C : World} (h : Keep n₀ n₁ A B) (k : Keep n₀ n₁ B C) : Keep n₀ n₁ A C :=
  ⟨Nat.le_trans h.size k.size, fun b cs t fr hv hb => k.blk b cs t fr (h.blk b cs t fr hv hb) hb⟩
theorem cell_lt {w : World} {b o : Nat} {v : Value} (h : w.cell? ⟨b, o, none⟩ = some v) : b < w.heap.size := by
  rcases Nat.lt_or_ge b w.heap.size with g | g
  · exact g
  · simp only [World.cell?, Array.getElem?_eq_none g] at h; cases h
theorem cell_cells {w : World} {b o : Nat} {v : Value} (h : w.cell? ⟨b, o, none⟩ = some v) : ∃ cs t fr, w.heap[b]? = some (.cells cs t fr) := by
  have hb := cell_lt h; simp only [World.cell?, Array.getElem?_eq_getElem hb] at h ⊢; cases hx : w.heap[b] with
  | cells cs t fr => exact ⟨cs, t, fr, rfl⟩
  | _ => simp_all
theorem Keep.tree {n₀ n₁ : Nat} {W W' : World} (h : Keep n₀ n₁ W W') {b o : Nat} {v : Value} (hb : b < n₀) (hv : W.cell? ⟨b, o, none⟩ = some v) : W'.cell? ⟨b, o, none⟩ = some v := by
  obtain ⟨cs, t, fr, hc⟩ := cell_cells hv; exact (World.cell?_of_block (w := W) (by rw [h.blk b cs t fr hc (.inl hb), hc])).trans hv
theorem Keep.of_below {n₀ n₁ : Nat} {W W' : World} (h : Below W.heap.size W W') : Keep n₀ n₁ W W' :=
  ⟨h.size, fun b _ _ _ hv _ => (h.block b (Array.getElem?_eq_some_iff.1 hv).1).trans hv⟩
theorem Keep.grown {n₀ n₁ : Nat} {W W' : World} {row : Option Nat} (h : W.grownBy W' row) (hr : ∀ b, row = some b → ∀ cs t fr, W.heap[b]? = some (.cells cs t fr) → n₀ ≤ b ∧ (b < n₁ ∨ (t ≠ 43 ∧ t ≠ 168))) : Keep n₀ n₁ W W' := by
  refine ⟨h.size, fun b cs t fr hv hb => ?_⟩; by_cases e : some b = row
  · obtain ⟨h1, h2⟩ := hr b e.symm cs t fr hv; rcases hb with hb | ⟨hb, rfl | rfl⟩
    · omega
    · rcases h2 with h2 | h2
      · omega
      · exact absurd rfl h2.1
    · rcases h2 with h2 | h2
      · omega
      · exact absurd rfl h2.2
  · exact (h.block b (Array.getElem?_eq_some_iff.1 hv).1 e).trans hv
theorem Keep.set {n₀ n₁ : Nat} {W W' : World} (h : Keep n₀ n₁ W W') {b : Nat} (h0 : n₀ ≤ b) (h1 : b < n₁) (v : Value) : Keep n₀ n₁ W (W'.setCell ⟨b, 0, none⟩ v) :=
  h.trans (Keep.grown (grownBy_setCell' W' b v) fun b' e _ _ _ _ => by cases e; exact ⟨h0, .inl h1⟩)
theorem Keep.putObj {n₀ n₁ : Nat} (W : World) (l : Nat) (o o' : Obj) (h : W.heap[l]? = some o) (hc : o.isCells = false) : Keep n₀ n₁ W (W.putObj l o') :=
  Keep.grown (grownBy_putObj' W l o') fun b e cs t fr hb => by
    cases e; rw [h] at hb; cases hb; cases hc
theorem ExAt.keep {n₀ n₁ : Nat} {W W' : World} (h : Keep n₀ n₁ W W') {v : Value} {e : Ex} (hx : ExAt n₀ W v e) : ExAt n₀ W' v e :=
  hx.kept (fun _ _ hb _ hv => h.tree hb hv) (Nat.le_refl _)
theorem ArgsAt.keep {n₀ n₁ : Nat} {W W' : World} (h : Keep n₀ n₁ W W') {p : Option Addr} {cap : Nat} {pl : Nat → Option Addr} {cl : Nat → Nat} {ks : List Ex} (hx : ArgsAt n₀ W p cap pl cl ks) : ArgsAt n₀ W' p cap pl cl ks :=
  hx.kept (fun _ _ hb _ hv => h.tree hb hv) (Nat.le_refl _)
end Go.Proofs.YtpejflgdehioaaaGreatDoor.ExW
namespace Go.Proofs.YtpejflgdehioaaaGreatDoor.LexW
open Go Go.RowKit Go.Proofs.YtpejflgdehioaaaGreatDoor.NumM Go.Proofs.YtpejflgdehioaaaGreatDoor.LexM
def atL (ys : List (List UInt8)) (j : Nat) : List UInt8 := (ys[j]?).getD []
theorem atL_of {ys : List (List UInt8)} {j : Nat} {m : List UInt8} (h : ys[j]? = some m) : atL ys j = m := by unfold atL; rw [h]; rfl
def tabF (ys : List (List UInt8)) : Nat → Value := fun j => .string (bs (atL ys j))
theorem row_tab (w : World) (ys : List (List UInt8)) (t : TypeId) : (w.alloc (.cells (ys.map fun y => Value.string (bs y)).toArray t)).rowIs w.heap.size t ys.length (tabF ys) := by
  refine ⟨_, heap_alloc_new _ _, by simp, fun i hi => ?_⟩; rw [List.getElem?_toArray, List.getElem?_map, List.getElem?_eq_getElem hi]; show some (Value.string (bs ys[i])) = _; unfold tabF; rw [atL_of (List.getElem?_eq_getElem hi)]
def tTab (ys : List (List UInt8)) (w : World) (e : Ending) (w' : World) : Prop := ∃ g, e = .returned (.slice (some ⟨g, 0, none⟩) ys.length ys.length) ∧ w'.rowIs g 9 ys.length (tabF ys) ∧ Below w.heap.size w w'
set_option maxRecDepth 100000 in
theorem keywords_any (w : World) : Calls Tryz.prog 123 #[] w (tTab kws w) := by
  go_enter Tryz.func123, Tryz.ntmps123
  go_wp2; go_ret; exact ⟨_, rfl, row_tab w kws _, (Below.refl _ _).alloc (Nat.le_refl _) _⟩
set_option maxRecDepth 100000 in
theorem has_any (ys : List (List UInt8)) (g : Nat) (s : ByteArray) (w : World) (hr : w.rowIs g 9 ys.length (tabF ys)) (hn : ys.length ≤ 100) :
    Calls Tryz.prog 122 #[.slice (some ⟨g, 0, none⟩) ys.length ys.length, .string s] w fun e w' => e = .returned (.bool (decide (s.data.toList ∈ ys))) ∧ w = w' := by
  have HR := Lib.hid hr; clear hr; obtain ⟨n, hnn⟩ : ∃ n, ys.length = n := ⟨_, rfl⟩; have HN := Lib.hid hnn; rw [hnn] at HR hn ⊢; clear hnn
  go_enter Tryz.func122, Tryz.ntmps122
  go_wp2; go_loop [5] (fun i => ∃ k : Nat, k ≤ n ∧ i = .int .i64 k ∧ Hid (∀ j, j < k → ys[j]? ≠ some s.data.toList)) (fun i => n - (intOf i).toNat)
  case atStart => exact ⟨0, Nat.zero_le _, rfl, Lib.hid fun j hj => by omega⟩
  case round =>
    obtain ⟨k, hk, rfl, NO⟩ := hrel; by_cases hlt : k < n
    · obtain ⟨m, hm⟩ : ∃ m, ys[k]? = some m := ⟨_, List.getElem?_eq_getElem (by rw [HN.out]; exact hlt)⟩; have hck := HR.out.cell hlt; unfold tabF at hck; rw [atL_of hm] at hck; have HM := Lib.hid hm; clear hm; by_cases e : m = s.data.toList
      · have e1 : ((bs m).toList == s.toList) = true := (by rw [Lib.toList_data, Lib.toList_data, e]; simp); have FIN : Hid (true = decide (s.data.toList ∈ ys)) := Lib.hid (by rw [eq_comm, decide_eq_true_eq, ← e]; exact List.mem_of_getElem? HM.out); obtain ⟨y, hy⟩ : ∃ y, bs m = y := ⟨_, rfl⟩; rw [hy] at e1 hck; clear e hy; go_wp2; go_ret; exact ⟨retb FIN.out, rfl⟩
      · have e1 : ((bs m).toList == s.toList) = false := (by rw [Lib.toList_data, Lib.toList_data]; simpa using e); have NO2 : Hid (∀ j, j < k + 1 → ys[j]? ≠ some s.data.toList) := Lib.hid fun j hj x => by
          by_cases hjk : j = k
          · rw [hjk, HM.out] at x; exact e (Option.some.inj x)
          · exact NO.out j (by omega) x
        obtain ⟨y, hy⟩ : ∃ y, bs m = y := ⟨_, rfl⟩; rw [hy] at e1 hck; clear e hy; go_wp2; go_round
        case rel => exact ⟨k + 1, by omega, by go_num, NO2⟩
        case measure => simp [intOf]; omega
    · have FIN : Hid (false = decide (s.data.toList ∈ ys)) := Lib.hid (by
        rw [eq_comm, decide_eq_false_iff_not]; intro x; obtain ⟨j, hj, he⟩ := List.mem_iff_getElem.1 x; exact NO.out j (by rw [HN.out] at hj; omega) (by rw [List.getElem?_eq_getElem hj, he]))
      go_wp2; go_ret; exact ⟨retb FIN.out, rfl⟩
theorem kwR_any (s : ByteArray) (w : World) : Calls Tryz.prog 79 #[.string s] w fun e w' => e = .returned (.bool (isKw s.data.toList)) ∧ Below w.heap.size w w' := by
  go_enter Tryz.func79, Tryz.ntmps79
  go_wp2_with (first
    | (go_at_call 123; ((with_reducible refine (keywords_any _).mono ?_); rintro e w1 ⟨g, rfl, hr, hb⟩; have HR := Lib.hid hr; have HB := Lib.hid hb; clear hr hb))
    | (go_at_call 122; ((with_reducible refine (has_any kws g s _ HR.out (by decide)).mono ?_); rintro e w' ⟨rfl, rfl⟩)))
  go_ret; exact ⟨rfl, HB.out⟩
theorem inner_any (c : UInt8) (w : World) : Calls Tryz.prog 80 #[.int .u8 (c.toNat : Int)] w fun e w' => e = .returned (.bool (wrd c)) ∧ w = w' := by
  have HC := Lib.hid (wrI_byte c); obtain ⟨n, hn⟩ : ∃ n : Int, (c.toNat : Int) = n := ⟨_, rfl⟩; rw [hn] at HC ⊢; rw [← HC.out]; clear hn HC
  go_enter Tryz.func80, Tryz.ntmps80
  go_wp2_with (first | (go_at_call 78; refine (smallR_any _ _).mono ?_; rintro e w' ⟨rfl, rfl⟩) | (go_at_call 124; refine (digitR_any _ _).mono ?_; rintro e w' ⟨rfl, rfl⟩))
  all_goals
    go_ret; exact ⟨retb (by simp_all [wrI]; try (intros; omega)), rfl⟩
end Go.Proofs.YtpejflgdehioaaaGreatDoor.LexW
