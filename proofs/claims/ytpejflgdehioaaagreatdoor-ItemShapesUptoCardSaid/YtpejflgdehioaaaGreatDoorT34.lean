/-
  Laws that the card uses; no conditions beside those that each states (ItFix).
-/
import Derived.Test.YtpejflgdehioaaaGreatDoorT25
import Derived.Test.YtpejflgdehioaaaGreatDoorT27
import Derived.Test.YtpejflgdehioaaaGreatDoorT29
namespace Go.Proofs.YtpejflgdehioaaaGreatDoor.ItW
open Go Go.RowKit Go.Proofs.YtpejflgdehioaaaGreatDoor.NumM Go.Proofs.YtpejflgdehioaaaGreatDoor.LexW Go.Proofs.YtpejflgdehioaaaGreatDoor.LexM Go.Proofs.YtpejflgdehioaaaGreatDoor.ExM Go.Proofs.YtpejflgdehioaaaGreatDoor.ExW Go.Proofs.YtpejflgdehioaaaGreatDoor.ItM
def ownX (xb : Nat) (W : World) : Option Nat := match W.cell? ⟨xb, 1, none⟩ with | some v => v.ownBlock | none => none
def Av (xb : Nat) (W : World) (b : Nat) : Prop := b < W.heap.size ∧ b ≠ xb ∧ ownX xb W ≠ some b
structure KX (xb : Nat) (W W' : World) : Prop where
  sz : W.heap.size ≤ W'.heap.size
  keep : ∀ b, Av xb W b → Av xb W' b ∧ W'.heap[b]? = W.heap[b]?
theorem KX.refl (xb : Nat) (W : World) : KX xb W W := ⟨Nat.le_refl _, fun _ h => ⟨h, rfl⟩⟩
theorem KX.trans {xb : Nat} {A B C : World} (h : KX xb A B) (k : KX xb B C) : KX xb A C :=
  ⟨Nat.le_trans h.sz k.sz, fun b hb => ⟨(k.keep b (h.keep b hb).1).1, (k.keep b (h.keep b hb).1).2.trans (h.keep b hb).2⟩⟩
theorem ownX_below {xb : Nat} {W W' : World} (hx : xb < W.heap.size) (hb : Below W.heap.size W W') : ownX xb W' = ownX xb W := by
  unfold ownX; rw [hb.cell (p := ⟨xb, 1, none⟩) hx]
theorem KX.of_below {xb : Nat} {W W' : World} (hx : xb < W.heap.size) (hb : Below W.heap.size W W') : KX xb W W' :=
  ⟨hb.size, fun b h => ⟨⟨Nat.lt_of_lt_of_le h.1 hb.size, h.2.1, by rw [ownX_below hx hb]; exact h.2.2⟩, hb.block b h.1⟩⟩
theorem Av.new {xb : Nat} {W W' : World} {b : Nat} (hx : xb < W.heap.size) (ho : ∀ k, ownX xb W = some k → k < W.heap.size) (hb : Below W.heap.size W W') (h0 : W.heap.size ≤ b) (h1 : b < W'.heap.size) : Av xb W' b :=
  ⟨h1, by omega, by rw [ownX_below hx hb]; intro e; have := ho _ e; omega⟩
theorem blk_eq {w w' : World} {b : Nat} {xs : List Value} (h : Blk w b xs) (hb : w'.heap[b]? = w.heap[b]?) : Blk w' b xs := by
  have hl : b < w'.heap.size := by
    have h1 := h.lt; rw [Array.getElem?_eq_getElem h1] at hb; exact (Array.getElem?_eq_some_iff.1 hb).1
  exact ⟨hl, fun i x hx => (World.cell?_of_block (w := w) hb).trans (h.c i x hx), fun o => (World.frozen?_of_block (w := w) hb).trans (h.f o)⟩
structure FixC (xb : Nat) (w : World) (f : FuncId) (caps : Array Value) (σ : Ex → Ex) : Prop where
  en : ∀ (args : Array Value) (W : World), (callFunc f args).run Tryz.prog W = .ok (.enter f args) W
  c : ∀ W, KX xb w W → ∀ (N : Nat) (e : Ex) (v : Value), ExAt N W v e → N ≤ W.heap.size → sz e ≤ 10000 → Calls Tryz.prog f (#[v] ++ caps) W (tFr (σ e) W)
theorem FixC.later {xb : Nat} {w w' : World} {f : FuncId} {caps : Array Value} {σ : Ex → Ex} (h : FixC xb w f caps σ) (k : KX xb w w') : FixC xb w' f caps σ := ⟨h.en, fun W hW => h.c W (k.trans hW)⟩
theorem FixC.clone (xb : Nat) (w : World) : FixC xb w 88 #[] (fun e => e) := ⟨enters_of Tryz.func88 (by kernel_rfl) rfl, fun W _ N e v hx hN hs => by
  rw [Array.append_empty]; exact cloneI_any e N W v hx hN hs⟩
structure Room4 (W : World) (g : Nat) : Prop where
  lt : g < W.heap.size
  f : ∀ o : Nat, W.frozen? ⟨g, o, none⟩ = false
  c : ∀ i : Nat, i < 4 → ∃ v, W.cell? ⟨g, i, none⟩ = some v
theorem Room4.of {W : World} {g : Nat} {x0 x1 x2 x3 : Value} (h : Blk W g [x0, x1, x2, x3]) : Room4 W g := ⟨h.lt, h.f, fun i hi => ⟨_, h.c i _ (List.getElem?_eq_getElem (by simp; omega))⟩⟩
theorem Room4.stay {W W' : World} {g : Nat} (h : Room4 W g) (hb : Below W.heap.size W W') : Room4 W' g :=
  ⟨Nat.lt_of_lt_of_le h.lt hb.size, fun o => (hb.frozen (p := ⟨g, o, none⟩) h.lt).trans (h.f o), fun i hi => by obtain ⟨v, hv⟩ := h.c i hi; exact ⟨v, (hb.cell (p := ⟨g, i, none⟩) h.lt).trans hv⟩⟩
theorem Room4.put {W : World} {g i : Nat} {x : Value} (h : Room4 W g) : Room4 (W.setCell ⟨g, i, none⟩ x) g :=
  ⟨by rw [setCell_size]; exact h.lt, fun o => by rw [World.frozen?_setCell]; exact h.f o, fun j hj => by
    obtain ⟨v, hv⟩ := h.c j hj; by_cases e : i = j
    · subst e; exact ⟨x, cell_set hv⟩
    · exact ⟨v, by rw [other _ _ e]; exact hv⟩⟩
theorem Room4.facts {W : World} {g : Nat} (h : Room4 W g) : W.frozen? ⟨g, 0, none⟩ = false ∧ W.frozen? ⟨g, 1, none⟩ = false ∧ W.frozen? ⟨g, 2, none⟩ = false ∧ W.frozen? ⟨g, 3, none⟩ = false ∧
    (∃ v, W.cell? ⟨g, 0, none⟩ = some v) ∧ (∃ v, W.cell? ⟨g, 1, none⟩ = some v) ∧ (∃ v, W.cell? ⟨g, 2, none⟩ = some v) ∧ (∃ v, W.cell? ⟨g, 3, none⟩ = some v) :=
  ⟨h.f _, h.f _, h.f _, h.f _, h.c 0 (by decide), h.c 1 (by decide), h.c 2 (by decide), h.c 3 (by decide)⟩
theorem Room4.cells {W : World} {g : Nat} (h : Room4 W g) (x0 x1 x2 x3 : Value) : Blk ((((W.setCell ⟨g, 0, none⟩ x0).setCell ⟨g, 1, none⟩ x1).setCell ⟨g, 2, none⟩ x2).setCell ⟨g, 3, none⟩ x3) g [x0, x1, x2, x3] := by
  obtain ⟨v0, h0⟩ := h.c 0 (by decide); obtain ⟨v1, h1⟩ := h.c 1 (by decide); obtain ⟨v2, h2⟩ := h.c 2 (by decide); obtain ⟨v3, h3⟩ := h.c 3 (by decide); have hb : Blk W g [v0, v1, v2, v3] := ⟨h.lt, fun i x hx => by
    rcases i with _ | _ | _ | _ | i <;> simp at hx <;> subst hx <;> assumption, h.f⟩
  exact ((((hb.set 0 _ (by simp)).set 1 _ (by simp)).set 2 _ (by simp)).set 3 _ (by simp))
structure R1 (W : World) (b7 b9 b11 : Nat) (fv : Value) (cs : List Value) (k : Int) (ecs : List Value) (W' : World) : Prop where
  h7 : Blk W' b7 [fv]
  h9 : Blk W' b9 cs
  h11 : Blk W' b11 [.int .i64 k]
  he : Blk W' W.heap.size ecs
  rm : Room4 W' (W.heap.size + 1)
  n7 : b7 < W.heap.size
  n9 : b9 < W.heap.size
  n11 : b11 < W.heap.size
  lo : Below W.heap.size W W'
theorem R1.stay {W V V' : World} {b7 b9 b11 : Nat} {fv : Value} {cs : List Value} {k : Int} {ecs : List Value} (h : R1 W b7 b9 b11 fv cs k ecs V) (hb : Below V.heap.size V V') : R1 W b7 b9 b11 fv cs k ecs V' :=
  ⟨h.h7.stay hb, h.h9.stay hb, h.h11.stay hb, h.he.stay hb, h.rm.stay hb, h.n7, h.n9, h.n11, h.lo.trans (hb.mono h.lo.size)⟩
theorem R1.put {W V : World} {b7 b9 b11 i : Nat} {fv x : Value} {cs : List Value} {k : Int} {ecs : List Value} (h : R1 W b7 b9 b11 fv cs k ecs V) : R1 W b7 b9 b11 fv cs k ecs (V.setCell ⟨W.heap.size + 1, i, none⟩ x) :=
  ⟨h.h7.far (by have := h.n7; omega), h.h9.far (by have := h.n9; omega), h.h11.far (by have := h.n11; omega), h.he.far (by omega), h.rm.put, h.n7, h.n9, h.n11, h.lo.setCell (p := ⟨W.heap.size + 1, i, none⟩) (by show W.heap.size ≤ W.heap.size + 1; omega) _⟩
theorem R1.put4 {W V : World} {b7 b9 b11 : Nat} {fv : Value} {cs : List Value} {k : Int} {ecs : List Value} (h : R1 W b7 b9 b11 fv cs k ecs V) (x0 x1 x2 x3 : Value) : R1 W b7 b9 b11 fv cs k ecs ((((V.setCell ⟨W.heap.size + 1, 0, none⟩ x0).setCell ⟨W.heap.size + 1, 1, none⟩ x1).setCell ⟨W.heap.size + 1, 2, none⟩ x2).setCell ⟨W.heap.size + 1, 3, none⟩ x3) := h.put.put.put.put
abbrev S1 (W : World) (b7 b9 b11 : Nat) (f : FuncId) (caps : Array Value) (ix : ByteArray) (cs : List Value) (k o n : Int) (en : ByteArray) (x : Value) (W' : World) : Prop :=
  W'.cell? ⟨b7, 0, none⟩ = some (.func (.func f) #[] caps) ∧ W'.cell? ⟨b9, 6, none⟩ = some (.string ix) ∧ W'.cell? ⟨b11, 0, none⟩ = some (.int .i64 k) ∧
    W'.cell? ⟨W.heap.size, 0, none⟩ = some (.int .i64 o) ∧ W'.cell? ⟨W.heap.size, 1, none⟩ = some (.int .i64 n) ∧ W'.cell? ⟨W.heap.size, 2, none⟩ = some (.string en) ∧ W'.cell? ⟨W.heap.size, 3, none⟩ = some x ∧
    R1 W b7 b9 b11 (.func (.func f) #[] caps) cs k [.int .i64 o, .int .i64 n, .string en, x] W'
theorem S1.r {W : World} {b7 b9 b11 : Nat} {f : FuncId} {caps : Array Value} {ix : ByteArray} {cs : List Value} {k o n : Int} {en : ByteArray} {x : Value} {W' : World} (h : S1 W b7 b9 b11 f caps ix cs k o n en x W') : R1 W b7 b9 b11 (.func (.func f) #[] caps) cs k [.int .i64 o, .int .i64 n, .string en, x] W' := h.2.2.2.2.2.2.2
theorem S1.of {W : World} {b7 b9 b11 : Nat} {f : FuncId} {caps : Array Value} {ix : ByteArray} {cs : List Value} {k o n : Int} {en : ByteArray} {x : Value} {W' : World} (hc : cs[6]? = some (.string ix)) (h : R1 W b7 b9 b11 (.func (.func f) #[] caps) cs k [.int .i64 o, .int .i64 n, .string en, x] W') : S1 W b7 b9 b11 f caps ix cs k o n en x W' :=
  ⟨h.h7.c 0 _ rfl, h.h9.c 6 _ hc, h.h11.c 0 _ rfl, h.he.c 0 _ rfl, h.he.c 1 _ rfl, h.he.c 2 _ rfl, h.he.c 3 _ rfl, h⟩
theorem fr_put4 {w : World} {v : Value} {e : Ex} {g : Nat} (h : Fr (g + 1) w v e) (x0 x1 x2 x3 : Value) : Fr (g + 1) ((((w.setCell ⟨g, 0, none⟩ x0).setCell ⟨g, 1, none⟩ x1).setCell ⟨g, 2, none⟩ x2).setCell ⟨g, 3, none⟩ x3) v e := (((h.set (by omega)).set (by omega)).set (by omega)).set (by omega)
set_option maxRecDepth 100000 in
set_option maxHeartbeats 16000000 in
theorem FixC.step {xb : Nat} {w : World} {f : FuncId} {caps : Array Value} {σ : Ex → Ex} (hf : FixC xb w f caps σ) (hσ : ∀ e, sz (σ e) ≤ sz e) (hx : xb < w.heap.size) {b7 b9 b11 : Nat} {cs : List Value} {ix : ByteArray} {k : Int}
    (h7 : Blk w b7 [.func (.func f) #[] caps]) (h9 : Blk w b9 cs) (hc : cs[6]? = some (.string ix)) (h11 : Blk w b11 [.int .i64 k]) (a7 : Av xb w b7) (a9 : Av xb w b9) (a11 : Av xb w b11) :
    FixC xb w 133 #[.pointer (some ⟨b7, 0, none⟩), .pointer (some ⟨b9, 0, none⟩), .pointer (some ⟨b11, 0, none⟩)] (fun a => su ix (cst k) (σ a)) := by
  refine ⟨enters_of Tryz.func133 (by kernel_rfl) rfl, ?_⟩; intro W hW N e v hx' hN hsz; have hen := hf.en; obtain ⟨p, cap, pl, cl, rfl, hs, ha⟩ := hx'.form; have HF : Hid (∀ V, Below W.heap.size W V → Calls Tryz.prog f (#[xv e.op e.n e.nm (.slice p e.args.length cap)] ++ caps) V (tFr (σ e) V)) := (Lib.hid fun V hV => hf.c V (hW.trans (KX.of_below (by have := hW.sz; omega) hV)) N e _ (hx'.under (hV.mono hN)) (by have := hV.size; omega) hsz); have SU : Hid (∀ V v, ExAt V.heap.size V v (σ e) → Calls Tryz.prog 134 #[v, .string ix, xv 1 k ⟨#[]⟩ (.slice none 0 0)] V (tFr (su ix (cst k) (σ e)) V)) := (Lib.hid fun V v h => substCode_any (σ e) (cst k) ix _ V v _ h (ExAt.mk (N := V.heap.size) (w := V) (o := 1) (n := k) (s := ⟨#[]⟩) (ks := []) (p := none) (cap := 0) (fun _ => none) (fun _ => 0) (by decide) (by decide) (by decide) (fun h => absurd h (by decide)) (fun i a h => by rw [List.getElem?_nil] at h; cases h)) (Nat.le_refl _) (Nat.le_trans (hσ e) hsz) (by unfold cst; simp [sz, szs])); have B7 := blk_eq h7 (hW.keep b7 a7).2; have B9 := blk_eq h9 (hW.keep b9 a9).2; have B11 := blk_eq h11 (hW.keep b11 a11).2; have b12 := (ba W (.cells #[.int .i64 e.op, .int .i64 e.n, .string e.nm, .slice p e.args.length cap] 43)).then_ (ba _ (.cells #[.int .i64 0, .int .i64 0, .string ⟨#[]⟩, .slice none 0 0] 43)); have E0 := (Blk.new W [.int .i64 e.op, .int .i64 e.n, .string e.nm, .slice p e.args.length cap] 43).alloc (.cells #[.int .i64 0, .int .i64 0, .string ⟨#[]⟩, .slice none 0 0] 43); have E1 := Blk.new (W.alloc (.cells #[.int .i64 e.op, .int .i64 e.n, .string e.nm, .slice p e.args.length cap] 43)) [.int .i64 0, .int .i64 0, .string ⟨#[]⟩, .slice none 0 0] 43; rw [World.size_alloc] at E1; have KP := S1.of hc (R1.mk (B7.stay b12) (B9.stay b12) (B11.stay b12) E0 (.of E1) B7.lt B9.lt B11.lt b12); have EC : Hid (∀ V V', S1 W b7 b9 b11 f caps ix cs k e.op e.n e.nm (.slice p e.args.length cap) V → Below V.heap.size V V' → S1 W b7 b9 b11 f caps ix cs k e.op e.n e.nm (.slice p e.args.length cap) V') := (Lib.hid fun V V' h hb => S1.of hc (h.r.stay hb)); have EC2 : Hid (∀ V x0 x1 x2 x3, S1 W b7 b9 b11 f caps ix cs k e.op e.n e.nm (.slice p e.args.length cap) V → S1 W b7 b9 b11 f caps ix cs k e.op e.n e.nm (.slice p e.args.length cap) ((((V.setCell ⟨W.heap.size + 1, 0, none⟩ x0).setCell ⟨W.heap.size + 1, 1, none⟩ x1).setCell ⟨W.heap.size + 1, 2, none⟩ x2).setCell ⟨W.heap.size + 1, 3, none⟩ x3)) := (Lib.hid fun V x0 x1 x2 x3 h => S1.of hc (h.r.put4 _ _ _ _)); clear hf hσ h7 h9 h11 B7 B9 B11 b12 E0 E1 hx' ha hs hsz a7 a9 a11 hx hW hN hc; simp only [List.toArray] at KP; generalize su ix (cst k) (σ e) = E at *
  generalize σ e = F at *
  generalize e.op = o at *
  generalize e.n = n at *
  generalize e.nm = en at *
  generalize e.args.length = K at *
  go_enter Tryz.func133, Tryz.ntmps133
  go_wp2; obtain ⟨W0, hW0⟩ : ∃ W0, (W.alloc (.cells #[.int .i64 o, .int .i64 n, .string en, .slice p K cap] 43)).alloc (.cells #[.int .i64 0, .int .i64 0, .string ⟨#[]⟩, .slice none 0 0] 43) = W0 := ⟨_, rfl⟩; rw [hW0] at KP ⊢; clear hW0; have k1 := EC.out _ W0.drew KP (Below.refl _ _).drew
  have K1 : Hid (∀ V, S1 W b7 b9 b11 f caps ix cs k o n en (.slice p K cap) V → Calls Tryz.prog f (#[xv o n en (.slice p K cap)] ++ caps) V fun x w' => ∃ q c, x = .returned (xv F.op F.n F.nm (.slice q F.args.length c)) ∧ S1 W b7 b9 b11 f caps ix cs k o n en (.slice p K cap) w' ∧ Hid (ExAt w'.heap.size w' (xv F.op F.n F.nm (.slice q F.args.length c)) F)) :=
    Lib.hid fun V h => (HF.out V h.r.lo).mono fun x w' ⟨v, h1, h2, h3⟩ => by
      obtain ⟨q, c, rfl, _⟩ := h2.form; exact ⟨q, c, h1, EC.out _ _ h h3, Lib.hid h2.at_⟩
  have K2 : Hid (∀ V, S1 W b7 b9 b11 f caps ix cs k o n en (.slice p K cap) V → Calls Tryz.prog 135 #[.int .i64 k] V fun x w' => x = .returned (xv 1 k ⟨#[]⟩ (.slice none 0 0)) ∧ S1 W b7 b9 b11 f caps ix cs k o n en (.slice p K cap) w' ∧ Hid (Below V.heap.size V w')) :=
    Lib.hid fun V h => (constant_any k V).mono fun x w' ⟨h1, h2⟩ => ⟨h1, EC.out _ _ h h2, Lib.hid h2⟩
  have K3 : Hid (∀ V v, S1 W b7 b9 b11 f caps ix cs k o n en (.slice p K cap) V → Hid (ExAt V.heap.size V v F) → Calls Tryz.prog 134 #[v, .string ix, xv 1 k ⟨#[]⟩ (.slice none 0 0)] V fun x w' => ∃ q c, x = .returned (xv E.op E.n E.nm (.slice q E.args.length c)) ∧ S1 W b7 b9 b11 f caps ix cs k o n en (.slice p K cap) w' ∧ Hid (Fr (W.heap.size + 2) w' (xv E.op E.n E.nm (.slice q E.args.length c)) E)) :=
    Lib.hid fun V v h hv => (SU.out V v hv.out).mono fun x w' ⟨v, h1, h2, h3⟩ => by
      obtain ⟨q, c, rfl, _⟩ := h2.form; exact ⟨q, c, h1, EC.out _ _ h h3, Lib.hid (h2.low (by have := h.r.rm.lt; omega))⟩
  have UP : Hid (∀ V V' v, Hid (ExAt V.heap.size V v F) → Hid (Below V.heap.size V V') → Hid (ExAt V'.heap.size V' v F)) := (Lib.hid fun V V' v h hb => Lib.hid ((h.out.under hb.out).wide hb.out.size)); clear SU HF EC
  go_region_held3 (fun V => V.cell? ⟨b7, 0, none⟩ = some (.func (.func f) #[] caps) ∧ V.cell? ⟨b9, 6, none⟩ = some (.string ix) ∧ V.cell? ⟨b11, 0, none⟩ = some (.int .i64 k) ∧
    V.cell? ⟨W.heap.size, 0, none⟩ = some (.int .i64 o) ∧ V.cell? ⟨W.heap.size, 1, none⟩ = some (.int .i64 n) ∧ V.cell? ⟨W.heap.size, 2, none⟩ = some (.string en) ∧ V.cell? ⟨W.heap.size, 3, none⟩ = some (.slice p K cap) ∧
    R1 W b7 b9 b11 (.func (.func f) #[] caps) cs k [.int .i64 o, .int .i64 n, .string en, .slice p K cap] V)
    (first | with_reducible assumption | (refine EC2.out _ _ _ _ _ ?_; with_reducible assumption) | fail)
    (first
      | (go_at_call 135; (with_reducible refine (K2.out _ ?_).mono ?_); assumption; rintro x w6 ⟨rfl, hg6, hb6⟩)
      | (go_at_call 134; (with_reducible refine (K3.out _ _ ?_ ?_).mono ?_); assumption; (first | with_reducible exact hs5 | with_reducible exact UP.out _ _ _ hs5 hb6); rintro x w7 ⟨q7, c7, rfl, hg7, hs7⟩; obtain ⟨z0, z1, z2, z3, ⟨_, y0⟩, ⟨_, y1⟩, ⟨_, y2⟩, ⟨_, y3⟩⟩ := hg7.r.rm.facts)
      | ((with_reducible refine (K1.out _ ?_).mono ?_); assumption; rintro x w5 ⟨q5, c5, rfl, hg5, hs5⟩))
  all_goals
    have HP := hg7.r.rm.cells (.int .i64 E.op) (.int .i64 E.n) (.string E.nm) (.slice q7 E.args.length c7); have p0 := HP.c 0 _ rfl; have p1 := HP.c 1 _ rfl; have p2 := HP.c 2 _ rfl; have p3 := HP.c 3 _ rfl; have hl := (hg7.r.put4 (.int .i64 E.op) (.int .i64 E.n) (.string E.nm) (.slice q7 E.args.length c7)).lo; have hr := (fr_put4 (g := W.heap.size + 1) hs7.out (.int .i64 E.op) (.int .i64 E.n) (.string E.nm) (.slice q7 E.args.length c7)).low (lo' := W.heap.size) (by omega); clear K1 K2 K3 UP EC2 KP k1 HP hg5 hg6 hg7 hs5 hs7; go_wp2; exact bodyPost_ret (v := xv E.op E.n E.nm (.slice q7 E.args.length c7)) (by simp [results, Tryz.results133, go_sem, p0, p1, p2, p3]) rfl ⟨_, rfl, hr, hl⟩
end Go.Proofs.YtpejflgdehioaaaGreatDoor.ItW
