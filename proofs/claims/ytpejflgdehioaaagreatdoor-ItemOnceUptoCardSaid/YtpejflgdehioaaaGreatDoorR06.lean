/-
  Laws that the card uses; no conditions beside those that each states (ExBuild ExCount).
-/
import Derived.Deep.RegionWith
import Derived.Deep.DeepCutAuto
import Derived.OwnWalk
import Derived.Test.YtpejflgdehioaaaGreatDoorR04
namespace Go.Proofs.YtpejflgdehioaaaGreatDoor.ExW
open Go Go.RowKit Go.Proofs.YtpejflgdehioaaaGreatDoor.NumM Go.Proofs.YtpejflgdehioaaaGreatDoor.LexW Go.Proofs.YtpejflgdehioaaaGreatDoor.LexM Go.Proofs.YtpejflgdehioaaaGreatDoor.ExM
inductive ExS (S : Nat → Prop) (w : World) : Value → Ex → Prop where
  | mk {o n : Int} {s : ByteArray} {ks : List Ex} {p : Option Addr} {cap : Nat} (pl : Nat → Option Addr) (cl : Nat → Nat)
      (hs : s.size ≤ 140737488351232) (hl : ks.length ≤ 140737488351232) (hc : ks.length ≤ cap)
      (hp : 0 < ks.length → ∃ b off, p = some ⟨b, off, none⟩ ∧ S b ∧ ∀ i a, ks[i]? = some a →
        w.cell? ⟨b, off + i * 4, none⟩ = some (.int .i64 a.op) ∧ w.cell? ⟨b, off + i * 4 + 1, none⟩ = some (.int .i64 a.n) ∧ w.cell? ⟨b, off + i * 4 + 2, none⟩ = some (.string a.nm) ∧ w.cell? ⟨b, off + i * 4 + 3, none⟩ = some (.slice (pl i) a.args.length (cl i)))
      (hx : ∀ i a, ks[i]? = some a → ExS S w (xv a.op a.n a.nm (.slice (pl i) a.args.length (cl i))) a) :
      ExS S w (xv o n s (.slice p ks.length cap)) (.mk o n s ks)
theorem ExS.toAt {S : Nat → Prop} {w : World} {N : Nat} (hS : ∀ b, S b → b < N) {v : Value} {e : Ex} (h : ExS S w v e) : ExAt N w v e := by
  induction h with
  | mk pl cl hs hl hc hp hx ih =>
    refine .mk pl cl hs hl hc (fun h0 => ?_) (fun i a hi => ih i a hi); obtain ⟨b, off, e, hb, hcell⟩ := hp h0; exact ⟨b, off, e, hS b hb, hcell⟩
theorem ExS.kept {S S' : Nat → Prop} {w w' : World} (hS : ∀ b, S b → S' b) (hk : ∀ b o, S b → ∀ v, w.cell? ⟨b, o, none⟩ = some v → w'.cell? ⟨b, o, none⟩ = some v) {v : Value} {e : Ex} (h : ExS S w v e) : ExS S' w' v e := by
  induction h with
  | mk pl cl hs hl hc hp hx ih =>
    refine .mk pl cl hs hl hc (fun h0 => ?_) (fun i a hi => ih i a hi); obtain ⟨b, off, e, hb, hcell⟩ := hp h0; exact ⟨b, off, e, hS b hb, fun i a hi => ⟨hk _ _ hb _ (hcell i a hi).1, hk _ _ hb _ (hcell i a hi).2.1, hk _ _ hb _ (hcell i a hi).2.2.1, hk _ _ hb _ (hcell i a hi).2.2.2⟩⟩
theorem ExS.form {S : Nat → Prop} {w : World} {v : Value} {e : Ex} (h : ExS S w v e) : ∃ p cap, v = xv e.op e.n e.nm (.slice p e.args.length cap) ∧ e.nm.size ≤ 140737488351232 ∧ e.args.length ≤ cap := by
  cases h with
  | mk pl cl hs hl hc hp hx => exact ⟨_, _, rfl, hs, hc⟩
abbrev Fr (lo : Nat) (w : World) (v : Value) (e : Ex) : Prop := ExS (fun b => lo ≤ b ∧ b < w.heap.size) w v e
theorem Fr.at_ {lo : Nat} {w : World} {v : Value} {e : Ex} (h : Fr lo w v e) : ExAt w.heap.size w v e := h.toAt (fun _ hb => hb.2)
theorem Fr.later {lo : Nat} {w w' : World} {v : Value} {e : Ex} (h : Fr lo w v e) (hb : Below w.heap.size w w') : Fr lo w' v e :=
  h.kept (fun _ g => ⟨g.1, Nat.lt_of_lt_of_le g.2 hb.size⟩) (fun _ o g _ hv => (hb.cell (p := ⟨_, o, none⟩) g.2).trans hv)
theorem Fr.low {lo lo' : Nat} {w : World} {v : Value} {e : Ex} (h : Fr lo w v e) (hl : lo' ≤ lo) : Fr lo' w v e :=
  h.kept (fun _ g => ⟨Nat.le_trans hl g.1, g.2⟩) (fun _ _ _ _ hv => hv)
theorem Fr.set {lo g o : Nat} {w : World} {u v : Value} {e : Ex} (h : Fr lo w v e) (hg : g < lo) : Fr lo (w.setCell ⟨g, o, none⟩ u) v e :=
  h.kept (fun _ q => ⟨q.1, by rw [setCell_size]; exact q.2⟩) (fun b _ q _ hv => by
    rw [World.cell?_setCell_other _ _ _ _ (fun e => by have := congrArg Addr.block e; simp at this; omega)]; exact hv)
def cellR (a : Ex) (p : Option Addr) (c : Nat) : Nat → Value
  | 0 => .int .i64 a.op
  | 1 => .int .i64 a.n
  | 2 => .string a.nm
  | _ => .slice p a.args.length c
structure RowAt (w : World) (g K : Nat) (F : Nat → Nat → Value) : Prop where
  lt : g < w.heap.size
  cell : ∀ a r, a < K → r < 4 → w.cell? ⟨g, a * 4 + r, none⟩ = some (F a r)
  frz : ∀ o, w.frozen? ⟨g, o, none⟩ = false
theorem RowAt.stay {w w' : World} {g K : Nat} {F : Nat → Nat → Value} (h : RowAt w g K F) (hb : Below w.heap.size w w') : RowAt w' g K F :=
  ⟨Nat.lt_of_lt_of_le h.lt hb.size, fun a r ha hr => (hb.cell (p := ⟨g, a * 4 + r, none⟩) h.lt).trans (h.cell a r ha hr), fun o => (hb.frozen (p := ⟨g, o, none⟩) h.lt).trans (h.frz o)⟩
theorem RowAt.alloc {w : World} {g K : Nat} {F : Nat → Nat → Value} (h : RowAt w g K F) (o : Obj) : RowAt (w.alloc o) g K F := h.stay ((Below.refl _ _).alloc (Nat.le_refl _) _)
theorem RowAt.put {w : World} {g K : Nat} {F : Nat → Nat → Value} (h : RowAt w g K F) {i : Nat} (hi : i < K) (y0 y1 y2 y3 : Value) :
    RowAt ((((w.setCell ⟨g, i * 4, none⟩ y0).setCell ⟨g, i * 4 + 1, none⟩ y1).setCell ⟨g, i * 4 + 2, none⟩ y2).setCell ⟨g, i * 4 + 3, none⟩ y3) g K (fun a r => if a = i then (match r with | 0 => y0 | 1 => y1 | 2 => y2 | _ => y3) else F a r) := by
  have far : ∀ (w : World) (v : Value) {p q : Nat}, p ≠ q → (w.setCell ⟨g, p, none⟩ v).cell? ⟨g, q, none⟩ = w.cell? ⟨g, q, none⟩ := (fun w v p q hn => other w v hn); refine ⟨by simp only [setCell_size]; exact h.lt, fun a r ha hr => ?_, fun o => by simp only [World.frozen?_setCell]; exact h.frz o⟩; have c0 := h.cell i 0 hi (by omega); have c1 := h.cell i 1 hi (by omega); have c2 := h.cell i 2 hi (by omega); have c3 := h.cell i 3 hi (by omega); by_cases e : a = i
  · subst e; simp only [if_true]; match r, hr with
    | 0, _ => rw [far _ _ (by omega), far _ _ (by omega), far _ _ (by omega)]; exact cell_set c0
    | 1, _ => rw [far _ _ (by omega), far _ _ (by omega)]; exact cell_set (by rw [far _ _ (by omega)]; exact c1)
    | 2, _ => rw [far _ _ (by omega)]; exact cell_set (by rw [far _ _ (by omega), far _ _ (by omega)]; exact c2)
    | 3, _ => exact cell_set (by rw [far _ _ (by omega), far _ _ (by omega), far _ _ (by omega)]; exact c3)
  · simp only [if_neg e]; rw [far _ _ (by omega), far _ _ (by omega), far _ _ (by omega), far _ _ (by omega)]; exact h.cell a r ha hr
theorem below_put4 {w0 w : World} {g : Nat} (h : Below w0.heap.size w0 w) (hg : w0.heap.size ≤ g) (i : Nat) (y0 y1 y2 y3 : Value) :
    Below w0.heap.size w0 ((((w.setCell ⟨g, i * 4, none⟩ y0).setCell ⟨g, i * 4 + 1, none⟩ y1).setCell ⟨g, i * 4 + 2, none⟩ y2).setCell ⟨g, i * 4 + 3, none⟩ y3) :=
  (((h.setCell hg _).setCell hg _).setCell hg _).setCell hg _
def exCells (pl : Nat → Option Addr) (cl : Nat → Nat) : Nat → List Ex → List Value
  | _, [] => []
  | i, a :: r => [.int .i64 a.op, .int .i64 a.n, .string a.nm, .slice (pl i) a.args.length (cl i)] ++ exCells pl cl (i + 1) r
theorem exCells_len (pl : Nat → Option Addr) (cl : Nat → Nat) : ∀ (ks : List Ex) (i : Nat), (exCells pl cl i ks).length = ks.length * 4
  | [], _ => rfl
  | a :: r, i => by rw [exCells, List.length_append, exCells_len pl cl r (i + 1)]; simp; omega
theorem exCells_at (pl : Nat → Option Addr) (cl : Nat → Nat) : ∀ (ks : List Ex) (i j r : Nat) (a : Ex), ks[j]? = some a → r < 4 → (exCells pl cl i ks)[j * 4 + r]? = some (cellR a (pl (i + j)) (cl (i + j)) r)
  | [], i, j, r, a, h, _ => by simp at h
  | b :: q, i, 0, r, a, h, hr => by
    obtain rfl : b = a := (by simpa using h); rw [exCells]; match r, hr with
    | 0, _ => rfl
    | 1, _ => rfl
    | 2, _ => rfl
    | 3, _ => rfl
  | b :: q, i, j + 1, r, a, h, hr => by
    rw [exCells, List.getElem?_append_right (by simp; omega)]; have ih := exCells_at pl cl q (i + 1) j r a (by simpa using h) hr; rw [show i + 1 + j = i + (j + 1) by omega] at ih; rw [← ih]
    congr 1
    simp; omega
theorem exCells_one (pl : Nat → Option Addr) (cl : Nat → Nat) : ∀ (ks : List Ex) (i : Nat), ∀ u ∈ exCells pl cl i ks, u.oneCell' = true
  | [], _, u, h => by simp [exCells] at h
  | a :: r, i, u, h => by
    rw [exCells, List.mem_append] at h; rcases h with h | h
    · simp only [List.mem_cons, List.not_mem_nil, or_false] at h; rcases h with rfl | rfl | rfl | rfl <;> rfl
    · exact exCells_one pl cl r (i + 1) u h
theorem infoE : (Tryz.prog.info? 43).map (fun i => (i.zero, i.size, i.bytes)) = some (some (.agg #[.int .i64 0, .int .i64 0, .string ⟨#[]⟩, .slice none 0 0]), 4, 56) := by kernel_rfl
def origF (pl : Nat → Option Addr) (cl : Nat → Nat) (ks : List Ex) (a r : Nat) : Value := match ks[a]? with | some x => cellR x (pl a) (cl a) r | none => .int .i64 0
theorem orig_at {pl : Nat → Option Addr} {cl : Nat → Nat} {ks : List Ex} {a r : Nat} {x : Ex} (h : ks[a]? = some x) : origF pl cl ks a r = cellR x (pl a) (cl a) r := by unfold origF; rw [h]
theorem row_of_own {w : World} {B K : Nat} {v : Value} {pl : Nat → Option Addr} {cl : Nat → Nat} {ks : List Ex} (h : w.ownsRow B 43 4 v K (exCells pl cl 0 ks)) (hK : ks.length = K) :
    ∃ p' cap', v = .slice p' K cap' ∧ K ≤ cap' ∧ (0 < K → ∃ g, p' = some ⟨g, 0, none⟩ ∧ B ≤ g ∧ RowAt w g K (origF pl cl ks)) := by
  obtain ⟨_, ⟨hv, hn⟩ | ⟨g, cap, cur, hv, hB, hg, hle, _, _, htake⟩⟩ := h
  · exact ⟨none, 0, by rw [hv, hn], by omega, fun x => by omega⟩
  · refine ⟨some ⟨g, 0, none⟩, cap, hv, hle, fun _ => ⟨g, rfl, hB, (Array.getElem?_eq_some_iff.1 hg).1, fun a r ha hr => ?_, fun o => by simp [World.frozen?, hg]⟩⟩; obtain ⟨x, hx⟩ : ∃ x, ks[a]? = some x := ⟨_, List.getElem?_eq_getElem (by omega)⟩; rw [orig_at hx, cell_of_row w g _ cur 43 (0, 0) hg]; have q := exCells_at pl cl ks 0 a r x hx hr; rw [Nat.zero_add] at q; rw [← q, ← htake, List.getElem?_take, if_pos (by omega)]; simp
def tClone (K : Nat) (F : Nat → Nat → Value) (w : World) (e : Ending) (w' : World) : Prop :=
  ∃ p' cap', e = .returned (.slice p' K cap') ∧ K ≤ cap' ∧ Below w.heap.size w w' ∧ (0 < K → ∃ g, p' = some ⟨g, 0, none⟩ ∧ w.heap.size ≤ g ∧ RowAt w' g K F)
set_option maxRecDepth 100000 in
set_option maxHeartbeats 4000000 in
theorem sliceClone_any (ks : List Ex) (pl : Nat → Option Addr) (cl : Nat → Nat) (p : Option Addr) (cap : Nat) (w : World) (N : Nat) (ha : ArgsAt N w p cap pl cl ks) (hn : N ≤ w.heap.size) (hk : ks.length ≤ 10000) :
    Calls Tryz.prog 137 #[.slice p ks.length cap] w (tClone ks.length (origF pl cl ks) w) := by
  obtain ⟨i0, hi, hz0, hz1, hz2⟩ := info_parts infoE; obtain ⟨K, hK⟩ : ∃ K, ks.length = K := ⟨_, rfl⟩; have HK := Lib.hid hK; have HA := Lib.hid ha; rw [hK] at hk ⊢; clear hK ha; cases p with
  | none =>
    have hK0 : K = 0 := by
      rcases Nat.eq_zero_or_pos K with h | h
      · exact h
      · obtain ⟨b, off, e, _⟩ := HA.out.hp (by rw [HK.out]; exact h); cases e
    have HK0 := Lib.hid hK0; have he : ∀ W, (binOp .eql 41 (.slice none K cap) (.slice none 0 0)).run Tryz.prog W = .ok (.bool true) W := (fun _ => rfl); clear hK0
    go_enter Tryz.func137, Tryz.ntmps137
    go_wp2; go_ret; exact ⟨none, 0, by rw [HK0.out]; rfl, by rw [HK0.out]; omega, Below.refl _ _, fun h => by rw [HK0.out] at h; omega⟩
  | some ad =>
    have HC : Hid (∀ j u, (exCells pl cl 0 ks)[j]? = some u → w.cell? (ad.add j) = some u) := Lib.hid (by
      intro j u hu; have hj := (List.getElem?_eq_some_iff.1 hu).1; rw [exCells_len] at hj; obtain ⟨b, off, e, hb, hcell⟩ := HA.out.hp (by omega); cases e; obtain ⟨x, hx⟩ : ∃ x, ks[j / 4]? = some x := ⟨_, List.getElem?_eq_getElem (by omega)⟩; have q := exCells_at pl cl ks 0 (j / 4) (j % 4) x hx (by omega); rw [show j / 4 * 4 + j % 4 = j by omega, hu, Nat.zero_add] at q; obtain ⟨c0, c1, c2, c3⟩ := hcell _ _ hx; have ea : (⟨b, off, none⟩ : Addr).add j = ⟨b, off + j / 4 * 4 + j % 4, none⟩ := by
        unfold Addr.add; by_cases h0 : j = 0
        · subst h0; simp
        · simp [h0]; omega
      rw [ea, q]; have hr : j % 4 < 4 := (by omega); generalize j % 4 = r at *
      match r, hr with
      | 0, _ => exact c0
      | 1, _ => exact c1
      | 2, _ => exact c2
      | 3, _ => exact c3)
    have HB1 : Hid (Below w.heap.size w (w.alloc (.cells #[] 43))) := Lib.hid ((Below.refl _ _).alloc (Nat.le_refl _) _); have HO : Hid ((w.alloc (.cells #[] 43)).ownsRow w.heap.size 43 4 (.slice (some ⟨w.heap.size, 0, none⟩) 0 0) 0 []) := Lib.hid ⟨rfl, .inr ⟨w.heap.size, 0, #[], rfl, Nat.le_refl _, heap_alloc_new _ _, Nat.le_refl _, Nat.zero_le _, rfl, rfl⟩⟩; have HL := Lib.hid (exCells_len pl cl ks 0); have HOne := Lib.hid (exCells_one pl cl ks 0); have he : ∀ W, (binOp .eql 41 (.slice (some ad) K cap) (.slice none 0 0)).run Tryz.prog W = .ok (.bool false) W := (fun _ => rfl); have HAL : Hid (∀ j, j < K * 4 → (ad.add j).block < w.heap.size) := Lib.hid (by
      intro j hj; obtain ⟨b, off, e, hb, _⟩ := HA.out.hp (by rw [HK.out]; omega); cases e; have : ((⟨b, off, none⟩ : Addr).add j).block = b := (by unfold Addr.add; split <;> rfl); rw [this]; omega)
    go_enter Tryz.func137, Tryz.ntmps137
    go_wp2_with (at_builtin; go_loud (refine wpList_append_own _ rfl _ _ 41 rfl w.heap.size 43 i0 (.agg #[.int .i64 0, .int .i64 0, .string ⟨#[]⟩, .slice none 0 0]) 4 56 Tryz.underlying41 hi hz0 hz1 hz2 rfl (by decide) _ 0 [] rfl HO.out ad K cap (exCells pl cl 0 ks) rfl (by rw [HL.out, HK.out]) (fun j u hu => (HB1.out.cell (p := ad.add j) (HAL.out j (by have := (List.getElem?_eq_some_iff.1 hu).1; rw [HL.out, HK.out] at this; exact this))).trans (HC.out j u hu)) HOne.out (by unfold maxLen; omega) (by omega) (by simp) ?_); go_loud (intro v' w2 hown' hgrow _; have HO2 := Lib.hid hown'; have HG2 := Lib.hid hgrow; clear hown' hgrow))
    go_ret; have HB2 : Below w.heap.size w w2 := HB1.out.grown HG2.out (by simp) (fun k e => Nat.le_of_eq (by have e' : (Value.slice (some ⟨w.heap.size, 0, none⟩) 0 0).ownBlock = some k := e; simpa [Value.ownBlock] using e')); have hown' := HO2.out; rw [Nat.zero_add, List.nil_append] at hown'; obtain ⟨p', cap', rfl, hcp, hrow⟩ := row_of_own hown' HK.out; exact ⟨p', cap', rfl, hcp, HB2, hrow⟩
set_option maxRecDepth 100000 in
set_option maxHeartbeats 4000000 in
theorem count_any (e : Ex) : ∀ (N n : Nat) (w : World) (v : Value), n ≤ 1000 → ExAt N w v e → N ≤ w.heap.size → Calls Tryz.prog 54 #[v, .int .i64 n] w (tInt (min (sz e) (n + 1) : Nat) w) := by
  induction e using Ex.ind with
  | h o num s ks ih =>
    intro N n w v hn hx hN; obtain ⟨p, cap, pl, cl, rfl, hs, ha⟩ := hx.form; simp only [Ex.op, Ex.n, Ex.nm, Ex.args] at hs ha ⊢; have hkl := ha.hl; obtain ⟨K, hK⟩ : ∃ K, ks.length = K := ⟨_, rfl⟩; have HK := Lib.hid hK; rw [hK] at hkl ⊢; have HA := Lib.hid ha; have HIH := Lib.hid ih; have four := Four.new w (.int .i64 o) (.int .i64 num) (.string s) (.slice p K cap) 43; have c3 := four.c3; have HF := Lib.hid four; have HB0 : Hid (Below w.heap.size w (w.alloc (.cells #[.int .i64 o, .int .i64 num, .string s, .slice p K cap] 43))) := Lib.hid ((Below.refl _ _).alloc (Nat.le_refl _) _); have HSZ := Lib.hid (sz_mk o num s ks); clear ha ih hx four hK
    go_enter Tryz.func54, Tryz.ntmps54
    go_wp2; go_loopw [5, 6] (fun k i wr => ∃ j : Nat, j ≤ K ∧ i = .int .i64 j ∧ (∃ c : Nat, k = .int .i64 c ∧ c ≤ n + 1 ∧ Hid (c = min (1 + szs (ks.take j)) (n + 1))) ∧ Hid (Below w.heap.size w wr) ∧ Hid (Four wr w.heap.size (.int .i64 o) (.int .i64 num) (.string s) (.slice p K cap))) (fun _ i _ => K - (intOf i).toNat)
    case atStart => exact ⟨0, Nat.zero_le _, rfl, ⟨1, rfl, by omega, Lib.hid (by rw [List.take_zero, szs_nil]; omega)⟩, HB0, HF⟩
    case round =>
      obtain ⟨j, hj, rfl, ⟨c, rfl, hc, CC⟩, BW, FW⟩ := hrel; clear c3; have d3 := FW.out.c3; by_cases hlt : j < K
      · by_cases hcn : c ≤ n
        · obtain ⟨b, off, rfl, hbs, hcell⟩ := HA.out.hp (by rw [HK.out]; omega); obtain ⟨a, hak⟩ : ∃ a, ks[j]? = some a := ⟨_, List.getElem?_eq_getElem (by rw [HK.out]; exact hlt)⟩; obtain ⟨q0, q1, q2, q3⟩ := hcell j a hak; have hbw : Below N w wr := BW.out.mono hN; have ca0 : wr.cell? ⟨b, off + j * 4, none⟩ = some (.int .i64 a.op) := (by rw [hbw.cell hbs]; exact q0); have ca1 : wr.cell? ⟨b, off + j * 4 + 1, none⟩ = some (.int .i64 a.n) := (by rw [hbw.cell hbs]; exact q1); have ca2 : wr.cell? ⟨b, off + j * 4 + 2, none⟩ = some (.string a.nm) := (by rw [hbw.cell hbs]; exact q2); have ca3 : wr.cell? ⟨b, off + j * 4 + 3, none⟩ = some (.slice (pl j) a.args.length (cl j)) := (by rw [hbw.cell hbs]; exact q3); have hxa := HA.out.hx j a hak; have AC := HIH.out a (List.mem_of_getElem? hak) N (n - c) wr _ (by omega) (hxa.under hbw) (by have := BW.out.size; omega); rw [show ((n - c : Nat) : Int) = (n : Int) - (c : Int) by omega] at AC; obtain ⟨m, hm⟩ : ∃ m, min (sz a) (n - c + 1) = m := ⟨_, rfl⟩; rw [hm] at AC; have hm2 : m ≤ n - c + 1 := (by omega); have C2 : Hid (c + m = min (1 + szs (ks.take (j + 1))) (n + 1)) := Lib.hid (by rw [szs_take hak, ← hm]; have := CC.out; omega); obtain ⟨ao, hao⟩ : ∃ x, a.op = x := ⟨_, rfl⟩; obtain ⟨an, han⟩ : ∃ x, a.n = x := ⟨_, rfl⟩; obtain ⟨am, ham⟩ : ∃ x, a.nm = x := ⟨_, rfl⟩; obtain ⟨ak, hka⟩ : ∃ x, a.args.length = x := ⟨_, rfl⟩; obtain ⟨ap, hap⟩ : ∃ x, pl j = x := ⟨_, rfl⟩; obtain ⟨ac, hac⟩ : ∃ x, cl j = x := ⟨_, rfl⟩; rw [hao] at ca0 AC; rw [han] at ca1 AC; rw [ham] at ca2 AC; rw [hka, hap, hac] at ca3 AC; have AC := Lib.hid AC; clear hcell q0 q1 q2 q3 hbw hxa hak hao han ham hka hap hac hm; have hcn' : (c : Int) ≤ (n : Int) := (by omega); go_wp2_with (go_at_call 54; ((with_reducible refine AC.out.mono ?_); rintro e w5 ⟨rfl, hb⟩; have HB5 := Lib.hid (BW.out.then_ hb); have HF5 := Lib.hid (FW.out.stay hb); clear hb))
          go_roundw
          case rel => exact ⟨j + 1, by omega, by go_num, ⟨c + m, by rw [Int.natCast_add], by omega, C2⟩, HB5, HF5⟩
          case measure => simp [intOf]; omega
        · have EE : Hid ((c : Int) = ((min (sz (.mk o num s ks)) (n + 1) : Nat) : Int)) := Lib.hid (by
            rw [HSZ.out]; have := szs_take_le j ks; have := CC.out; omega)
          have hcn' : ¬ (c : Int) ≤ (n : Int) := (by omega); go_wp2; go_ret; exact tInt_mk EE.out BW.out
      · have EE : Hid ((c : Int) = ((min (sz (.mk o num s ks)) (n + 1) : Nat) : Int)) := Lib.hid (by
          rw [HSZ.out]; have h1 := CC.out; rw [List.take_of_length_le (by rw [HK.out]; omega)] at h1; omega)
        go_wp2; go_ret; exact tInt_mk EE.out BW.out
set_option maxHeartbeats 2000000 in
theorem few_any (e : Ex) (N n : Nat) (w : World) (v : Value) (hn : n ≤ 1000) (hx : ExAt N w v e) (hN : N ≤ w.heap.size) : Calls Tryz.prog 25 #[v, .int .i64 n] w (tBool (decide (sz e ≤ n)) w) := by
  have hb1 : ∀ o, Below w.heap.size w (w.alloc o) := (fun o => (Below.refl _ _).alloc (Nat.le_refl _) _); have CC := Lib.hid (fun o => count_any e N n (w.alloc o) v hn (hx.under ((hb1 o).mono hN)) (by have := (hb1 o).size; omega)); have HB1 := Lib.hid hb1; obtain ⟨p, cap, pl, cl, rfl, hs, ha⟩ := hx.form; have EE : Hid (decide (sz e ≤ n) = decide (((min (sz e) (n + 1) : Nat) : Int) ≤ (n : Int))) := Lib.hid (by rw [decide_eq_decide]; omega); have four := Four.new w (.int .i64 e.op) (.int .i64 e.n) (.string e.nm) (.slice p e.args.length cap) 43; have c0 := four.c0; have c1 := four.c1; have c2 := four.c2; have c3 := four.c3; rw [EE.out]; clear hx ha hb1 four EE hs; have hmin : ((min (sz e) (n + 1) : Nat) : Int) ≤ 1001 := (by omega); have hmin0 : (0 : Int) ≤ ((min (sz e) (n + 1) : Nat) : Int) := (by omega); generalize ((min (sz e) (n + 1) : Nat) : Int) = m at *
  go_enter Tryz.func25, Tryz.ntmps25
  go_wp2_with (go_at_call 54; ((with_reducible refine (CC.out _).mono ?_); rintro e w5 ⟨rfl, hb⟩; have HB5 := Lib.hid ((HB1.out _).then_ hb); clear hb))
  go_ret; exact tBool_mk rfl HB5.out
end Go.Proofs.YtpejflgdehioaaaGreatDoor.ExW
