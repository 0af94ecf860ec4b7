/-
  Laws that the card uses; no conditions beside those that each states (ItScW ItScN ItRNod ItRCho ExSuR).
-/
import Derived.Test.YtpejflgdehioaaaGreatDoorQ29
import Derived.Test.YtpejflgdehioaaaGreatDoorQ37
namespace Go.Proofs.YtpejflgdehioaaaGreatDoor.ItM
open Go Go.Proofs.YtpejflgdehioaaaGreatDoor.WordM Go.Proofs.YtpejflgdehioaaaGreatDoor.LexM Go.Proofs.YtpejflgdehioaaaGreatDoor.ExM
open Go.Proofs.YtpejflgdehioaaaGreatDoor.ClM (Fld)
theorem takes1 {k : Nat} (h : takesS 1 k = true) : k = 0 := by simp [takesS, arS] at h; omega
theorem sumE_op (a : ByteArray) (k : Nat) : (sumE a k).op ≠ 1 := by
  cases k with
  | zero => show (2 : Int) ≠ 1; decide
  | succ k => show (7 : Int) ≠ 1; decide
theorem choE_op (a : ByteArray) (i : Ex) (k m : Nat) (h : 1 ≤ m) : (choE a i k m).op ≠ 1 := by
  obtain ⟨q, rfl⟩ : ∃ q, m = q + 1 := ⟨m - 1, by omega⟩; show (22 : Int) ≠ 1; decide
theorem scM_cst {fs : List Fld} (e : Ex) : GE fs e → (scM fs e).op = 1 → e.op = 1 ∨ (e.op = 3 ∧ scM fs e = cst 0 ∧ wt fs e = 1) := by
  induction e using Ex.ind with
  | h o n s ks ih =>
    intro hg h; show o = 1 ∨ (o = 3 ∧ _); rw [scM_mk] at h ⊢; by_cases h24 : o = 24
    · rw [if_pos h24] at h; exact absurd h (sumE_op _ _)
    · rw [if_neg h24] at h ⊢; by_cases h3 : o = 3
      · rw [if_pos h3] at h ⊢; subst h3; obtain ⟨a, rfl⟩ := one_of (takes3 (flt_facts hg.top.1).1); have hz := (hg.arr (by rfl)).2; have hhd : hdE ([a].map (scM fs)) = scM fs a := rfl; rw [hhd] at h ⊢; have hga := hg.kid (a := a) (by simp); unfold elmE at h ⊢; by_cases hi : (scM fs a).op = 1
        · rw [if_pos hi] at h ⊢; by_cases hn : (scM fs a).n < ((szI fs s).toNat : Int)
          · rw [if_pos hn] at h; exact absurd h (show (2 : Int) ≠ 1 by decide)
          · rw [if_neg hn]; refine .inr ⟨rfl, rfl, ?_⟩; rcases ih a (by simp) hga hi with h1 | ⟨_, h2, _⟩
            · rw [wt_mk, if_neg (by decide), if_pos rfl, if_pos (show (hdE [a]).op = 1 from h1)]
            · rw [h2] at hn; exact absurd (show (0 : Int) < ((szI fs s).toNat : Int) by omega) hn
        · rw [if_neg hi] at h; exact absurd h (choE_op _ _ _ _ (by omega))
      · rw [if_neg h3] at h; exact .inl h
theorem szs_map_wts {fs : List Fld} : ∀ (ks : List Ex), (∀ a ∈ ks, sz (scM fs a) ≤ wt fs a) → szs (ks.map (scM fs)) ≤ wts fs ks
  | [], _ => by simp [szs_nil]
  | a :: r, h => by
    rw [List.map_cons, szs_cons, wts_cons]; have h1 := h a (by simp); have h2 := szs_map_wts r (fun b hb => h b (by simp [hb])); omega
theorem wts_map_szs {fs : List Fld} : ∀ (ks : List Ex), (∀ a ∈ ks, wt fs a ≤ 41 * sz (scM fs a)) → wts fs ks ≤ 41 * szs (ks.map (scM fs))
  | [], _ => by simp [wts_nil]
  | a :: r, h => by
    rw [List.map_cons, szs_cons, wts_cons]; have h1 := h a (by simp); have h2 := wts_map_szs r (fun b hb => h b (by simp [hb])); omega
theorem sz_wt {fs : List Fld} (e : Ex) : GE fs e → sz (scM fs e) ≤ wt fs e := by
  induction e using Ex.ind with
  | h o n s ks ih =>
    intro hg; rw [scM_mk, wt_mk]; by_cases h24 : o = 24
    · rw [if_pos h24, if_pos h24, sz_sumE]; have := (hg.arr (by rw [h24]; rfl)).2; omega
    · rw [if_neg h24, if_neg h24]; by_cases h3 : o = 3
      · rw [if_pos h3, if_pos h3]; subst h3; obtain ⟨a, rfl⟩ := one_of (takes3 (flt_facts hg.top.1).1); have hhd : hdE ([a].map (scM fs)) = scM fs a := rfl; have hga := hg.kid (a := a) (by simp); have hia := ih a (by simp) hga; rw [hhd]; have hw : wts fs [a] = wt fs a := (by rw [wts_cons, wts_nil]; omega); rw [hw]; unfold elmE; by_cases hi : (scM fs a).op = 1
        · rw [if_pos hi]; have h1 : sz (if (scM fs a).n < ((szI fs s).toNat : Int) then elV s (scM fs a).n.toNat else cst 0) = 1 := by
            split
            · exact sz_elV _ _
            · exact sz_cst _
          rw [h1]; split
          · exact Nat.le_refl _
          · omega
        · rw [if_neg hi, sz_choE]; by_cases ha : (hdE [a]).op = 1
          · have ha1 : a.op = 1 := ha; have : (scM fs a).op = 1 := by
              obtain ⟨o', n', s', ks'⟩ := a; have ho : o' = 1 := ha1; rw [scM_mk, if_neg (by omega), if_neg (by omega)]; exact ho
            exact absurd this hi
          · rw [if_neg ha]; have := Nat.mul_le_mul_left (szI fs s).toNat (show sz (scM fs a) + 4 ≤ wt fs a + 4 by omega); omega
      · rw [if_neg h3, if_neg h3, sz_mk]; have := szs_map_wts (fs := fs) ks (fun a ha => ih a ha (hg.kid ha)); omega
theorem wt_sz {fs : List Fld} (hS : ∀ f ∈ fs, 0 ≤ f.sz ∧ f.sz ≤ 8) (e : Ex) : GE fs e → wt fs e ≤ 41 * sz (scM fs e) := by
  induction e using Ex.ind with
  | h o n s ks ih =>
    intro hg; have h8 := szI_le fs hS s; rw [scM_mk, wt_mk]; by_cases h24 : o = 24
    · rw [if_pos h24, if_pos h24, sz_sumE]; omega
    · rw [if_neg h24, if_neg h24]; by_cases h3 : o = 3
      · rw [if_pos h3, if_pos h3]; subst h3; obtain ⟨a, rfl⟩ := one_of (takes3 (flt_facts hg.top.1).1); have hhd : hdE ([a].map (scM fs)) = scM fs a := rfl; have hga := hg.kid (a := a) (by simp); have hia := ih a (by simp) hga; rw [hhd]; have hw : wts fs [a] = wt fs a := (by rw [wts_cons, wts_nil]; omega); rw [hw]; have hp := sz_pos (elmE s (szI fs s).toNat (scM fs a)); by_cases ha : (hdE [a]).op = 1
        · rw [if_pos ha]; omega
        · rw [if_neg ha]; have hz8 : (szI fs s).toNat ≤ 8 := (by omega); by_cases hi : (scM fs a).op = 1
          · rcases scM_cst a hga hi with h1 | ⟨_, _, h2⟩
            · exact absurd h1 ha
            · rw [h2]; have := Nat.mul_le_mul_right (1 + 4) hz8; omega
          · unfold elmE; rw [if_neg hi, sz_choE]; generalize (szI fs s).toNat = z at *
            have h1 := Nat.mul_le_mul_left z (show wt fs a + 4 ≤ 41 * (sz (scM fs a) + 4) by omega); rw [Nat.mul_left_comm] at h1; omega
      · rw [if_neg h3, if_neg h3, sz_mk]; have := wts_map_szs (fs := fs) ks (fun a ha => ih a ha (hg.kid ha)); omega
theorem vld_kid {o n : Int} {s : ByteArray} {ks : List Ex} (h : vld (.mk o n s ks) = 0) {a : Ex} (ha : a ∈ ks) : vld a = 0 := by
  obtain ⟨h1, h2, h3⟩ := (vld_zero _).1 h; refine (vld_zero _).2 ⟨((ok_mk o n s ks).1 h1).2 a ha, ?_, ?_⟩
  · rw [dep_mk] at h2; have := dep_mem ha; omega
  · rw [sz_mk] at h3; have := sz_mem ha; omega
theorem vld_cst0 : vld (cst 0) = 0 := by kernel_rfl
theorem scB_of {fs : List Fld} (e : Ex) : GE fs e → vld (scM fs e) = 0 → scB fs e = true := by
  induction e using Ex.ind with
  | h o n s ks ih =>
    intro hg hv; rw [scB_mk, decide_eq_true hv, Bool.and_true, List.all_eq_true]; intro a ha; have hga := hg.kid ha; refine ih a ha hga ?_; rw [scM_mk] at hv; by_cases h24 : o = 24
    · subst h24; have := takes24 (flt_facts hg.top.1).1; have := List.length_eq_zero_iff.1 this; subst this; cases ha
    · rw [if_neg h24] at hv; by_cases h3 : o = 3
      · rw [if_pos h3] at hv; subst h3; obtain ⟨b, rfl⟩ := one_of (takes3 (flt_facts hg.top.1).1); obtain rfl : a = b := (by simpa using ha); have hhd : hdE ([a].map (scM fs)) = scM fs a := rfl; rw [hhd] at hv; have hz := (hg.arr (by rfl)).2; by_cases hi : (scM fs a).op = 1
        · rcases scM_cst a hga hi with h1 | ⟨_, h2, _⟩
          · have hok := hga.ok; obtain ⟨o', n', s', ks'⟩ := a; obtain rfl : o' = 1 := h1; have hk := List.length_eq_zero_iff.1 (takes1 (flt_facts hga.top.1).1); subst hk; rw [scM_mk, if_neg (by decide), if_neg (by decide), List.map_nil]; refine (vld_zero _).2 ⟨hok, ?_, ?_⟩
            · rw [dep_mk, deps_nil]; decide
            · rw [sz_mk, szs_nil]; decide
          · rw [h2]; exact vld_cst0
        · unfold elmE at hv; rw [if_neg hi] at hv; obtain ⟨q, hq⟩ : ∃ q, (szI fs s).toNat = q + 1 := ⟨(szI fs s).toNat - 1, by omega⟩; rw [hq] at hv; have h1 : vld (.mk 22 0 ⟨#[]⟩ [.mk 15 0 ⟨#[]⟩ [scM fs a, cst (0 : Nat)], elV s 0, choE s (scM fs a) (0 + 1) q]) = 0 := hv; exact vld_kid (vld_kid h1 (a := .mk 15 0 ⟨#[]⟩ [scM fs a, cst (0 : Nat)]) (by simp)) (by simp)
      · rw [if_neg h3] at hv; exact vld_kid hv (List.mem_map_of_mem ha)
theorem sca_ref {fs : List Fld} (hS : ∀ f ∈ fs, 0 ≤ f.sz ∧ f.sz ≤ 8) {e : Ex} (hg : GE fs e) : (50000 ≤ wt fs e → scB fs e = false) ∧ (wt fs e < 50000 → sz (scM fs e) ≤ 50000 ∧ scB fs e = decide (vld (scM fs e) = 0)) := by
  have h1 := wt_sz hS e hg; have h2 := sz_wt (fs := fs) e hg; refine ⟨fun h => ?_, fun h => ⟨by omega, ?_⟩⟩
  · cases hb : scB fs e with
    | false => rfl
    | true =>
      have := ((vld_zero _).1 (scB_vld hb)).2.2; omega
  · by_cases hv : vld (scM fs e) = 0
    · rw [decide_eq_true hv]; exact scB_of e hg hv
    · rw [decide_eq_false hv]; cases hb : scB fs e with
      | false => rfl
      | true => exact absurd (scB_vld hb) hv
theorem na_mk {o n : Int} {s : ByteArray} {ks : List Ex} (ho : isAr o = false) (hk : ∀ a ∈ ks, NA a) : NA (.mk o n s ks) := by
  intro l y hy; rw [pre_mk] at hy; rcases List.mem_cons.1 hy with rfl | h
  · exact ho
  · obtain ⟨a, ha, hya⟩ := mem_pres.1 h; exact hk a ha _ y hya
theorem na_leaf {o n : Int} {s : ByteArray} (ho : isAr o = false) : NA (.mk o n s []) := na_mk ho (fun _ h => nomatch h)
theorem na_cst (k : Int) : NA (cst k) := na_leaf (by decide)
theorem na_elV (a : ByteArray) (k : Nat) : NA (elV a k) := na_leaf (by decide)
theorem na_sumE (a : ByteArray) : ∀ k, NA (sumE a k)
  | 0 => na_elV a 0
  | k + 1 => na_mk (ks := [sumE a k, elV a (k + 1)]) (by decide) fun b hb => by
    simp only [List.mem_cons, List.not_mem_nil, or_false] at hb; rcases hb with rfl | rfl
    · exact na_sumE a k
    · exact na_elV _ _
theorem na_choE (a : ByteArray) {i : Ex} (hi : NA i) : ∀ m k, NA (choE a i k m)
  | 0, _ => na_cst 0
  | m + 1, k => na_mk (ks := [.mk 15 0 ⟨#[]⟩ [i, cst k], elV a k, choE a i (k + 1) m]) (by decide) fun b hb => by
    simp only [List.mem_cons, List.not_mem_nil, or_false] at hb; rcases hb with rfl | rfl | rfl
    · exact na_mk (by decide) fun c hc => by
        simp only [List.mem_cons, List.not_mem_nil, or_false] at hc; rcases hc with rfl | rfl
        · exact hi
        · exact na_cst _
    · exact na_elV _ _
    · exact na_choE a hi m (k + 1)
theorem na_elmE (a : ByteArray) (n : Nat) {i : Ex} (hi : NA i) : NA (elmE a n i) := by
  unfold elmE; split
  · split
    · exact na_elV _ _
    · exact na_cst _
  · exact na_choE a hi n 0
theorem na_scM (fs : List Fld) (e : Ex) : NA (scM fs e) := by
  induction e using Ex.ind with
  | h o n s ks ih =>
    rw [scM_mk]; by_cases h24 : o = 24
    · rw [if_pos h24]; exact na_sumE _ _
    · rw [if_neg h24]; by_cases h3 : o = 3
      · rw [if_pos h3]; refine na_elmE _ _ ?_; cases ks with
        | nil => exact na_leaf (by decide)
        | cons a r => exact ih a (by simp)
      · rw [if_neg h3]; refine na_mk ?_ fun b hb => ?_
        · unfold isAr; simp [h24, h3]
        · obtain ⟨a, ha, rfl⟩ := List.mem_map.1 hb; exact ih a ha
theorem names_na {e : Ex} (h : NA e) : namesL isAr (pre 1 e) = [] := by
  refine (List.eq_nil_iff_forall_not_mem.2 fun s hs => ?_); rcases (names_mem_fold isAr s (pre 1 e) []).1 hs with h1 | ⟨x, hx, h2, _⟩
  · cases h1
  · rw [h 1 x hx] at h2; cases h2
end Go.Proofs.YtpejflgdehioaaaGreatDoor.ItM
namespace Go.Proofs.YtpejflgdehioaaaGreatDoor.ItW
open Go Go.RowKit Go.Shelf Go.Proofs.YtpejflgdehioaaaGreatDoor.NumM Go.Proofs.YtpejflgdehioaaaGreatDoor.LexW Go.Proofs.YtpejflgdehioaaaGreatDoor.LexM Go.Proofs.YtpejflgdehioaaaGreatDoor.ExM Go.Proofs.YtpejflgdehioaaaGreatDoor.ExW Go.Proofs.YtpejflgdehioaaaGreatDoor.ItM
open Go.Proofs.YtpejflgdehioaaaGreatDoor.ClM (Fld)
theorem constR_any (n : Int) (w : World) : Calls Tryz.prog 93 #[.int .i64 n] w fun e w' => e = .returned (xv 1 n ⟨#[]⟩ (.slice none 0 0)) ∧ Below w.heap.size w w' := by
  have f5 := Blk.new w [.int .i64 1, .int .i64 n, .string ⟨#[]⟩, .slice none 0 0] 43; have p0 := f5.c 0 _ rfl; have p1 := f5.c 1 _ rfl; have p2 := f5.c 2 _ rfl; have p3 := f5.c 3 _ rfl; clear f5
  go_enter Tryz.func93, Tryz.ntmps93
  go_wp2; exact bodyPost_ret (v := xv 1 n ⟨#[]⟩ (.slice none 0 0)) (by simp [results, Tryz.results93, go_sem, p0, p1, p2, p3]) rfl ⟨rfl, ba _ _⟩
theorem elemR_any (a : ByteArray) (k : Nat) (hk : k ≤ 7) (ha : a.size ≤ 100) (w : World) : Calls Tryz.prog 106 #[.string a, .int .i64 k] w fun e w' => e = .returned (xv 2 0 (elmN a k) (.slice none 0 0)) ∧ Below w.heap.size w w' := by
  have EC : Hid (∀ W, Calls Tryz.prog 62 #[.string a, .int .i64 k] W fun e w' => e = .returned (.string (elmN a k)) ∧ W = w') := (Lib.hid fun W => elementR_any a k hk ha W); generalize elmN a k = x at *
  have f5 := Blk.new w [.int .i64 2, .int .i64 0, .string x, .slice none 0 0] 43; have p0 := f5.c 0 _ rfl; have p1 := f5.c 1 _ rfl; have p2 := f5.c 2 _ rfl; have p3 := f5.c 3 _ rfl; clear f5
  go_enter Tryz.func106, Tryz.ntmps106
  go_wp2_with (go_at_call 62; ((with_reducible refine (EC.out _).mono ?_); rintro e w1 ⟨rfl, rfl⟩))
  exact bodyPost_ret (v := xv 2 0 x (.slice none 0 0)) (by simp [results, Tryz.results106, go_sem, p0, p1, p2, p3]) rfl ⟨rfl, ba _ _⟩
def Ft (S : Nat → Prop) (lo : Nat) (w : World) : Nat → Prop := fun b => S b ∨ (lo ≤ b ∧ b < w.heap.size)
theorem exs_up {S S' : Nat → Prop} {w w' : World} {v : Value} {e : Ex} (h : ExS S w v e) (hS : ∀ b, S b → b < w.heap.size) (hb : Below w.heap.size w w') (hS' : ∀ b, S b → S' b) : ExS S' w' v e :=
  h.kept hS' (fun b o hb' _ hv => (hb.cell (p := ⟨b, o, none⟩) (hS b hb')).trans hv)
theorem exs_weak {S S' : Nat → Prop} {w : World} {v : Value} {e : Ex} (h : ExS S w v e) (hS : ∀ b, S b → S' b) : ExS S' w v e := h.kept hS (fun _ _ _ _ hv => hv)
theorem exs_put4 {S : Nat → Prop} {w : World} {v : Value} {e : Ex} {g : Nat} (h : ExS S w v e) (hg : ∀ b, S b → b ≠ g) (a0 a1 a2 a3 : Value) : ExS S ((((w.setCell ⟨g, 0, none⟩ a0).setCell ⟨g, 1, none⟩ a1).setCell ⟨g, 2, none⟩ a2).setCell ⟨g, 3, none⟩ a3) v e :=
  h.kept (fun _ h => h) (fun b o hb _ hv => by
    have hne : g ≠ b := (fun e => hg b hb e.symm); rw [World.cell?_setCell_far _ _ _ _ hne, World.cell?_setCell_far _ _ _ _ hne, World.cell?_setCell_far _ _ _ _ hne, World.cell?_setCell_far _ _ _ _ hne]; exact hv)
set_option maxRecDepth 100000 in
set_option maxHeartbeats 8000000 in
theorem nodeR_any (op : Int) (x y : Ex) (v1 v2 : Value) (S : Nat → Prop) (w : World) (hS : ∀ b, S b → b < w.heap.size) (h1 : ExS S w v1 x) (h2 : ExS S w v2 y) :
    Calls Tryz.prog 138 #[.int .i64 op, v1, v2] w fun e w' => ∃ b, e = .returned (xv op 0 ⟨#[]⟩ (.slice (some ⟨b, 0, none⟩) 2 2)) ∧ ExS (Ft S w.heap.size w') w' (xv op 0 ⟨#[]⟩ (.slice (some ⟨b, 0, none⟩) 2 2)) (.mk op 0 ⟨#[]⟩ [x, y]) ∧ Below w.heap.size w w' := by
  obtain ⟨p1, k1, rfl, _, _⟩ := h1.form; obtain ⟨p2, k2, rfl, _, _⟩ := h2.form; have l1 := ba w (.cells #[.int .i64 x.op, .int .i64 x.n, .string x.nm, .slice p1 x.args.length k1] 43); have l2 := ba (w.alloc (.cells #[.int .i64 x.op, .int .i64 x.n, .string x.nm, .slice p1 x.args.length k1] 43)) (.cells #[.int .i64 y.op, .int .i64 y.n, .string y.nm, .slice p2 y.args.length k2] 43); have B1 := (Blk.new w [.int .i64 x.op, .int .i64 x.n, .string x.nm, .slice p1 x.args.length k1] 43).stay l2; have B2 := Blk.new (w.alloc (.cells #[.int .i64 x.op, .int .i64 x.n, .string x.nm, .slice p1 x.args.length k1] 43)) [.int .i64 y.op, .int .i64 y.n, .string y.nm, .slice p2 y.args.length k2] 43; have l12 := l1.then_ l2; rw [World.size_alloc] at B2; have hsz2 : ((w.alloc (.cells #[.int .i64 x.op, .int .i64 x.n, .string x.nm, .slice p1 x.args.length k1] 43)).alloc (.cells #[.int .i64 y.op, .int .i64 y.n, .string y.nm, .slice p2 y.args.length k2] 43)).heap.size = w.heap.size + 1 + 1 := (by rw [World.size_alloc, World.size_alloc]); obtain ⟨W0, hW0⟩ : ∃ W0, (w.alloc (.cells #[.int .i64 x.op, .int .i64 x.n, .string x.nm, .slice p1 x.args.length k1] 43)).alloc (.cells #[.int .i64 y.op, .int .i64 y.n, .string y.nm, .slice p2 y.args.length k2] 43) = W0 := ⟨_, rfl⟩; simp only [List.toArray] at B1 B2; rw [hW0] at B1 B2 l12 hsz2; have lz := ba W0 (.cells #[.int .i64 0, .int .i64 0, .string ⟨#[]⟩, .slice none 0 0] 43); have c0 := (B1.stay lz).c 0 _ rfl; have c1 := (B1.stay lz).c 1 _ rfl; have c2 := (B1.stay lz).c 2 _ rfl; have c3 := (B1.stay lz).c 3 _ rfl; have d0 := (B2.stay lz).c 0 _ rfl; have d1 := (B2.stay lz).c 1 _ rfl; have d2 := (B2.stay lz).c 2 _ rfl; have d3 := (B2.stay lz).c 3 _ rfl; have l3 := ba W0 (.cells #[.int .i64 op, .int .i64 0, .string ⟨#[]⟩, .slice (some ⟨w.heap.size + 1 + 1 + 1, 0, none⟩) 2 2] 43); have B3 := Blk.new W0 [.int .i64 op, .int .i64 0, .string ⟨#[]⟩, .slice (some ⟨w.heap.size + 1 + 1 + 1, 0, none⟩) 2 2] 43; have hsz3 : (W0.alloc (.cells #[.int .i64 op, .int .i64 0, .string ⟨#[]⟩, .slice (some ⟨w.heap.size + 1 + 1 + 1, 0, none⟩) 2 2] 43)).heap.size = w.heap.size + 1 + 1 + 1 := (by rw [World.size_alloc, hsz2]); rw [hsz2] at B3; simp only [List.toArray] at B3; obtain ⟨W3, hW3⟩ : ∃ W3, W0.alloc (.cells #[.int .i64 op, .int .i64 0, .string ⟨#[]⟩, .slice (some ⟨w.heap.size + 1 + 1 + 1, 0, none⟩) 2 2] 43) = W3 := ⟨_, rfl⟩; rw [hW3] at l3 B3 hsz3; have l4 := ba W3 (.cells #[.int .i64 x.op, .int .i64 x.n, .string x.nm, .slice p1 x.args.length k1, .int .i64 y.op, .int .i64 y.n, .string y.nm, .slice p2 y.args.length k2] 43); have B4 := Blk.new W3 [.int .i64 x.op, .int .i64 x.n, .string x.nm, .slice p1 x.args.length k1, .int .i64 y.op, .int .i64 y.n, .string y.nm, .slice p2 y.args.length k2] 43; rw [hsz3] at B4; have p0 := (B3.stay l4).c 0 _ rfl; have p1' := (B3.stay l4).c 1 _ rfl; have p2' := (B3.stay l4).c 2 _ rfl; have p3 := (B3.stay l4).c 3 _ rfl; have HR := Lib.hid (two_args (T := Ft S w.heap.size (W3.alloc _)) (op := op) (.inr ⟨by omega, B4.lt⟩) B4 (exs_up h1 hS ((l12.then_ l3).then_ l4) fun _ h => .inl h) (exs_up h2 hS ((l12.then_ l3).then_ l4) fun _ h => .inl h)); have HL := Lib.hid ((l12.then_ l3).then_ l4); simp only [List.toArray] at HR; clear B1 B2 B3 B4 l1 l2 l12 lz l3 l4 h1 h2; generalize x.args.length = K1 at *
  generalize y.args.length = K2 at *
  go_enter Tryz.func138, Tryz.ntmps138
  go_wp2; exact bodyPost_ret (v := xv op 0 ⟨#[]⟩ (.slice (some ⟨w.heap.size + 1 + 1 + 1, 0, none⟩) 2 2)) (by simp [results, Tryz.results138, go_sem, p0, p1', p2', p3]) rfl ⟨_, rfl, HR.out, HL.out⟩
end Go.Proofs.YtpejflgdehioaaaGreatDoor.ItW
namespace Go.Proofs.YtpejflgdehioaaaGreatDoor.ItW
open Go Go.RowKit Go.Shelf Go.Proofs.YtpejflgdehioaaaGreatDoor.NumM Go.Proofs.YtpejflgdehioaaaGreatDoor.LexW Go.Proofs.YtpejflgdehioaaaGreatDoor.LexM Go.Proofs.YtpejflgdehioaaaGreatDoor.ExM Go.Proofs.YtpejflgdehioaaaGreatDoor.ExW Go.Proofs.YtpejflgdehioaaaGreatDoor.ItM
open Go.Proofs.YtpejflgdehioaaaGreatDoor.ClM (Fld)
attribute [local go_sem ↓] Go.wp_at_zero Go.wp_at_succ
set_option maxRecDepth 100000 in
set_option maxHeartbeats 8000000 in
theorem sumR_any (a : ByteArray) (ha : a.size ≤ 100) : ∀ (m : Nat) (n : Int) (w : World), m ≤ 7 → n = m + 1 → Calls Tryz.prog 105 #[.string a, .int .i64 n] w (tFr (sumE a m) w) := by
  intro m; induction m with
  | zero =>
    intro n w _ hn; obtain rfl : n = 1 := (by omega); clear hn; have EC : Hid (∀ W, Calls Tryz.prog 106 #[.string a, .int .i64 0] W fun e w' => e = .returned (xv 2 0 (elmN a 0) (.slice none 0 0)) ∧ Below W.heap.size W w') := (Lib.hid fun W => elemR_any a 0 (by decide) ha W); have EV := Lib.hid (fun lo W => elV_fr lo W a 0 ha); have EE : Hid (sumE a 0 = .mk 2 0 (elmN a 0) []) := Lib.hid rfl; have hEVd : elV a 0 = .mk 2 0 (elmN a 0) [] := rfl; rw [hEVd] at EV; have F1 := Four.new w (.int .i64 0) (.int .i64 0) (.string ⟨#[]⟩) (.slice none 0 0) 43; have hb2 := ba w (.cells #[.int .i64 0, .int .i64 0, .string ⟨#[]⟩, .slice none 0 0] 43); have HB2 := Lib.hid hb2; have HF1 := Lib.hid F1; clear hb2 F1 hEVd; generalize sumE a 0 = R at *
    generalize elmN a 0 = M at *
    go_enter Tryz.func105, Tryz.ntmps105
    go_wp2_with (go_at_call 106; ((with_reducible refine (EC.out _).mono ?_); rintro e w5 ⟨rfl, hb⟩; have f5 := HF1.out.stay hb; have e0 := f5.c0; have e1 := f5.c1; have e2 := f5.c2; have e3 := f5.c3; have z0 := f5.f0; have z1 := f5.f1; have z2 := f5.f2; have z3 := f5.f3; have G5 := Lib.hid f5; have HB5 := Lib.hid (HB2.out.then_ hb); clear hb f5))
    have hp := G5.out.put (.int .i64 2) (.int .i64 0) (.string M) (.slice none 0 0); have p0 := hp.c0; have p1 := hp.c1; have p2 := hp.c2; have p3 := hp.c3; rw [EE.out]; exact bodyPost_ret (v := xv 2 0 M (.slice none 0 0)) (by simp [results, Tryz.results105, go_sem, p0, p1, p2, p3]) rfl ⟨_, rfl, EV.out _ _, below_put HB5.out (by omega) _ _ _ _⟩
  | succ m ih =>
    intro n w hm hn; have hn1 : (n == 1) = false := (by rw [beq_eq_false_iff_ne]; omega); have hw : IntKind.i64.wrap (n - 1) = n - 1 := IntWalk.i64_in _ (by omega); have EC : Hid (∀ W, Calls Tryz.prog 106 #[.string a, .int .i64 (n - 1)] W fun e w' => e = .returned (xv 2 0 (elmN a (m + 1)) (.slice none 0 0)) ∧ Below W.heap.size W w') := Lib.hid fun W => by
      rw [show n - 1 = ((m + 1 : Nat) : Int) by omega]; exact elemR_any a (m + 1) hm ha W
    have SC : Hid (∀ W, Calls Tryz.prog 105 #[.string a, .int .i64 (n - 1)] W (tFr (sumE a m) W)) := (Lib.hid fun W => ih (n - 1) W (by omega) (by omega)); have EV := Lib.hid (fun lo W => elV_fr lo W a (m + 1) ha); have EE : Hid (sumE a (m + 1) = .mk 7 0 ⟨#[]⟩ [sumE a m, .mk 2 0 (elmN a (m + 1)) []]) := Lib.hid rfl; have hEVd : elV a (m + 1) = .mk 2 0 (elmN a (m + 1)) [] := rfl; rw [hEVd] at EV; have F1 := Four.new w (.int .i64 0) (.int .i64 0) (.string ⟨#[]⟩) (.slice none 0 0) 43; have hb2 := ba w (.cells #[.int .i64 0, .int .i64 0, .string ⟨#[]⟩, .slice none 0 0] 43); have hsz := World.size_alloc w (.cells #[.int .i64 0, .int .i64 0, .string ⟨#[]⟩, .slice none 0 0] 43); have HB2 := Lib.hid hb2; have HF1 := Lib.hid F1; have HZ := Lib.hid hsz; clear hb2 F1 hEVd ih hsz hn; generalize sumE a (m + 1) = R at *
    generalize sumE a m = T at *
    generalize elmN a (m + 1) = M at *
    go_enter Tryz.func105, Tryz.ntmps105
    go_wp2_with (first
      | (go_at_call 105; ((with_reducible refine (SC.out _).mono ?_); rintro e w4 ⟨v4, rfl, hf4, hb⟩; have HF4 := Lib.hid hf4; have HB4 := Lib.hid hb; clear hb hf4))
      | (go_at_call 106; ((with_reducible refine (EC.out _).mono ?_); rintro e w5 ⟨rfl, hb⟩; have HB5 := Lib.hid hb; clear hb))
      | (go_at_call 138; ((with_reducible refine (nodeR_any 7 T (.mk 2 0 M []) v4 _ (fun b => (w.alloc (.cells #[.int .i64 0, .int .i64 0, .string ⟨#[]⟩, .slice none 0 0] 43)).heap.size ≤ b ∧ b < w5.heap.size) _ (fun _ h => h.2) (HF4.out.later HB5.out) (EV.out _ _)).mono ?_); rintro e w6 ⟨b6, rfl, hf6, hb⟩; have HF6 := Lib.hid hf6; have HS6 := Lib.hid hb.size; have f6 := HF1.out.stay ((HB4.out.then_ HB5.out).then_ hb); have e0 := f6.c0; have e1 := f6.c1; have e2 := f6.c2; have e3 := f6.c3; have z0 := f6.f0; have z1 := f6.f1; have z2 := f6.f2; have z3 := f6.f3; have G6 := Lib.hid f6; have HB6 := Lib.hid (((HB2.out.then_ HB4.out).then_ HB5.out).then_ hb); clear hb f6 hf6)))
    have hp := G6.out.put (.int .i64 7) (.int .i64 0) (.string ⟨#[]⟩) (.slice (some ⟨b6, 0, none⟩) 2 2); have p0 := hp.c0; have p1 := hp.c1; have p2 := hp.c2; have p3 := hp.c3; have h5 := HB5.out.size; have h4 := HB4.out.size; have hz := HZ.out; have hlt := G6.out.lt; have hr := exs_put4 (g := w.heap.size) HF6.out (fun b hb => by rcases hb with h | h <;> omega) (.int .i64 7) (.int .i64 0) (.string ⟨#[]⟩) (.slice (some ⟨b6, 0, none⟩) 2 2); rw [EE.out]; refine bodyPost_ret (v := xv 7 0 ⟨#[]⟩ (.slice (some ⟨b6, 0, none⟩) 2 2)) (by simp [results, Tryz.results105, go_sem, p0, p1, p2, p3]) rfl ⟨_, rfl, exs_weak hr fun b hb => ?_, below_put HB6.out (by omega) _ _ _ _⟩; have h65 := HS6.out; simp only [setCell_size]; rcases hb with h | h <;> omega
theorem RD.put {w V : World} {i : Nat} {x : Value} {c6 : List Value} (h : RD w c6 V) : RD w c6 (V.setCell ⟨w.heap.size + 1, i, none⟩ x) :=
  ⟨h.h6.far (by omega), h.rm.put, h.lo.setCell (p := ⟨w.heap.size + 1, i, none⟩) (by show w.heap.size ≤ w.heap.size + 1; omega) _⟩
abbrev SD (w : World) (o n : Int) (s : ByteArray) (x : Value) (V : World) : Prop :=
  V.cell? ⟨w.heap.size, 0, none⟩ = some (.int .i64 o) ∧ V.cell? ⟨w.heap.size, 1, none⟩ = some (.int .i64 n) ∧ V.cell? ⟨w.heap.size, 2, none⟩ = some (.string s) ∧ V.cell? ⟨w.heap.size, 3, none⟩ = some x ∧ RD w [.int .i64 o, .int .i64 n, .string s, x] V
theorem SD.r {w : World} {o n : Int} {s : ByteArray} {x : Value} {V : World} (h : SD w o n s x V) : RD w [.int .i64 o, .int .i64 n, .string s, x] V := h.2.2.2.2
theorem SD.of {w : World} {o n : Int} {s : ByteArray} {x : Value} {V : World} (h : RD w [.int .i64 o, .int .i64 n, .string s, x] V) : SD w o n s x V := ⟨h.h6.c 0 _ rfl, h.h6.c 1 _ rfl, h.h6.c 2 _ rfl, h.h6.c 3 _ rfl, h⟩
def tCho (S : Nat → Prop) (x : Ex) (w : World) (e : Ending) (w' : World) : Prop := ∃ v, e = .returned v ∧ ExS (Ft S w.heap.size w') w' v x ∧ Below w.heap.size w w'
set_option maxRecDepth 100000 in
set_option maxHeartbeats 16000000 in
theorem chosenR_any (a : ByteArray) (ha : a.size ≤ 100) (n : Nat) (hn : n ≤ 8) (i : Ex) (S : Nat → Prop) : ∀ (m k : Nat) (vi : Value) (w : World), k + m = n → (∀ b, S b → b < w.heap.size) → ExS S w vi i →
    Calls Tryz.prog 107 #[.string a, .int .i64 n, vi, .int .i64 k] w (tCho S (choE a i k m) w) := by
  intro m; induction m with
  | zero =>
    intro k vi w hk hS hx; obtain ⟨p, cap, rfl, hs, _⟩ := hx.form; obtain rfl : k = n := (by omega); have hb1 := ba w (.cells #[.int .i64 i.op, .int .i64 i.n, .string i.nm, .slice p i.args.length cap] 43); have hb2 := hb1.then_ (ba _ (.cells #[.int .i64 0, .int .i64 0, .string ⟨#[]⟩, .slice none 0 0] 43)); have F1 := Four.new (w.alloc (.cells #[.int .i64 i.op, .int .i64 i.n, .string i.nm, .slice p i.args.length cap] 43)) (.int .i64 0) (.int .i64 0) (.string ⟨#[]⟩) (.slice none 0 0) 43; rw [World.size_alloc] at F1; obtain ⟨W0, hW0⟩ : ∃ W0, (w.alloc (.cells #[.int .i64 i.op, .int .i64 i.n, .string i.nm, .slice p i.args.length cap] 43)).alloc (.cells #[.int .i64 0, .int .i64 0, .string ⟨#[]⟩, .slice none 0 0] 43) = W0 := ⟨_, rfl⟩; have KC := Lib.hid (constR_any 0 W0); rw [hW0] at F1 hb2; have HB2 := Lib.hid hb2; have HF1 := Lib.hid F1; have EE : Hid (ExS (Ft S w.heap.size w) w (xv 1 0 ⟨#[]⟩ (.slice none 0 0)) (cst 0)) := Lib.hid (ExS.leaf (by decide)); clear hb1 hb2 F1 hx hs hS
    go_enter Tryz.func107, Tryz.ntmps107
    go_wp2_with fail
    clear hW0; go_wp2_with (first
      | (go_at_call 93; ((with_reducible refine KC.out.mono ?_); rintro e w5 ⟨rfl, hb⟩; have f5 := HF1.out.stay hb; have e0 := f5.c0; have e1 := f5.c1; have e2 := f5.c2; have e3 := f5.c3; have z0 := f5.f0; have z1 := f5.f1; have z2 := f5.f2; have z3 := f5.f3; have G5 := Lib.hid f5; have HB5 := Lib.hid (HB2.out.then_ hb); clear hb f5)))
    have hp := G5.out.put (.int .i64 1) (.int .i64 0) (.string ⟨#[]⟩) (.slice none 0 0); have p0 := hp.c0; have p1 := hp.c1; have p2 := hp.c2; have p3 := hp.c3; refine bodyPost_ret (v := xv 1 0 ⟨#[]⟩ (.slice none 0 0)) (by simp [results, Tryz.results107, go_sem, p0, p1, p2, p3]) rfl ?_; exact ⟨_, rfl, ExS.leaf (by decide), below_put HB5.out (by omega) _ _ _ _⟩
  | succ m ih =>
    intro k vi w hk hS hx; obtain ⟨p, cap, rfl, hs, _⟩ := hx.form; have hkn : ((k : Int) == (n : Int)) = false := (by rw [beq_eq_false_iff_ne]; omega); have hk8 : k ≤ 7 := (by omega); have hwr : IntKind.i64.wrap ((k : Int) + 1) = (k : Int) + 1 := IntWalk.i64_in _ (by omega); have B0 := Blk.new w [.int .i64 i.op, .int .i64 i.n, .string i.nm, .slice p i.args.length cap] 43; have hb1 := ba w (.cells #[.int .i64 i.op, .int .i64 i.n, .string i.nm, .slice p i.args.length cap] 43); have hbz := ba (w.alloc (.cells #[.int .i64 i.op, .int .i64 i.n, .string i.nm, .slice p i.args.length cap] 43)) (.cells #[.int .i64 0, .int .i64 0, .string ⟨#[]⟩, .slice none 0 0] 43); have hb2 := hb1.then_ hbz; have B1 := Blk.new (w.alloc (.cells #[.int .i64 i.op, .int .i64 i.n, .string i.nm, .slice p i.args.length cap] 43)) [.int .i64 0, .int .i64 0, .string ⟨#[]⟩, .slice none 0 0] 43; have hsz2 : ((w.alloc (.cells #[.int .i64 i.op, .int .i64 i.n, .string i.nm, .slice p i.args.length cap] 43)).alloc (.cells #[.int .i64 0, .int .i64 0, .string ⟨#[]⟩, .slice none 0 0] 43)).heap.size = w.heap.size + 1 + 1 := (by rw [World.size_alloc, World.size_alloc]); rw [World.size_alloc] at B1; have B0 := B0.stay hbz; obtain ⟨W0, hW0⟩ : ∃ W0, (w.alloc (.cells #[.int .i64 i.op, .int .i64 i.n, .string i.nm, .slice p i.args.length cap] 43)).alloc (.cells #[.int .i64 0, .int .i64 0, .string ⟨#[]⟩, .slice none 0 0] 43) = W0 := ⟨_, rfl⟩; simp only [List.toArray] at B0 B1; rw [hW0] at B0 B1 hb2 hsz2; have HSL := Lib.hid hS; have hxi : ∀ V, Below w.heap.size w V → ExS S V (xv i.op i.n i.nm (.slice p i.args.length cap)) i := (fun V hV => exs_up hx hS hV fun _ h => h); have HXI := Lib.hid hxi; have EV := Lib.hid (fun S W => (ExS.leaf (S := S) (w := W) (o := 2) (n := 0) (s := elmN a k) (p := none) (cap := 0) (by have := elm_sz a k ha; omega))); have EE : Hid (choE a i k (m + 1) = .mk 22 0 ⟨#[]⟩ [.mk 15 0 ⟨#[]⟩ [i, cst k], .mk 2 0 (elmN a k) [], choE a i (k + 1) m]) := Lib.hid rfl
    have KV : Hid (∀ V, SD w i.op i.n i.nm (.slice p i.args.length cap) V → Calls Tryz.prog 106 #[.string a, .int .i64 k] V fun e w' => e = .returned (xv 2 0 (elmN a k) (.slice none 0 0)) ∧ SD w i.op i.n i.nm (.slice p i.args.length cap) w' ∧ Hid (Below V.heap.size V w')) :=
      Lib.hid fun V h => (elemR_any a k hk8 ha V).mono fun e w' ⟨h1, h2⟩ => ⟨h1, SD.of (h.r.stay h2), Lib.hid h2⟩
    have KC : Hid (∀ V, SD w i.op i.n i.nm (.slice p i.args.length cap) V → Calls Tryz.prog 93 #[.int .i64 k] V fun e w' => e = .returned (xv 1 k ⟨#[]⟩ (.slice none 0 0)) ∧ SD w i.op i.n i.nm (.slice p i.args.length cap) w' ∧ Hid (Below V.heap.size V w')) :=
      Lib.hid fun V h => (constR_any k V).mono fun e w' ⟨h1, h2⟩ => ⟨h1, SD.of (h.r.stay h2), Lib.hid h2⟩
    have KN : Hid (∀ V, SD w i.op i.n i.nm (.slice p i.args.length cap) V → Calls Tryz.prog 138 #[.int .i64 15, xv i.op i.n i.nm (.slice p i.args.length cap), xv 1 k ⟨#[]⟩ (.slice none 0 0)] V fun e w' => ∃ b, e = .returned (xv 15 0 ⟨#[]⟩ (.slice (some ⟨b, 0, none⟩) 2 2)) ∧ SD w i.op i.n i.nm (.slice p i.args.length cap) w' ∧ Hid (ExS (Ft S (w.heap.size + 2) w') w' (xv 15 0 ⟨#[]⟩ (.slice (some ⟨b, 0, none⟩) 2 2)) (.mk 15 0 ⟨#[]⟩ [i, cst k])) ∧ Hid (Below V.heap.size V w')) :=
      Lib.hid fun V h => (nodeR_any 15 i (cst k) _ _ S V (fun b hb => Nat.lt_of_lt_of_le (HSL.out b hb) h.r.lo.size) (HXI.out V h.r.lo) (ExS.leaf (by decide))).mono fun e w' ⟨b, h1, h2, h3⟩ => ⟨b, h1, SD.of (h.r.stay h3), Lib.hid (exs_weak h2 fun b hb => hb.elim .inl fun g => .inr ⟨by have := h.r.rm.lt; omega, g.2⟩), Lib.hid h3⟩
    have KH : Hid (∀ V, SD w i.op i.n i.nm (.slice p i.args.length cap) V → Calls Tryz.prog 107 #[.string a, .int .i64 n, xv i.op i.n i.nm (.slice p i.args.length cap), .int .i64 ((k : Int) + 1)] V fun e w' => ∃ q c, e = .returned (xv (choE a i (k + 1) m).op (choE a i (k + 1) m).n (choE a i (k + 1) m).nm (.slice q (choE a i (k + 1) m).args.length c)) ∧ SD w i.op i.n i.nm (.slice p i.args.length cap) w' ∧ Hid (ExS (Ft S (w.heap.size + 2) w') w' (xv (choE a i (k + 1) m).op (choE a i (k + 1) m).n (choE a i (k + 1) m).nm (.slice q (choE a i (k + 1) m).args.length c)) (choE a i (k + 1) m)) ∧ Hid (Below V.heap.size V w')) :=
      Lib.hid fun V h => (ih (k + 1) _ V (by omega) (fun b hb => Nat.lt_of_lt_of_le (HSL.out b hb) h.r.lo.size) (HXI.out V h.r.lo)).mono fun e w' ⟨v, h1, h2, h3⟩ => by
        obtain ⟨q, c, rfl, _⟩ := h2.form; exact ⟨q, c, h1, SD.of (h.r.stay h3), Lib.hid (exs_weak h2 fun b hb => hb.elim .inl fun g => .inr ⟨by have := h.r.rm.lt; omega, g.2⟩), Lib.hid h3⟩
    have k0 := SD.of (w := w) (RD.mk B0 (Room4.of B1) hb2); have EC : Hid (∀ V V', SD w i.op i.n i.nm (.slice p i.args.length cap) V → Below V.heap.size V V' → SD w i.op i.n i.nm (.slice p i.args.length cap) V') := (Lib.hid fun V V' h hb => SD.of (h.r.stay hb)); have EC2 : Hid (∀ V x0 x1 x2 x3, SD w i.op i.n i.nm (.slice p i.args.length cap) V → SD w i.op i.n i.nm (.slice p i.args.length cap) ((((V.setCell ⟨w.heap.size + 1, 0, none⟩ x0).setCell ⟨w.heap.size + 1, 1, none⟩ x1).setCell ⟨w.heap.size + 1, 2, none⟩ x2).setCell ⟨w.heap.size + 1, 3, none⟩ x3)) := (Lib.hid fun V x0 x1 x2 x3 h => SD.of h.r.put.put.put.put); have k1 := EC.out _ W0.drew k0 (Below.refl _ _).drew; have HB2 := Lib.hid hb2; clear hb1 hbz hb2 B0 B1 hx hs hxi ih hS HXI; generalize choE a i (k + 1) m = C at *
    generalize choE a i k (m + 1) = R at *
    generalize elmN a k = M at *
    generalize i.op = o at *
    generalize i.n = nn at *
    generalize i.nm = s at *
    generalize i.args.length = K at *
    go_enter Tryz.func107, Tryz.ntmps107
    go_wp2_with fail
    clear hW0
    go_region_held3 (fun V => V.cell? ⟨w.heap.size, 0, none⟩ = some (.int .i64 o) ∧ V.cell? ⟨w.heap.size, 1, none⟩ = some (.int .i64 nn) ∧ V.cell? ⟨w.heap.size, 2, none⟩ = some (.string s) ∧ V.cell? ⟨w.heap.size, 3, none⟩ = some (.slice p K cap) ∧ RD w [.int .i64 o, .int .i64 nn, .string s, .slice p K cap] V)
      (first | with_reducible assumption | (refine EC.out _ _ ?_ (ba _ _); with_reducible assumption) | (refine EC.out _ _ (EC2.out _ _ _ _ _ ?_) (ba _ _); with_reducible assumption) | (refine EC2.out _ _ _ _ _ (EC.out _ _ ?_ (ba _ _)); with_reducible assumption) | fail)
      (first
        | (go_at_call 93; (with_reducible refine (KC.out _ ?_).mono ?_); assumption; rintro x w6 ⟨rfl, hg6, hb6⟩)
        | (go_at_call 138; (with_reducible refine (KN.out _ ?_).mono ?_); assumption; rintro x w7 ⟨b7, rfl, hg7, hf7, hb7⟩)
        | (go_at_call 106; (with_reducible refine (KV.out _ ?_).mono ?_); assumption; rintro x w8 ⟨rfl, hg8, hb8⟩)
        | (go_at_call 107; (with_reducible refine (KH.out _ ?_).mono ?_); assumption; rintro x w9 ⟨q9, c9, rfl, hg9, hf9, hb9⟩; have hl9 := hg9.r.rm.lt; obtain ⟨z0, z1, z2, z3, ⟨_, y0⟩, ⟨_, y1⟩, ⟨_, y2⟩, ⟨_, y3⟩⟩ := hg9.r.rm.facts))
    all_goals
      have hb79 := hb8.out.then_ hb9.out; have HP := hg9.r.rm.cells (.int .i64 22) (.int .i64 0) (.string ⟨#[]⟩) (.slice (some ⟨w9.heap.size, 0, none⟩) 3 3); have hl := ((hg9.r.put (i := 0) (x := .int .i64 22)).put (i := 1) (x := .int .i64 0)).put (i := 2) (x := .string ⟨#[]⟩); have hlo := (hl.put (i := 3) (x := .slice (some ⟨w9.heap.size, 0, none⟩) 3 3)).lo; have h7l := hg7.r.lo.size; have h7r := hg7.r.rm.lt; have h8r := hg8.r.rm.lt; have hFt : ∀ b, Ft S (w.heap.size + 2) w9 b → b ≠ w.heap.size + 1 := fun b hb => by
        rcases hb with h | h
        · have := HSL.out b h; omega
        · omega
      have hfh0 := exs_up (S' := Ft S (w.heap.size + 2) w9) hf7.out (fun b hb => by
        rcases hb with h | h
        · have := HSL.out b h; omega
        · exact h.2) hb79 (fun b hb => hb.elim .inl fun g => .inr ⟨g.1, Nat.lt_of_lt_of_le g.2 hb79.size⟩)
      have hfh := exs_put4 (g := w.heap.size + 1) hfh0 hFt (.int .i64 22) (.int .i64 0) (.string ⟨#[]⟩) (.slice (some ⟨w9.heap.size, 0, none⟩) 3 3); have hfc := exs_put4 (g := w.heap.size + 1) hf9.out hFt (.int .i64 22) (.int .i64 0) (.string ⟨#[]⟩) (.slice (some ⟨w9.heap.size, 0, none⟩) 3 3); have hFlt : ∀ b, Ft S (w.heap.size + 2) w9 b → b < w9.heap.size := fun b hb => by
        rcases hb with h | h
        · have := HSL.out b h; omega
        · exact h.2
      have hz : ((((w9.setCell ⟨w.heap.size + 1, 0, none⟩ (.int .i64 22)).setCell ⟨w.heap.size + 1, 1, none⟩ (.int .i64 0)).setCell ⟨w.heap.size + 1, 2, none⟩ (.string ⟨#[]⟩)).setCell ⟨w.heap.size + 1, 3, none⟩ (.slice (some ⟨w9.heap.size, 0, none⟩) 3 3)).heap.size = w9.heap.size := (by simp only [setCell_size]); clear hl; go_wp2; clear KV KH KC KN EC EC2 k0 k1 hg6 hg7 hg8 hg9 hf9 hf7 hb79; obtain ⟨V, hV⟩ : ∃ V, ((((w9.setCell ⟨w.heap.size + 1, 0, none⟩ (.int .i64 22)).setCell ⟨w.heap.size + 1, 1, none⟩ (.int .i64 0)).setCell ⟨w.heap.size + 1, 2, none⟩ (.string ⟨#[]⟩)).setCell ⟨w.heap.size + 1, 3, none⟩ (.slice (some ⟨w9.heap.size, 0, none⟩) 3 3)) = V := ⟨_, rfl⟩; rw [hV] at HP hlo hfh hfc hz ⊢; clear hV; have bx := ba V (.cells #[.int .i64 15, .int .i64 0, .string ⟨#[]⟩, .slice (some ⟨b7, 0, none⟩) 2 2, .int .i64 2, .int .i64 0, .string M, .slice none 0 0, .int .i64 C.op, .int .i64 C.n, .string C.nm, .slice q9 C.args.length c9] 43); have Bx := Blk.at_ hz [.int .i64 15, .int .i64 0, .string ⟨#[]⟩, .slice (some ⟨b7, 0, none⟩) 2 2, .int .i64 2, .int .i64 0, .string M, .slice none 0 0, .int .i64 C.op, .int .i64 C.n, .string C.nm, .slice q9 C.args.length c9] 43; have hup : ∀ b, Ft S (w.heap.size + 2) w9 b → Ft S w.heap.size (V.alloc (.cells #[.int .i64 15, .int .i64 0, .string ⟨#[]⟩, .slice (some ⟨b7, 0, none⟩) 2 2, .int .i64 2, .int .i64 0, .string M, .slice none 0 0, .int .i64 C.op, .int .i64 C.n, .string C.nm, .slice q9 C.args.length c9] 43)) b := (fun b hb => hb.elim .inl fun g => .inr ⟨by omega, by have := bx.size; omega⟩); have hr := three_args (T := Ft S w.heap.size _) (op := 22) (x := .mk 15 0 ⟨#[]⟩ [i, cst k]) (y := .mk 2 0 M []) (z := C) (.inr ⟨by omega, Bx.lt⟩) Bx (exs_up hfh (fun b hb => by rw [hz]; exact hFlt b hb) bx hup) (EV.out _ _) (exs_up hfc (fun b hb => by rw [hz]; exact hFlt b hb) bx hup); have hp := HP.stay bx; have p0 := hp.c 0 _ rfl; have p1 := hp.c 1 _ rfl; have p2 := hp.c 2 _ rfl; have p3 := hp.c 3 _ rfl; rw [EE.out]; exact bodyPost_ret (v := xv 22 0 ⟨#[]⟩ (.slice (some ⟨w9.heap.size, 0, none⟩) 3 3)) (by simp [results, Tryz.results107, go_sem, p0, p1, p2, p3]) rfl ⟨_, rfl, hr, hlo.then_ bx⟩
end Go.Proofs.YtpejflgdehioaaaGreatDoor.ItW
namespace Go.Proofs.YtpejflgdehioaaaGreatDoor.ExW
open Go Go.RowKit Go.«Sort» Go.Proofs.YtpejflgdehioaaaGreatDoor.NumM Go.Proofs.YtpejflgdehioaaaGreatDoor.LexW Go.Proofs.YtpejflgdehioaaaGreatDoor.LexM Go.Proofs.YtpejflgdehioaaaGreatDoor.ExM
theorem ex_valS {S : Nat → Prop} {w : World} {v : Value} {e : Ex} (h : ExS S w v e) : ∃ p cap, v = xv e.op e.n e.nm (.slice p e.args.length cap) ∧ e.nm.size ≤ 140737488351232 := by
  obtain ⟨p, cap, h1, h2, _⟩ := h.form; exact ⟨p, cap, h1, h2⟩
theorem take_mapS {ks : List Ex} {k : Nat} {a : Ex} (f : Ex → Ex) (h : ks[k]? = some a) : (ks.take (k + 1)).map f = (ks.take k).map f ++ [f a] := by
  obtain ⟨hk, he⟩ := List.getElem?_eq_some_iff.1 h; rw [List.take_succ_eq_append_getElem hk, List.map_append, he]; rfl
theorem su_round {N lo G g7 k7 base : Nat} {w wr w5 w7 : World} {C : Obj} {va : Value} {xs : List Ex} {x : Ex} {p5 : Option Addr} {k5 : Nat} {pl : Nat → Option Addr} {cl : Nat → Nat} {o n : Int} {s : ByteArray}
    (KD : KidsP N lo none wr va xs pl cl) (FO : Four wr G (.int .i64 o) (.int .i64 n) (.string s) va) (BW : Below base w wr) (hbase : base ≤ G) (hN : N ≤ G) (hG : G < lo) (hl : lo ≤ wr.heap.size) (hb : Below wr.heap.size wr w5)
    (hf : ExS (Foot N wr.heap.size w5) w5 (xv x.op x.n x.nm (.slice p5 x.args.length k5)) x) 
    (hown7 : w7.ownsRow lo 43 4 (.slice (some ⟨g7, 0, none⟩) (xs.length + 1) k7) (xs.length + 1) (exCells pl cl 0 xs ++ [.int .i64 x.op, .int .i64 x.n, .string x.nm, .slice p5 x.args.length k5])) (hg7 : (w5.alloc C).grownBy w7 va.ownBlock) (hat7 : va.ownBlock = some g7 ∨ g7 = (w5.alloc C).heap.size) :
    (∃ pl2 cl2, KidsP N lo none (w7.setCell ⟨G, 3, none⟩ (.slice (some ⟨g7, 0, none⟩) (xs.length + 1) k7)) (.slice (some ⟨g7, 0, none⟩) (xs.length + 1) k7) (xs ++ [x]) pl2 cl2) ∧
      Four (w7.setCell ⟨G, 3, none⟩ (.slice (some ⟨g7, 0, none⟩) (xs.length + 1) k7)) G (.int .i64 o) (.int .i64 n) (.string s) (.slice (some ⟨g7, 0, none⟩) (xs.length + 1) k7) ∧
      Below base w (w7.setCell ⟨G, 3, none⟩ (.slice (some ⟨g7, 0, none⟩) (xs.length + 1) k7)) ∧
      (∀ b x0 x1 x2 x3, b < G → Four wr b x0 x1 x2 x3 → Four (w7.setCell ⟨G, 3, none⟩ (.slice (some ⟨g7, 0, none⟩) (xs.length + 1) k7)) b x0 x1 x2 x3) := by
  have hbC : Below w5.heap.size w5 (w5.alloc C) := (Below.refl _ _).alloc (Nat.le_refl _) _; have hva := (fun b e => own_lt KD.row b e); have s5 := hb.size; have sO := FO.lt; have sC := hbC.size; have s7 := hg7.size; have hb6 := hb.then_ hbC; have K6 := KD.later (by omega) hb6; have kid2 : ExS (fun b => Foot N lo (w5.alloc C) b ∧ va.ownBlock ≠ some b ∧ (none : Option Nat) ≠ some b) (w5.alloc C) (xv x.op x.n x.nm (.slice p5 x.args.length k5)) x := by
    refine hf.grown (grown_of_below hbC) (fun b q => ?_); rcases q with q | q
    · exact ⟨⟨.inl q, fun e => by have := (hva b e).1; omega, by simp⟩, by omega, by simp⟩
    · exact ⟨⟨.inr ⟨by omega, by omega⟩, fun e => by have := (hva b e).2.1; omega, by simp⟩, q.2, by simp⟩
  obtain ⟨pl3, cl3, K7⟩ := K6.snoc (by omega) (by omega) kid2 hown7 hg7 hat7; refine ⟨⟨pl3, cl3, K7.turn (row := some G) (by omega) (grownBy_set _ _ _ _) (fun b e e2 => ?_) (fun b e => .inr ⟨by cases e; exact hN, by cases e; exact hG⟩) (fun b e => by cases e)⟩, ?_, ?_, ?_⟩
  · cases e2; have := own_lt hown7 G e; omega
  · exact (four_grown (FO.stay hb6) hg7 (fun e => by have := (hva _ e.symm).1; omega)).set3 _
  · refine Below.setCell (p := ⟨G, 3, none⟩) ?_ hbase _; exact Below.grown (w := w5.alloc C) (BW.trans (hb6.mono (by omega))) hg7 (by omega) (fun k e => by have := (hva k e).1; omega)
  · intro b x0 x1 x2 x3 hbG h; exact (four_grown (h.stay hb6) hg7 (fun e => by have := (hva _ e.symm).1; omega)).far (by omega)
end Go.Proofs.YtpejflgdehioaaaGreatDoor.ExW
