/-
  Laws that the card uses; no conditions beside those that each states (ExMath ExNames ExKids ItNames ItRWt).
-/
import Derived.Test.YtpejflgdehioaaaGreatDoorQ19
import Derived.Test.YtpejflgdehioaaaGreatDoorQ20
import Derived.Test.YtpejflgdehioaaaGreatDoorQ25
namespace Go.Proofs.YtpejflgdehioaaaGreatDoor.ExM
open Go Go.Proofs.YtpejflgdehioaaaGreatDoor.WordM Go.Proofs.YtpejflgdehioaaaGreatDoor.LexM
theorem dep_mem {ks : List Ex} {a : Ex} (h : a ∈ ks) : dep a ≤ deps ks := by
  induction ks with
  | nil => cases h
  | cons b r ih =>
    rw [deps_cons]; rcases List.mem_cons.1 h with rfl | h
    · omega
    · have := ih h; omega
theorem names_mem_fold (p : Int → Bool) (s : ByteArray) (L : List In) : ∀ l, s ∈ L.foldl (stepN p) l ↔ s ∈ l ∨ ∃ x ∈ L, p x.op = true ∧ x.nm = s := by
  induction L with
  | nil => intro l; simp
  | cons y r ih =>
    intro l; rw [List.foldl_cons, ih]; have : s ∈ stepN p l y ↔ s ∈ l ∨ (p y.op = true ∧ y.nm = s) := by
      unfold stepN addN; by_cases h : p y.op = true
      · rw [if_pos h]; by_cases g : y.nm ∈ l
        · rw [if_pos g]; constructor
          · exact .inl
          · rintro (a | ⟨_, rfl⟩)
            · exact a
            · exact g
        · rw [if_neg g, List.mem_append, List.mem_singleton]; constructor
          · rintro (a | rfl)
            · exact .inl a
            · exact .inr ⟨h, rfl⟩
          · rintro (a | ⟨_, rfl⟩)
            · exact .inl a
            · exact .inr rfl
      · rw [if_neg h]; constructor
        · exact .inl
        · rintro (a | ⟨b, _⟩)
          · exact a
          · exact absurd b h
    rw [this]; constructor
    · rintro ((a | b) | ⟨x, hx, c⟩)
      · exact .inl a
      · exact .inr ⟨y, by simp, b⟩
      · exact .inr ⟨x, by simp [hx], c⟩
    · rintro (a | ⟨x, hx, c⟩)
      · exact .inl (.inl a)
      · rcases List.mem_cons.1 hx with rfl | hx
        · exact .inl (.inr c)
        · exact .inr ⟨x, hx, c⟩
end Go.Proofs.YtpejflgdehioaaaGreatDoor.ExM
namespace Go.Proofs.YtpejflgdehioaaaGreatDoor.ExW
open Go Go.RowKit Go.Shelf Go.Proofs.YtpejflgdehioaaaGreatDoor.NumM Go.Proofs.YtpejflgdehioaaaGreatDoor.LexW Go.Proofs.YtpejflgdehioaaaGreatDoor.LexM Go.Proofs.YtpejflgdehioaaaGreatDoor.ExM
attribute [local go_sem] Oper.semAt_some
theorem nmD_snoc (l : List ByteArray) (s : ByteArray) : nmD (l ++ [s]) = (nmD l).put (.string s.data.toList) (.lit (.bool true)) := by
  unfold nmD; rw [List.foldl_append]; rfl
end Go.Proofs.YtpejflgdehioaaaGreatDoor.ExW
namespace Go.Proofs.YtpejflgdehioaaaGreatDoor.ExW
open Go Go.RowKit Go.Proofs.YtpejflgdehioaaaGreatDoor.NumM Go.Proofs.YtpejflgdehioaaaGreatDoor.LexW Go.Proofs.YtpejflgdehioaaaGreatDoor.LexM Go.Proofs.YtpejflgdehioaaaGreatDoor.ExM
theorem ExS.weak {S S' : Nat → Prop} {w : World} {v : Value} {e : Ex} (h : ExS S w v e) (hS : ∀ b, S b → S' b) : ExS S' w v e := h.kept hS (fun _ _ _ _ hv => hv)
theorem exCells_congr {pl pl' : Nat → Option Addr} {cl cl' : Nat → Nat} : ∀ (ks : List Ex) (j : Nat), (∀ i, j ≤ i → i < j + ks.length → pl i = pl' i ∧ cl i = cl' i) → exCells pl cl j ks = exCells pl' cl' j ks
  | [], _, _ => rfl
  | a :: r, j, h => by
    obtain ⟨h1, h2⟩ := h j (Nat.le_refl _) (by simp); rw [exCells, exCells, h1, h2, exCells_congr r (j + 1) (fun i hi hl => h i (by omega) (by simp only [List.length_cons]; omega))]
theorem exCells_snoc (pl : Nat → Option Addr) (cl : Nat → Nat) (a : Ex) : ∀ (ks : List Ex) (j : Nat), exCells pl cl j (ks ++ [a]) = exCells pl cl j ks ++ [.int .i64 a.op, .int .i64 a.n, .string a.nm, .slice (pl (j + ks.length)) a.args.length (cl (j + ks.length))]
  | [], j => by simp [exCells]
  | b :: r, j => by
    rw [List.cons_append, exCells, exCells_snoc pl cl a r (j + 1), exCells, List.append_assoc, List.length_cons]; rw [show j + 1 + r.length = j + (r.length + 1) by omega]
theorem KidsP.snoc {N lo : Nat} {X : Option Nat} {W W1 : World} {va : Value} {xs : List Ex} {pl : Nat → Option Addr} {cl : Nat → Nat} {a : Ex} {p : Option Addr} {c g cap : Nat} (h : KidsP N lo X W va xs pl cl) (hN : N ≤ lo) (hlo : lo ≤ W.heap.size)
    (hf : ExS (fun b => Foot N lo W b ∧ va.ownBlock ≠ some b ∧ X ≠ some b) W (xv a.op a.n a.nm (.slice p a.args.length c)) a)
    (hown : W1.ownsRow lo 43 4 (.slice (some ⟨g, 0, none⟩) (xs.length + 1) cap) (xs.length + 1) (exCells pl cl 0 xs ++ [.int .i64 a.op, .int .i64 a.n, .string a.nm, .slice p a.args.length c])) (hgr : W.grownBy W1 va.ownBlock) (hat : va.ownBlock = some g ∨ g = W.heap.size) :
    ∃ pl' cl', KidsP N lo X W1 (.slice (some ⟨g, 0, none⟩) (xs.length + 1) cap) (xs ++ [a]) pl' cl' := by
  refine ⟨fun i => if i < xs.length then pl i else p, fun i => if i < xs.length then cl i else c, ?_, fun i x hi => ?_⟩
  · rw [List.length_append, exCells_snoc, exCells_congr (pl' := pl) (cl' := cl) xs 0 (fun i _ hi => by rw [if_pos (by omega), if_pos (by omega)]; exact ⟨rfl, rfl⟩)]; rw [if_neg (by omega), if_neg (by omega)]; exact hown
  · have fit : ∀ b, Foot N lo W b ∧ va.ownBlock ≠ some b ∧ X ≠ some b → (Foot N lo W1 b ∧ (Value.slice (some ⟨g, 0, none⟩) (xs.length + 1) cap).ownBlock ≠ some b ∧ X ≠ some b) ∧ b < W.heap.size ∧ va.ownBlock ≠ some b := by
      rintro b ⟨k1, k2, k3⟩; have hlt : b < W.heap.size := k1.elim (fun q => by omega) (fun q => q.2); refine ⟨⟨k1.up (Nat.le_refl _) hgr.size, fun e => ?_, k3⟩, hlt, k2⟩; obtain rfl : g = b := (by simpa [Value.ownBlock] using e); rcases hat with e2 | e2
      · exact k2 e2
      · omega
    rcases Nat.lt_or_ge i xs.length with hlt | hge
    · rw [List.getElem?_append_left hlt] at hi; simp only [if_pos hlt]; exact (h.kid i x hi).grown hgr fit
    · rw [List.getElem?_append_right hge] at hi; have hil : i - xs.length < 1 := by
        have := (List.getElem?_eq_some_iff.1 hi).1
        simpa using this
      have h0 : i - xs.length = 0 := (by omega); rw [h0] at hi; obtain rfl : a = x := (by simpa using hi); simp only [if_neg (show ¬ i < xs.length by omega)]; exact hf.grown hgr fit
theorem KidsP.done {N lo lo' : Nat} {X : Option Nat} {W : World} {va : Value} {xs : List Ex} {pl : Nat → Option Addr} {cl : Nat → Nat} {o n : Int} {s : ByteArray} (h : KidsP N lo X W va xs pl cl) (hs : s.size ≤ 140737488351232) (hk : xs.length ≤ 100000) (hlo : lo' ≤ lo) : ExS (Foot N lo' W) W (xv o n s va) (.mk o n s xs) := by
  obtain ⟨hrow, hkid⟩ := h; rcases hrow.2 with ⟨hv, hn⟩ | ⟨g, cap, cur, hv, hB, hg, hle, _, _, htake⟩
  · have : xs = [] := List.length_eq_zero_iff.1 hn; subst this; rw [hv]; exact ExS.leaf hs
  · rw [hv]; refine ExS.mk pl cl hs (by omega) hle (fun _ => ⟨g, 0, rfl, .inr ⟨by omega, (Array.getElem?_eq_some_iff.1 hg).1⟩, fun i a hi => ?_⟩) (fun i a hi => (hkid i a hi).weak (fun b hb => hb.1.up hlo (Nat.le_refl _))); have hil := (List.getElem?_eq_some_iff.1 hi).1; have rd : ∀ r, r < 4 → W.cell? ⟨g, i * 4 + r, none⟩ = some (cellR a (pl i) (cl i) r) := fun r hr => by
      rw [cell_of_row W g _ cur 43 (0, 0) hg]; have q := exCells_at pl cl xs 0 i r a hi hr; rw [Nat.zero_add] at q; rw [← q, ← htake, List.getElem?_take, if_pos (by omega)]; simp
    rw [Nat.zero_add]; exact ⟨rd 0 (by omega), rd 1 (by omega), rd 2 (by omega), rd 3 (by omega)⟩
end Go.Proofs.YtpejflgdehioaaaGreatDoor.ExW
namespace Go.Proofs.YtpejflgdehioaaaGreatDoor.ItW
open Go Go.RowKit Go.Shelf Go.Proofs.YtpejflgdehioaaaGreatDoor.LexW Go.Proofs.YtpejflgdehioaaaGreatDoor.LexM Go.Proofs.YtpejflgdehioaaaGreatDoor.ExM Go.Proofs.YtpejflgdehioaaaGreatDoor.ExW Go.Proofs.YtpejflgdehioaaaGreatDoor.ItM
open Go.Proofs.YtpejflgdehioaaaGreatDoor.ClM (Fld firstE firstE_zero)
attribute [local go_sem] Oper.semAt_some
theorem SetM.put {W : World} {mb : Nat} {l : List ByteArray} (h : SetM W mb l) (hn : l.length ≤ 1000000000) (t : ByteArray) (ht : t.size ≤ 140737488351232) : ∃ W', (Instr.mapUpdate 67 (.map (some mb)) (.string t) (.bool true)).run Tryz.prog W = .ok () W' ∧ SetM W' mb (l ++ [t]) ∧ W.grownBy W' (some mb) := by
  obtain ⟨W', hr, ho, hg⟩ := World.ownsMap.update h (Maps.string_keyed Tryz.underlying9) Tryz.underlying67 (Nat.lt_of_le_of_lt hn (by decide)) (Go.WideMaps.keyOf_string_mk Tryz.underlying9 (Nat.le_trans ht (by decide))) (plainElem_bool Tryz.underlying4 true); refine ⟨W', hr, ?_, hg⟩; unfold SetM; rw [nmD_snoc, List.length_append]; exact ho
end Go.Proofs.YtpejflgdehioaaaGreatDoor.ItW
namespace Go.Proofs.YtpejflgdehioaaaGreatDoor.ItM
open Go Go.Proofs.YtpejflgdehioaaaGreatDoor.WordM Go.Proofs.YtpejflgdehioaaaGreatDoor.LexM Go.Proofs.YtpejflgdehioaaaGreatDoor.ExM
open Go.Proofs.YtpejflgdehioaaaGreatDoor.ClM (Fld)
theorem wt_mk (fs : List Fld) (o n : Int) (s : ByteArray) (ks : List Ex) : wt fs (.mk o n s ks) = if o = 24 then 2 * (szI fs s).toNat - 1 else if o = 3 then (if (hdE ks).op = 1 then 1 else (szI fs s).toNat * (wts fs ks + 4) + 1) else wts fs ks + 1 := by rw [wt]
theorem wts_nil (fs : List Fld) : wts fs [] = 0 := by rw [wts]
theorem wts_cons (fs : List Fld) (a : Ex) (r : List Ex) : wts fs (a :: r) = wt fs a + wts fs r := by rw [wts]
theorem wts_append (fs : List Fld) (a b : List Ex) : wts fs (a ++ b) = wts fs a + wts fs b := by
  induction a with
  | nil => simp [wts_nil]
  | cons x r ih => rw [List.cons_append, wts_cons, wts_cons, ih]; omega
theorem wts_take {fs : List Fld} {k : Nat} {l : List Ex} {a : Ex} (h : l[k]? = some a) : wts fs (l.take (k + 1)) = wts fs (l.take k) + wt fs a := by
  obtain ⟨hk, he⟩ := List.getElem?_eq_some_iff.1 h; rw [List.take_succ_eq_append_getElem hk, wts_append, he, wts_cons, wts_nil]; omega
theorem wts_take_le (fs : List Fld) (k : Nat) (l : List Ex) : wts fs (l.take k) ≤ wts fs l := by
  have := wts_append fs (l.take k) (l.drop k); rw [List.take_append_drop] at this; omega
theorem wt_fin (z t u : Nat) (hz : 1 ≤ z) (h : min t 100000 = min u 100000) : min (z * (t + 4) + 1) 100000 = min (z * (u + 4) + 1) 100000 := by
  by_cases ht : t < 100000
  · obtain rfl : t = u := (by omega); rfl
  · have h1 : 1 * (t + 4) ≤ z * (t + 4) := Nat.mul_le_mul_right _ hz; have h2 : 1 * (u + 4) ≤ z * (u + 4) := Nat.mul_le_mul_right _ hz; omega
end Go.Proofs.YtpejflgdehioaaaGreatDoor.ItM
namespace Go.Proofs.YtpejflgdehioaaaGreatDoor.ItW
open Go Go.RowKit Go.Proofs.YtpejflgdehioaaaGreatDoor.NumM Go.Proofs.YtpejflgdehioaaaGreatDoor.LexW Go.Proofs.YtpejflgdehioaaaGreatDoor.LexM Go.Proofs.YtpejflgdehioaaaGreatDoor.ExM Go.Proofs.YtpejflgdehioaaaGreatDoor.ExW Go.Proofs.YtpejflgdehioaaaGreatDoor.ItM
open Go.Proofs.YtpejflgdehioaaaGreatDoor.ClM (Fld)
set_option maxRecDepth 100000 in
set_option maxHeartbeats 16000000 in
theorem weightR_any (fs : List Fld) (hS : ∀ f ∈ fs, 0 ≤ f.sz ∧ f.sz ≤ 8) (e : Ex) : ∀ (v cv : Value) (N : Nat) (w : World), GE fs e → sz e ≤ 10000 → ExAt N w v e → ClA N w cv fs → N ≤ w.heap.size →
    Calls Tryz.prog 59 #[v, cv] w (tInt ((min (wt fs e) 100000 : Nat) : Int) w) := by
  induction e using Ex.ind with
  | h o n s ks ih =>
    intro v cv N w hg hsz hx hc hN; have h8 := szI_le fs hS s; have hz1 : isAr o = true → 1 ≤ szI fs s := (fun h => by have := (hg.arr h).2; omega); have hk1 : o = 3 → ks.length = 1 := (fun h => by subst h; exact takes3 (flt_facts hg.top.1).1); obtain ⟨p, cap, pl, cl, rfl, hs, ha⟩ := hx.form; simp only [Ex.op, Ex.n, Ex.nm, Ex.args] at hs ha ⊢; have FC : Hid (∀ W, Below w.heap.size w W → Calls Tryz.prog 91 #[cv, .string s] W (tFld fs s W)) := (Lib.hid fun W hW => fieldR_any fs cv s N W (hc.under (hW.mono hN)) (by have := hW.size; omega)); have HC := Lib.hid hc; have HAA := Lib.hid ha; have HG := Lib.hid hg; have HIH := Lib.hid ih; have hlk := len_szs ks; rw [sz_mk] at hsz; obtain ⟨cnm, par, vf, pb, kb, cb, rfl, pf, cf, rfl, _⟩ := hc; obtain ⟨K, hK⟩ : ∃ K, ks.length = K := ⟨_, rfl⟩; obtain ⟨KF, hKF⟩ : ∃ K, fs.length = K := ⟨_, rfl⟩; have HK := Lib.hid hK; have HKF := Lib.hid hKF; rw [hK] at hlk hk1 ⊢; rw [hKF] at FC ⊢; have hk47 : K ≤ 10000 := (by omega); have B3 := (Blk.new w [.int .i64 o, .int .i64 n, .string s, .slice p K cap] 43).stay (ba _ (.cells #[.string cnm, .string par, .slice pf KF cf, .slice pb kb cb] 34)); have B4 := Blk.new (w.alloc (.cells #[.int .i64 o, .int .i64 n, .string s, .slice p K cap] 43)) [.string cnm, .string par, .slice pf KF cf, .slice pb kb cb] 34; have hb2 := (ba w (.cells #[.int .i64 o, .int .i64 n, .string s, .slice p K cap] 43)).then_ (ba _ (.cells #[.string cnm, .string par, .slice pf KF cf, .slice pb kb cb] 34)); rw [World.size_alloc] at B4; simp only [List.toArray] at B3 B4 hb2; obtain ⟨W0, hW0⟩ : ∃ W0, (w.alloc (.cells #[.int .i64 o, .int .i64 n, .string s, .slice p K cap] 43)).alloc (.cells #[.string cnm, .string par, .slice pf KF cf, .slice pb kb cb] 34) = W0 := ⟨_, rfl⟩; rw [hW0] at B3 B4 hb2; have HB := Lib.hid hb2; have H3 := Lib.hid B3; have H4 := Lib.hid B4; have d0 := B3.c 0 _ rfl; have d1 := B3.c 1 _ rfl; have d2 := B3.c 2 _ rfl; have d3 := B3.c 3 _ rfl; have a0 := B4.c 0 _ rfl; have a1 := B4.c 1 _ rfl; have a2 := B4.c 2 _ rfl; have a3 := B4.c 3 _ rfl; have WE : Hid (wt fs (.mk o n s ks) = if o = 24 then 2 * (szI fs s).toNat - 1 else if o = 3 then (if (hdE ks).op = 1 then 1 else (szI fs s).toNat * (wts fs ks + 4) + 1) else wts fs ks + 1) := Lib.hid (wt_mk fs o n s ks); obtain ⟨z, hz⟩ : ∃ z : Nat, szI fs s = z := ⟨(szI fs s).toNat, by omega⟩; have FC2 : Hid (∀ W, Below w.heap.size w W → Calls Tryz.prog 91 #[.agg #[.string cnm, .string par, .slice pf KF cf, .slice pb kb cb], .string s] W fun e w' => ∃ u, e = .returned (.tuple #[.int .i64 z, .bool u]) ∧ Below W.heap.size W w') := (Lib.hid fun W hW => (FC.out W hW).mono fun e w' h => ⟨_, by rw [← hz]; exact h.1, h.2⟩); rw [hz] at WE h8 hz1; generalize wt fs (.mk o n s ks) = R at *
    clear FC hz B3 B4 hb2 hK hKF hx ha hg ih hs; by_cases h24 : o = 24
    · have hzz := hz1 (by rw [h24]; rfl); have e24 : (o == 24) = true := (by rw [h24]; rfl); have EE : Hid (((min R 100000 : Nat) : Int) = 2 * (z : Int) - 1) := Lib.hid (by rw [WE.out, if_pos h24]; omega); clear h24 WE hk1 hz1
      go_enter Tryz.func59, Tryz.ntmps59
      go_wp2_with (first
        | (go_at_call 91; ((with_reducible refine (FC2.out _ HB.out).mono ?_); rintro e w1 ⟨u1, rfl, hb⟩; have HB1 := Lib.hid (HB.out.then_ hb); have F3 := H3.out.stay hb; (try clear d0 d1 d2 d3 a0 a1 a2 a3); have d0 := F3.c 0 _ rfl; clear F3 hb)))
      go_ret; exact tInt_mk EE.out HB1.out
    · have e24 : (o == 24) = false := by rw [beq_eq_false_iff_ne]; exact h24
      go_enter Tryz.func59, Tryz.ntmps59
      go_wp2_with (first
        | (go_at_call 91; ((with_reducible refine (FC2.out _ HB.out).mono ?_); rintro e w1 ⟨u1, rfl, hb⟩; have HB1 := Lib.hid (HB.out.then_ hb); have F3 := H3.out.stay hb; have F4 := H4.out.stay hb; (try clear d0 d1 d2 d3 a0 a1 a2 a3); have d0 := F3.c 0 _ rfl; have HF3 := Lib.hid F3; have HF4 := Lib.hid F4; clear F3 F4 hb)))
      clear d0 hW0; go_loopw [7, 8] (fun t i wr => ∃ (j u : Nat), j ≤ K ∧ i = .int .i64 j ∧ t = .int .i64 u ∧ u ≤ 200000 ∧ Hid (min u 100000 = min (wts fs (ks.take j)) 100000) ∧ Hid (Below w.heap.size w wr) ∧ Hid (Blk wr w.heap.size [.int .i64 o, .int .i64 n, .string s, .slice p K cap]) ∧ Hid (Blk wr (w.heap.size + 1) [.string cnm, .string par, .slice pf KF cf, .slice pb kb cb])) (fun _ i _ => K - (intOf i).toNat)
      case atStart => exact ⟨0, 0, Nat.zero_le _, rfl, rfl, by decide, Lib.hid (by rw [List.take_zero, wts_nil]), HB1, HF3, HF4⟩
      case round =>
        obtain ⟨j, u, hj, rfl, rfl, hu, TW, BW, CW3, CW4⟩ := hrel; have d0 := CW3.out.c 0 _ rfl; have d3 := CW3.out.c 3 _ rfl; by_cases hgo : j < K ∧ u < 100000
        · obtain ⟨hlt, hu5⟩ := hgo; have q5 : decide ((u : Int) < 100000) = true := decide_eq_true (by omega); obtain ⟨a, haj⟩ : ∃ a, ks[j]? = some a := ⟨_, List.getElem?_eq_getElem (by rw [HK.out]; exact hlt)⟩; have hmem := List.mem_of_getElem? haj; obtain ⟨b, off, rfl, hbN, hcell⟩ := HAA.out.hp (by rw [HK.out]; omega); have hlow := (fun o => low_cells (BW.out.mono hN) b o hbN); obtain ⟨q0, q1, q2, q3⟩ := hcell j a haj; have c0 := hlow _ _ q0; have c1 := hlow _ _ q1; have c2 := hlow _ _ q2; have c3 := hlow _ _ q3; have k0 := CW4.out.c 0 _ rfl; have k1 := CW4.out.c 1 _ rfl; have k2 := CW4.out.c 2 _ rfl; have k3 := CW4.out.c 3 _ rfl; have hsa := sz_mem hmem; have TT := Lib.hid (wts_take (fs := fs) haj); have IC : Hid (∀ W, Below wr.heap.size wr W → Calls Tryz.prog 59 #[xv a.op a.n a.nm (.slice (pl j) a.args.length (cl j)), .agg #[.string cnm, .string par, .slice pf KF cf, .slice pb kb cb]] W (tInt ((min (wt fs a) 100000 : Nat) : Int) W)) := Lib.hid fun W hW => by
            have hWw := (BW.out.then_ hW).mono hN; have hcc := HC.out.under hWw; rw [HKF.out] at hcc; exact HIH.out a hmem _ _ N W (HG.out.kid hmem) (by omega) ((HAA.out.hx j a haj).under hWw) hcc (Nat.le_trans (Nat.le_trans hN BW.out.size) hW.size)
          have hwm : min (wt fs a) 100000 ≤ 100000 := (by omega); have TN : Hid (min (u + min (wt fs a) 100000) 100000 = min (wts fs (ks.take (j + 1))) 100000) := Lib.hid (by have := TW.out; rw [TT.out]; omega); have hnx : u + min (wt fs a) 100000 ≤ 200000 := (by omega); have hwrp : IntKind.i64.wrap ((u : Int) + ((min (wt fs a) 100000 : Nat) : Int)) = ((u + min (wt fs a) 100000 : Nat) : Int) := (by rw [IntWalk.i64_in _ (by omega)]; omega); clear hcell hlow q0 q1 q2 q3 haj hmem hsa TT; generalize min (wt fs a) 100000 = g at *
          have r0 := cell_regrown c0; have r1 := cell_regrown c1; have r2 := cell_regrown c2; have r3 := cell_regrown c3; have s0 := cell_regrown k0; have s1 := cell_regrown k1; have s2 := cell_regrown k2; have s3 := cell_regrown k3; have t3 := cell_regrown d3; have X1 := reB (v := .int .i64 g) (fun W hW => IC.out W hW); go_wp2; refine wp_region_quiet_below (by kernel_rfl) (by kernel_rfl) ?_; repeat (first | go_big_quiet_step ((go_at_call 59; with_reducible exact X1 _ _)) | quiet_step ((go_at_call 59; with_reducible exact X1 _ _)))
          refine wpQuiet_nil ?_; intro w4 hw'; obtain ⟨pq, hw''⟩ := hw'; have HB24 : Hid (Below wr.heap.size wr w4) := Lib.hid (by rw [hw'']; exact below_regrown _ _ _); clear hw'' X1 r0 r1 r2 r3 s0 s1 s2 s3 t3 c0 c1 c2 c3 k0 k1 k2 k3 d0 d3; go_wp2; go_roundw
          case rel => exact ⟨j + 1, u + g, by omega, by go_num, by first | rfl | go_num, hnx, TN, Lib.hid (BW.out.then_ HB24.out), Lib.hid (CW3.out.stay HB24.out), Lib.hid (CW4.out.stay HB24.out)⟩
          case measure => simp [intOf]; omega
        · have TE : Hid (min u 100000 = min (wts fs ks) 100000) := Lib.hid (by
            have h1 := TW.out; by_cases hjK : j < K
            · have := wts_take_le fs j ks; omega
            · rw [List.take_of_length_le (by rw [HK.out]; omega)] at h1; exact h1)
          have g5 : (decide ((j : Int) < (K : Int)) && decide ((u : Int) < 100000)) = false := by
            rw [Bool.and_eq_false_iff]; by_cases hjK : j < K
            · exact .inr (decide_eq_false (by omega))
            · exact .inl (decide_eq_false (by omega))
          have gg : (¬ j < K) ∨ (j < K ∧ decide ((u : Int) < 100000) = false) := by
            by_cases hjK : j < K
            · exact .inr ⟨hjK, decide_eq_false (by omega)⟩
            · exact .inl hjK
          have hui : (u : Int) ≤ 200000 := (by omega); have hbr : 100000 ≤ u ∨ decide ((j : Int) < (K : Int)) = false := by
            by_cases hjK : j < K
            · exact .inl (by omega)
            · exact .inr (decide_eq_false (by omega))
          have HU := Lib.hid hu; clear hgo g5 hu; by_cases h3 : o = 3
          · have hK1 := hk1 h3; have hzz := hz1 (by rw [h3]; rfl); have e3 : (o == 3) = true := (by rw [h3]; rfl); obtain ⟨a, haj⟩ : ∃ a, ks[0]? = some a := ⟨_, List.getElem?_eq_getElem (by rw [HK.out, hK1]; decide)⟩; obtain ⟨b, off, rfl, hbN, hcell⟩ := HAA.out.hp (by rw [HK.out, hK1]; decide); have hlow := (fun o => low_cells (BW.out.mono hN) b o hbN); have c0 := hlow _ _ (hcell 0 a haj).1; rw [Nat.zero_mul, Nat.add_zero] at c0; have hhd : hdE ks = a := by
              cases ks with
              | nil => simp at haj
              | cons x r => simpa [hdE] using haj
            have h4 : o ≠ 24 := h24; have EV : Hid (R = if a.op = 1 then 1 else z * (wts fs ks + 4) + 1) := Lib.hid (by rw [WE.out, if_neg h4, if_pos h3, hhd]; rfl); have h0K : 0 < K := (by omega); clear hcell hlow haj hhd WE h3 hk1 hz1 hK1; generalize a.op = ao at *
            by_cases h1 : ao = 1
            · have f1 : (ao == 1) = true := (by rw [h1]; rfl); have EE : Hid (((min R 100000 : Nat) : Int) = 1) := Lib.hid (by rw [EV.out, if_pos h1]; rfl); clear EV TE hbr h1; rcases gg with gg | ⟨hjK, gg⟩
              · go_wp2; go_ret; exact tInt_mk EE.out BW.out
              · go_wp2; go_ret; exact tInt_mk EE.out BW.out
            · have f1 : (ao == 1) = false := (by rw [beq_eq_false_iff_ne]; exact h1); have EF := wt_fin z u (wts fs ks) (by omega) TE.out; have hzu : ((z * (u + 4) : Nat) : Int) ≤ 1600032 := (by have := Nat.mul_le_mul (show z ≤ 8 by omega) (show u + 4 ≤ 200004 by have := HU.out; omega); omega); have hcast : (z : Int) * ((u : Int) + 4) = ((z * (u + 4) : Nat) : Int) := (by push_cast; rfl); have EE : Hid (((min R 100000 : Nat) : Int) = if ((z * (u + 4) : Nat) : Int) + 1 ≤ 100000 then ((z * (u + 4) : Nat) : Int) + 1 else 100000) := Lib.hid (by rw [EV.out, if_neg h1, ← EF]; split <;> omega); clear EV EF TE hbr; generalize z * (u + 4) = m at *
              by_cases hm : (m : Int) + 1 ≤ 100000
              · rw [if_pos hm] at EE; rcases gg with gg | ⟨hjK, gg⟩
                · go_wp2; go_ret; exact tInt_mk (by rw [EE.out]; first | omega | (split <;> omega)) BW.out
                · go_wp2; go_ret; exact tInt_mk (by rw [EE.out]; first | omega | (split <;> omega)) BW.out
              · rw [if_neg hm] at EE; rcases gg with gg | ⟨hjK, gg⟩
                · go_wp2; go_ret; exact tInt_mk (by rw [EE.out]; first | omega | (split <;> omega)) BW.out
                · go_wp2; go_ret; exact tInt_mk (by rw [EE.out]; first | omega | (split <;> omega)) BW.out
          · have e3 : (o == 3) = false := (by rw [beq_eq_false_iff_ne]; exact h3); have EE : Hid (((min R 100000 : Nat) : Int) = if (u : Int) + 1 ≤ 100000 then (u : Int) + 1 else 100000) := Lib.hid (by rw [WE.out, if_neg h24, if_neg h3]; have := TE.out; split <;> omega); clear WE h3 hk1 hz1; by_cases hm : (u : Int) + 1 ≤ 100000
            · rw [if_pos hm] at EE; rcases gg with gg | ⟨hjK, gg⟩
              · clear hbr; go_wp2; go_ret; exact tInt_mk (by rw [EE.out]; first | omega | (split <;> omega)) BW.out
              · exfalso; rcases hbr with h | h
                · omega
                · have := of_decide_eq_false h; omega
            · rw [if_neg hm] at EE; clear hbr; rcases gg with gg | ⟨hjK, gg⟩
              · go_wp2; go_ret; exact tInt_mk (by rw [EE.out]; first | omega | (split <;> omega)) BW.out
              · go_wp2; go_ret; exact tInt_mk (by rw [EE.out]; first | omega | (split <;> omega)) BW.out
end Go.Proofs.YtpejflgdehioaaaGreatDoor.ItW
