/-
  Laws that the card uses; no conditions beside those that each states (ExSigO ClLaid ExLaid ItKeepM ItSm2 ItEnv ItInts).
-/
import Derived.Test.YtpejflgdehioaaaGreatDoorQ30
import Derived.Test.YtpejflgdehioaaaGreatDoorQ36
namespace Go.Proofs.YtpejflgdehioaaaGreatDoor.ExW
open Go Go.RowKit Go.Proofs.YtpejflgdehioaaaGreatDoor.NumM Go.Proofs.YtpejflgdehioaaaGreatDoor.LexW Go.Proofs.YtpejflgdehioaaaGreatDoor.LexM Go.Proofs.YtpejflgdehioaaaGreatDoor.ExM
def sigCells : Env → List Value
  | [] => []
  | x :: r => .string x.1 :: .int .i64 x.2 :: sigCells r
theorem sigCells_snoc (x : ByteArray × Int) : ∀ l : Env, sigCells (l ++ [x]) = sigCells l ++ [.string x.1, .int .i64 x.2]
  | [] => rfl
  | y :: r => by rw [List.cons_append, sigCells, sigCells_snoc x r, sigCells]; rfl
theorem sigCells_at : ∀ (l : Env) (i : Nat) (x : ByteArray × Int), l[i]? = some x → (sigCells l)[i * 2]? = some (.string x.1) ∧ (sigCells l)[i * 2 + 1]? = some (.int .i64 x.2)
  | [], i, x, h => by simp at h
  | y :: r, 0, x, h => by
    obtain rfl : y = x := (by simpa using h); exact ⟨rfl, rfl⟩
  | y :: r, i + 1, x, h => by
    have := sigCells_at r i x (by simpa using h); rw [sigCells, show (i + 1) * 2 = i * 2 + 1 + 1 by omega]
    simpa using this
theorem sigCells_len : ∀ l : Env, (sigCells l).length = l.length * 2
  | [] => rfl
  | y :: r => by rw [sigCells]; simp [sigCells_len r]; omega
theorem sigs_own {W : World} {B : Nat} {v : Value} {l : Env} (h : W.ownsRow B 103 2 v l.length (sigCells l)) (hl : l.length ≤ 140737488351232) : SigsAt W v l := by
  obtain ⟨_, ⟨hv, hn⟩ | ⟨g, cap, cur, hv, hB, hg, hle, _, _, htake⟩⟩ := h
  · have : l = [] := List.length_eq_zero_iff.1 hn; subst this; rw [hv]; exact SigsAt.nil W
  · refine ⟨some ⟨g, 0, none⟩, cap, hv, hl, hle, fun _ => ⟨g, 0, rfl, (Array.getElem?_eq_some_iff.1 hg).1, fun i x hi => ?_⟩⟩; have hil := (List.getElem?_eq_some_iff.1 hi).1; obtain ⟨q0, q1⟩ := sigCells_at l i x hi; rw [← htake, List.getElem?_take, if_pos (by omega)] at q0 q1; rw [Nat.zero_add, cell_of_row W g _ cur 103 (0, 0) hg, cell_of_row W g _ cur 103 (0, 0) hg]; exact ⟨by simpa using q0, by simpa using q1⟩
theorem sigCells_one : ∀ l : Env, ∀ u ∈ sigCells l, u.oneCell' = true
  | [], u, h => by simp [sigCells] at h
  | x :: r, u, h => by
    rw [sigCells] at h; rcases List.mem_cons.1 h with rfl | h
    · rfl
    · rcases List.mem_cons.1 h with rfl | h
      · rfl
      · exact sigCells_one r u h
theorem sigs_news {W : World} {ad : Addr} {cap : Nat} {env : Env} (h : SigsAt W (.slice (some ad) env.length cap) env) : ∀ j u, (sigCells env)[j]? = some u → W.cell? (ad.add j) = some u := by
  intro j u hu; have hj := (List.getElem?_eq_some_iff.1 hu).1; rw [sigCells_len] at hj; obtain ⟨p, c, e, _, _, hp⟩ := h; obtain ⟨b, off, rfl, _, hcell⟩ := hp (by omega); obtain ⟨rfl, _⟩ : ad = ⟨b, off, none⟩ ∧ c = cap := (by simpa [eq_comm] using e); obtain ⟨x, hx⟩ : ∃ x, env[j / 2]? = some x := ⟨_, List.getElem?_eq_getElem (by omega)⟩; obtain ⟨q0, q1⟩ := sigCells_at env (j / 2) x hx; obtain ⟨c0, c1⟩ := hcell (j / 2) x hx; have ea : (⟨b, off, none⟩ : Addr).add j = ⟨b, off + j, none⟩ := by
    unfold Addr.add; by_cases h0 : j = 0
    · subst h0; simp
    · simp [h0]
  rw [ea]; rcases Nat.mod_two_eq_zero_or_one j with h2 | h2
  · have h3 : j / 2 * 2 = j := (by omega); rw [h3] at q0 c0; rw [q0] at hu; cases hu; exact c0
  · have h3 : j / 2 * 2 + 1 = j := (by omega); rw [h3] at q1; rw [q1] at hu; cases hu; rw [← c1]
    congr 2
    omega
theorem infoSig : (Tryz.prog.info? 103).map (fun i => (i.zero, i.size, i.bytes)) = some (some (.agg #[.string ⟨#[]⟩, .int .i64 0]), 2, 24) := by kernel_rfl
theorem sig_lit (w : World) (s : ByteArray) (n : Int) : (w.alloc (.cells #[.string s, .int .i64 n] 103)).ownsRow w.heap.size 103 2 (.slice (some ⟨w.heap.size, 0, none⟩) 1 1) 1 [.string s, .int .i64 n] :=
  ⟨rfl, .inr ⟨w.heap.size, 1, #[.string s, .int .i64 n], rfl, Nat.le_refl _, heap_alloc_new _ _, Nat.le_refl _, by decide, rfl, rfl⟩⟩
end Go.Proofs.YtpejflgdehioaaaGreatDoor.ExW
namespace Go.Proofs.YtpejflgdehioaaaGreatDoor.ClW
open Go Go.RowKit Go.ChangeShapes Go.WideShapes Go.ChangeAt Go.Proofs.YtpejflgdehioaaaGreatDoor.LexM Go.Proofs.YtpejflgdehioaaaGreatDoor.LexW Go.Proofs.YtpejflgdehioaaaGreatDoor.ClM
theorem bounds {a : Int} (h : (Lit.int .i64 a).wf = true) : -9223372036854775808 ≤ a ∧ a ≤ 9223372036854775807 := by
  have e1 : IntKind.i64.min = -9223372036854775808 := rfl; have e2 : IntKind.i64.max = 9223372036854775807 := rfl; simp [Lit.wf, e1, e2] at h; exact h
end Go.Proofs.YtpejflgdehioaaaGreatDoor.ClW
namespace Go.Proofs.YtpejflgdehioaaaGreatDoor.ExW
open Go Go.RowKit Go.ChangeShapes Go.WideShapes Go.ChangeAt Go.Proofs.YtpejflgdehioaaaGreatDoor.LexM Go.Proofs.YtpejflgdehioaaaGreatDoor.LexW Go.Proofs.YtpejflgdehioaaaGreatDoor.ExM
theorem bounds {a : Int} (h : (Lit.int .i64 a).wf = true) : -9223372036854775808 ≤ a ∧ a ≤ 9223372036854775807 := by
  have e1 : IntKind.i64.min = -9223372036854775808 := rfl; have e2 : IntKind.i64.max = 9223372036854775807 := rfl; simp [Lit.wf, e1, e2] at h; exact h
end Go.Proofs.YtpejflgdehioaaaGreatDoor.ExW
namespace Go.Proofs.YtpejflgdehioaaaGreatDoor.ItM
open Go Go.Proofs.YtpejflgdehioaaaGreatDoor.WordM Go.Proofs.YtpejflgdehioaaaGreatDoor.LexM Go.Proofs.YtpejflgdehioaaaGreatDoor.ExM
open Go.Proofs.YtpejflgdehioaaaGreatDoor.ClM (Fld)
def Dst (fs : List Fld) (j : Nat) : Prop := ∀ i k f g, i < j → k < i → fs[i]? = some f → fs[k]? = some g → g.nm.data.toList ≠ f.nm.data.toList
theorem Dst.zero (fs : List Fld) : Dst fs 0 := fun _ _ _ _ h => absurd h (Nat.not_lt_zero _)
def Dif (fs : List Fld) (s : ByteArray) (k : Nat) : Prop := ∀ i g, i < k → fs[i]? = some g → g.nm.data.toList ≠ s.data.toList
theorem Dif.zero (fs : List Fld) (s : ByteArray) : Dif fs s 0 := fun _ _ h => absurd h (Nat.not_lt_zero _)
theorem Dif.step {fs : List Fld} {s : ByteArray} {k : Nat} {g : Fld} (h : Dif fs s k) (hg : fs[k]? = some g) (hne : ¬ g.nm.data.toList = s.data.toList) : Dif fs s (k + 1) := fun i f hi hf => by
  by_cases e : i = k
  · subst e; rw [hg] at hf; cases hf; exact hne
  · exact h i f (by omega) hf
theorem Dst.step {fs : List Fld} {j : Nat} {y : Fld} (h : Dst fs j) (hy : fs[j]? = some y) (hd : Dif fs y.nm j) : Dst fs (j + 1) := fun i k f g hi hk hf hg => by
  by_cases e : i = j
  · subst e; rw [hy] at hf; cases hf; exact hd k g hk hg
  · exact h i k f g (by omega) hk hf hg
def fldN (f : Fld) : List ByteArray := if 0 < f.sz then (List.range f.sz.toNat).map (elmN f.nm) else [f.nm]
def varsN (fs : List Fld) : List ByteArray := fs.flatMap fldN
def envS (ns : List ByteArray) (vs : List Int) : Env := ns.zipIdx.map fun p => (p.1, vs.getD p.2 0)
theorem envS_snoc (ns : List ByteArray) (s : ByteArray) (vs : List Int) : envS (ns ++ [s]) vs = envS ns vs ++ [(s, vs.getD ns.length 0)] := by
  unfold envS; rw [List.zipIdx_append, List.map_append]; simp
theorem envS_len (ns : List ByteArray) (vs : List Int) : (envS ns vs).length = ns.length := by unfold envS; simp
theorem envS_fst (ns : List ByteArray) (vs : List Int) : (envS ns vs).map Prod.fst = ns := by
  unfold envS; rw [List.map_map]; have : (Prod.fst ∘ fun p : ByteArray × Nat => (p.1, vs.getD p.2 0)) = Prod.fst := rfl; rw [this]; exact List.zipIdx_map_fst 0 ns
theorem khas_mem {env : Env} {s : ByteArray} (h : s ∈ env.map Prod.fst) : hasN env s = true := by
  induction env with
  | nil => simp at h
  | cons x r ih =>
    obtain ⟨a, v⟩ := x; unfold hasN findS; split
    · rfl
    · rename_i hn; simp only [List.map_cons, List.mem_cons] at h; rcases h with rfl | h
      · exact absurd rfl hn
      · exact ih h
theorem elmN_list (a : ByteArray) (k : Nat) : (elmN a k).data.toList = a.data.toList ++ [91, UInt8.ofNat (48 + k), 93] := rfl
theorem bs_ext {a b : ByteArray} (h : a.data.toList = b.data.toList) : a = b := ClM.same_iff.1 (by unfold ClM.same; rw [h]; simp)
theorem isE_form {s : ByteArray} (h : isE s = true) : ∃ k : Nat, k ≤ 7 ∧ cutK s = k ∧ s = elmN (cutA s) k ∧ nmB (cutA s).data.toList = true := by
  obtain ⟨d, h1, h2, h3, h4⟩ := ItW.elm_parts h; refine ⟨d.toNat - 48, by omega, h4, bs_ext ?_, h3⟩; rw [elmN_list, h1]; have : UInt8.ofNat (48 + (d.toNat - 48)) = d := by
    rw [show 48 + (d.toNat - 48) = d.toNat by omega]; exact UInt8.ofNat_toNat
  rw [this]
theorem szO_in {fs : List Fld} {s : ByteArray} {z : Int} (h : szO fs s = some z) : ∃ f ∈ fs, f.nm = s ∧ f.sz = z := by
  unfold szO at h; obtain ⟨f, hf, hz⟩ := Option.map_eq_some_iff.1 h; exact ⟨f, List.mem_of_find?_eq_some hf, ClM.same_iff.1 (by simpa using List.find?_some hf), hz⟩
section
variable {fs : List Fld} (hS : ∀ f ∈ fs, 0 ≤ f.sz ∧ f.sz ≤ 8) (hN : ∀ f ∈ fs, nmB f.nm.data.toList = true) (hD : Dst fs fs.length)
theorem in_elm {a : ByteArray} {k : Nat} (hk : (k : Int) < szI fs a) : elmN a k ∈ varsN fs := by
  unfold szI at hk; cases h : szO fs a with
  | none => rw [h] at hk; simp at hk; omega
  | some z =>
    rw [h] at hk; simp only [Option.getD_some] at hk; obtain ⟨f, hf, rfl, rfl⟩ := szO_in h; refine List.mem_flatMap.2 ⟨f, hf, ?_⟩; unfold fldN; rw [if_pos (by omega)]; exact List.mem_map.2 ⟨k, List.mem_range.2 (by omega), rfl⟩
theorem in_plain {s : ByteArray} (h : hasP fs s = true) : s ∈ varsN fs := by
  unfold hasP at h; split at h
  · rename_i n hz; have hn := of_decide_eq_true h; obtain ⟨f, hf, rfl, rfl⟩ := szO_in hz; refine List.mem_flatMap.2 ⟨f, hf, ?_⟩; unfold fldN; rw [if_neg (by omega)]; simp
  · cases h
include hS hN hD
end
theorem ev_cst (env : Env) (k : Int) : ev env (cst k) = k := by unfold cst; rw [ev_mk]; rfl
theorem evs_nil (env : Env) : evs env [] = [] := by rw [evs]
theorem evs_cons (env : Env) (a : Ex) (r : List Ex) : evs env (a :: r) = ev env a :: evs env r := by rw [evs]
theorem kn_leaf {env : Env} {o n : Int} {s : ByteArray} : kn env (.mk o n s []) = knwS env o s := by
  rw [kn_mk, kns_all]; rfl
theorem kn_cst (env : Env) (k : Int) : kn env (cst k) = true := by unfold cst; rw [kn_leaf]; rfl
end Go.Proofs.YtpejflgdehioaaaGreatDoor.ItM
namespace Go.Proofs.YtpejflgdehioaaaGreatDoor.ItW
open Go Go.RowKit Go.Proofs.YtpejflgdehioaaaGreatDoor.NumM Go.Proofs.YtpejflgdehioaaaGreatDoor.LexW Go.Proofs.YtpejflgdehioaaaGreatDoor.LexM Go.Proofs.YtpejflgdehioaaaGreatDoor.ExM Go.Proofs.YtpejflgdehioaaaGreatDoor.ExW Go.Proofs.YtpejflgdehioaaaGreatDoor.ItM
open Go.Proofs.YtpejflgdehioaaaGreatDoor.ClM (Fld)
def tSm2 (fs : List Fld) (w : World) (e : Ending) (w' : World) : Prop := ∃ b, e = .returned (.bool b) ∧ Below w.heap.size w w' ∧ (b = true → (fs.length ≤ 20 ∧ ∀ f ∈ fs, SmF f) ∧ Dst fs fs.length)
theorem tSm2_no {fs : List Fld} {w w' : World} (h : Below w.heap.size w w') : tSm2 fs w (.returned (.bool false)) w' := ⟨false, rfl, h, fun h => by cases h⟩
set_option maxRecDepth 100000 in
set_option maxHeartbeats 8000000 in
theorem small2_any (fs : List Fld) (cv : Value) (N : Nat) (w : World) (hc : ClA N w cv fs) (hN : N ≤ w.heap.size) :
    Calls Tryz.prog 19 #[cv] w (tSm2 fs w) := by
  have NC : Hid (∀ W s, s.size ≤ 140737488351232 → Calls Tryz.prog 42 #[.string s] W (tBool (nmB s.data.toList) W)) := (Lib.hid fun W s hs => nameR_any s W hs); obtain ⟨cnm, par, vf, pb, kb, cb, rfl, p, cap, rfl, hl, hcap, hz, hp⟩ := hc; have HP := Lib.hid hp; have HZ := Lib.hid hz; obtain ⟨K, hK⟩ : ∃ K, fs.length = K := ⟨_, rfl⟩; have HK := Lib.hid hK; rw [hK] at hl ⊢; have hk47 : K ≤ 140737488351232 := (by omega); have B0 := Blk.new w [.string cnm, .string par, .slice p K cap, .slice pb kb cb] 34; have hb0 := ba w (.cells #[.string cnm, .string par, .slice p K cap, .slice pb kb cb] 34); have d2 := B0.c 2 _ rfl; have HB := Lib.hid hb0; clear hK hl hp hcap hz B0 hb0; by_cases h20 : 20 < K
  · have e20 : decide ((20 : Int) < (K : Int)) = true := decide_eq_true (by omega)
    go_enter Tryz.func19, Tryz.ntmps19
    go_wp2; go_ret; exact tSm2_no HB.out
  · have e20 : decide ((20 : Int) < (K : Int)) = false := decide_eq_false (by omega); have hk20 : K ≤ 20 := (by omega); clear h20
    go_enter Tryz.func19, Tryz.ntmps19
    go_wp2; obtain ⟨W0, hW0⟩ : ∃ W0, w.alloc (.cells #[.string cnm, .string par, .slice p K cap, .slice pb kb cb] 34) = W0 := ⟨_, rfl⟩; simp only [List.toArray] at d2; rw [hW0] at HB d2 ⊢; have HD2 := Lib.hid d2; clear hW0 e20 d2; go_loopw [3] (fun i wr => ∃ j : Nat, j ≤ K ∧ i = .int .i64 j ∧ Hid (∀ f ∈ fs.take j, SmF f) ∧ Hid (Dst fs j) ∧ Hid (Below w.heap.size w wr) ∧ Hid (wr.cell? ⟨w.heap.size, 2, none⟩ = some (.slice p K cap))) (fun i _ => K - (intOf i).toNat)
    case atStart => exact ⟨0, Nat.zero_le _, rfl, Lib.hid (fun f hf => by simp at hf), Lib.hid (Dst.zero fs), HB, HD2⟩
    case round =>
      obtain ⟨j, hj, rfl, FW, DW, BW, CW⟩ := hrel; have d2 := CW.out; by_cases hlt : j < K
      · obtain ⟨b, off, rfl, hbN, hcell⟩ := HP.out (by rw [HK.out]; omega); obtain ⟨y, hyk⟩ : ∃ y, fs[j]? = some y := ⟨_, List.getElem?_eq_getElem (by rw [HK.out]; exact hlt)⟩; obtain ⟨q0, q1, q2, q3, q4⟩ := hcell j y hyk; have HCC : Hid (∀ W, Below w.heap.size w W → ∀ (i : Nat) (f : Fld), fs[i]? = some f → W.cell? ⟨b, off + i * 5, none⟩ = some (.string f.nm)) := (Lib.hid fun W hW i f hi => low_cells (hW.mono hN) _ _ hbN _ (hcell i f hi).1); have c0 := low_cells (BW.out.mono hN) _ _ hbN _ q0; have c2 := low_cells (BW.out.mono hN) _ _ hbN _ q2; have hys := HZ.out y (List.mem_of_getElem? hyk); have NC2 := Lib.hid (fun W => NC.out W y.nm hys); have HY := Lib.hid hyk; have HSF : Hid ((0 ≤ y.sz ∧ y.sz ≤ 8) → nmB y.nm.data.toList = true → ∀ f ∈ fs.take (j + 1), SmF f) := Lib.hid fun h1 h2 f hf => by
          obtain ⟨hjl, he⟩ := List.getElem?_eq_some_iff.1 hyk; rw [List.take_succ_eq_append_getElem hjl] at hf; rcases List.mem_append.1 hf with h | h
          · exact FW.out f h
          · simp at h; rw [h, he]; exact ⟨h1, h2⟩
        have HSD : Hid (Dif fs y.nm j → Dst fs (j + 1)) := (Lib.hid fun hd => DW.out.step hyk hd); clear hcell hyk q0 q1 q2 q3 q4; generalize nmB y.nm.data.toList = u at *
        generalize y.sz = z at *
        generalize hyn : y.nm = yn at *
        by_cases h1 : z < 0
        · have e1 : decide (z < 0) = true := decide_eq_true h1; clear h1 HSF; go_wp2; go_ret; exact tSm2_no BW.out
        · have e1 : decide (z < 0) = false := decide_eq_false h1; by_cases h2 : 8 < z
          · have e2 : decide (8 < z) = true := decide_eq_true h2; clear h1 h2 HSF; go_wp2; go_ret; exact tSm2_no BW.out
          · have e2 : decide (8 < z) = false := decide_eq_false h2; cases u
            · clear h1 h2 HSF; go_wp2_with (go_at_call 42; ((with_reducible refine (NC2.out _).mono ?_); rintro e w1 ⟨rfl, hb⟩; have HB1 := Lib.hid (BW.out.then_ hb); clear hb))
              go_ret; exact tSm2_no HB1.out
            · have HF2 := Lib.hid (HSF.out ⟨by omega, by omega⟩ rfl); clear h1 h2 HSF; go_wp2_with (go_at_call 42; ((with_reducible refine (NC2.out _).mono ?_); rintro e w1 ⟨rfl, hb⟩; have HB1 := Lib.hid (BW.out.then_ hb); have HD1 : Hid (w1.cell? ⟨w.heap.size, 2, none⟩ = some (.slice (some ⟨b, off, none⟩) K cap)) := Lib.hid (by rw [hb.cell (World.block_lt_of_cell? wr _ CW.out)]; exact CW.out); clear hb d2 c0 c2))
              go_loopw [4] (fun i w2 => ∃ i2 : Nat, i2 ≤ j ∧ i = .int .i64 i2 ∧ Hid (Dif fs yn i2) ∧ Hid (Below w.heap.size w w2) ∧ Hid (w2.cell? ⟨w.heap.size, 2, none⟩ = some (.slice (some ⟨b, off, none⟩) K cap))) (fun i _ => j - (intOf i).toNat)
              case atStart => exact ⟨0, Nat.zero_le _, rfl, Lib.hid (Dif.zero fs yn), HB1, HD1⟩
              case round =>
                rename_i w2 _ _ _; obtain ⟨i2, hi2, rfl, DF, BW2, CW2⟩ := hrel; have d2 := CW2.out; by_cases hlt2 : i2 < j
                · obtain ⟨g, hg⟩ : ∃ g, fs[i2]? = some g := ⟨_, List.getElem?_eq_getElem (by rw [HK.out]; omega)⟩; have c0 := HCC.out _ BW2.out j y HY.out; have c1 := HCC.out _ BW2.out i2 g hg; rw [hyn] at c0; have HSTEP : Hid (¬ g.nm.data.toList = yn.data.toList → Dif fs yn (i2 + 1)) := (Lib.hid fun hne => DF.out.step hg hne); generalize g.nm = gn at *
                  by_cases e : gn.data.toList = yn.data.toList
                  · have e1 : (gn.toList == yn.toList) = true := (by rw [Lib.toList_data, Lib.toList_data, e]; simp); clear e hg; go_wp2; go_quiet (fail)
                    go_wp2; go_ret; exact tSm2_no (drewB BW2.out)
                  · have e1 : (gn.toList == yn.toList) = false := (by rw [Lib.toList_data, Lib.toList_data]; simpa using e); have DF2 := Lib.hid (HSTEP.out e); clear e hg HSTEP; go_wp2; go_quiet (fail)
                    go_wp2; go_roundw
                    case rel => exact ⟨i2 + 1, by omega, by go_num, DF2, Lib.hid (drewB BW2.out), Lib.hid (by simpa using CW2.out)⟩
                    case measure => simp [intOf]; omega
                · have hij : i2 = j := (by omega); have DW2 : Hid (Dst fs (j + 1)) := Lib.hid (HSD.out (hij ▸ DF.out)); clear hij; go_wp2; go_roundw
                  case rel => exact ⟨j + 1, by omega, by go_num, HF2, DW2, BW2, CW2⟩
                  case measure => simp [intOf]; omega
      · have HE : Hid ((K ≤ 20 ∧ ∀ f ∈ fs, SmF f) ∧ Dst fs K) := Lib.hid ⟨⟨hk20, by have := FW.out; rw [List.take_of_length_le (by rw [HK.out]; omega)] at this; exact this⟩, (show j = K by omega) ▸ DW.out⟩; go_wp2; go_ret; exact ⟨true, rfl, BW.out, fun _ => by rw [HK.out]; exact HE.out⟩
end Go.Proofs.YtpejflgdehioaaaGreatDoor.ItW
namespace Go.Proofs.YtpejflgdehioaaaGreatDoor.ItW
open Go Go.RowKit Go.Shelf Go.Proofs.YtpejflgdehioaaaGreatDoor.NumM Go.Proofs.YtpejflgdehioaaaGreatDoor.LexW Go.Proofs.YtpejflgdehioaaaGreatDoor.LexM Go.Proofs.YtpejflgdehioaaaGreatDoor.ExM Go.Proofs.YtpejflgdehioaaaGreatDoor.ExW Go.Proofs.YtpejflgdehioaaaGreatDoor.ItM
open Go.Proofs.YtpejflgdehioaaaGreatDoor.ClM (Fld)
def IntsL (w : World) (v : Value) (l : List Int) : Prop :=
  ∃ p cap, v = .slice p l.length cap ∧ l.length ≤ 9223372036854775807 ∧ l.length ≤ cap ∧ (∀ x ∈ l, -9223372036854775808 ≤ x ∧ x ≤ 9223372036854775807) ∧ (0 < l.length → ∃ b off, p = some ⟨b, off, none⟩ ∧ b < w.heap.size ∧ ∀ i x, l[i]? = some x → w.cell? ⟨b, off + i, none⟩ = some (.int .i64 x))
theorem IntsL.later {w w' : World} {v : Value} {l : List Int} (h : IntsL w v l) (hb : Below w.heap.size w w') : IntsL w' v l := by
  obtain ⟨p, cap, rfl, hl, hc, hr, hx⟩ := h; refine ⟨p, cap, rfl, hl, hc, hr, fun h0 => ?_⟩; obtain ⟨b, off, hp, hbs, hcell⟩ := hx h0; refine ⟨b, off, hp, Nat.lt_of_lt_of_le hbs hb.size, fun i t hi => ?_⟩; rw [hb.cell hbs]; exact hcell i t hi
theorem envS_mem {ns : List ByteArray} {vs : List Int} {q : ByteArray × Int} (h : q ∈ envS ns vs) : q.2 = 0 ∨ q.2 ∈ vs := by
  unfold envS at h; obtain ⟨p, _, rfl⟩ := List.mem_map.1 h; show vs.getD p.2 0 = 0 ∨ vs.getD p.2 0 ∈ vs; rw [List.getD_eq_getElem?_getD]; cases hv : vs[p.2]? with
  | none => exact .inl rfl
  | some x => exact .inr (List.mem_of_getElem? hv)
theorem envS_range {ns : List ByteArray} {vs : List Int} (h : ∀ x ∈ vs, -9223372036854775808 ≤ x ∧ x ≤ 9223372036854775807) : ∀ q ∈ envS ns vs, -9223372036854775808 ≤ q.2 ∧ q.2 ≤ 9223372036854775807 := fun q hq => by
  rcases envS_mem hq with h1 | h1
  · rw [h1]; decide
  · exact h _ h1
def fldK (f : Fld) (k : Nat) : List ByteArray := (fldN f).take k
theorem fldN_len (f : Fld) : (fldN f).length = if 0 < f.sz then f.sz.toNat else 1 := by
  unfold fldN; split
  · simp
  · rfl
theorem fldK_step {f : Fld} {k : Nat} (hk : (k : Int) < f.sz ∨ k = 0) : fldK f (k + 1) = fldK f k ++ [if 0 < f.sz then elmN f.nm k else f.nm] := by
  unfold fldK; have hl := fldN_len f; have hlt : k < (fldN f).length := by
    rw [hl]; split <;> omega
  rw [List.take_succ_eq_append_getElem hlt]
  congr 2
  unfold fldN; split
  · rename_i h0; simp
  · rename_i h0; obtain rfl : k = 0 := (by omega); simp
theorem fldK_all {f : Fld} {k : Nat} (h : 0 ≤ f.sz ∧ f.sz ≤ 8) (hk : ¬ (k : Int) < f.sz) (h0 : k ≠ 0) : fldK f k = fldN f := by
  unfold fldK; refine List.take_of_length_le ?_; rw [fldN_len f]; split <;> omega
theorem vars_take {fs : List Fld} {j : Nat} {f : Fld} (h : fs[j]? = some f) : varsN (fs.take (j + 1)) = varsN (fs.take j) ++ fldN f := by
  obtain ⟨hj, he⟩ := List.getElem?_eq_some_iff.1 h; unfold varsN; rw [List.take_succ_eq_append_getElem hj, List.flatMap_append, he]; simp
theorem fldK_len {f : Fld} (h : 0 ≤ f.sz ∧ f.sz ≤ 8) (k : Nat) : (fldK f k).length ≤ 8 := by
  unfold fldK; rw [List.length_take, fldN_len f]; split <;> omega
theorem vars_len {fs : List Fld} (hS : ∀ f ∈ fs, 0 ≤ f.sz ∧ f.sz ≤ 8) : (varsN fs).length ≤ 8 * fs.length := by
  induction fs with
  | nil => simp [varsN]
  | cons a r ih =>
    have h1 := (ih fun f hf => hS f (by simp [hf])); have h2 := fldK_len (hS a (by simp)) 8; have h3 : fldK a 8 = fldN a := by
      unfold fldK; refine List.take_of_length_le ?_; have := hS a (by simp); rw [fldN_len a]; split <;> omega
    rw [h3] at h2; have : varsN (a :: r) = fldN a ++ varsN r := (by unfold varsN; simp); rw [this, List.length_append, List.length_cons]; omega
structure EnvA (base g : Nat) (w : World) (p : Option Addr) (L cap : Nat) (l : Env) : Prop where
  own : w.ownsRow base 103 2 (.slice p L cap) L (sigCells l)
  len : l.length = L
  far : ∀ k, (Value.slice p L cap).ownBlock = some k → k ≠ g
theorem own_form {W : World} {base : Nat} {v : Value} {n : Nat} {xs : List Value} (h : W.ownsRow base 103 2 v n xs) : ∃ p cap, v = .slice p n cap := by
  obtain ⟨_, ⟨hv, hn⟩ | ⟨g, cap, cur, hv, _⟩⟩ := h
  · exact ⟨none, 0, by rw [hv, hn]⟩
  · exact ⟨_, _, hv⟩
theorem own_lt {W : World} {base e size n : Nat} {v : Value} {xs : List Value} (h : W.ownsRow base e size v n xs) : ∀ k, v.ownBlock = some k → k < W.heap.size := by
  intro k hk; obtain ⟨_, ⟨hv, hn⟩ | ⟨g, cap, cur, hv, hB, hg, _⟩⟩ := h
  · rw [hv] at hk; simp [Value.ownBlock] at hk
  · rw [hv] at hk; have : g = k := (by simpa [Value.ownBlock] using hk); rw [← this]; exact (Array.getElem?_eq_some_iff.1 hg).1
set_option maxRecDepth 100000 in
set_option maxHeartbeats 8000000 in
theorem env_any (fs : List Fld) (vs : List Int) (cv vv : Value) (N : Nat) (w : World) (hc : ClA N w cv fs) (hN : N ≤ w.heap.size) (hv : IntsL w vv vs) (hF : fs.length ≤ 20) (hS : ∀ f ∈ fs, SmF f) :
    Calls Tryz.prog 30 #[cv, vv] w fun e w' => ∃ sv, e = .returned sv ∧ SigsAt w' sv (envS (varsN fs) vs) ∧ Below w.heap.size w w' := by
  have EC : Hid (∀ (a : ByteArray) (k : Nat) (W : World), k ≤ 7 → a.size ≤ 100 → Calls Tryz.prog 62 #[.string a, .int .i64 k] W fun e w' => e = .returned (.string (elmN a k)) ∧ W = w') := (Lib.hid fun a k W hk ha => elementR_any a k hk ha W); obtain ⟨cnm, par, vf, pb, kb, cb, rfl, p, cap, rfl, hl, hcap, hz, hp⟩ := hc; obtain ⟨pv, cpv, rfl, hvl, hvc, hvr, hvp⟩ := hv; have HP := Lib.hid hp; have HV := Lib.hid hvp; have HS := Lib.hid hS; obtain ⟨K, hK⟩ : ∃ K, fs.length = K := ⟨_, rfl⟩; have HK := Lib.hid hK; obtain ⟨KV, hKV⟩ : ∃ K, vs.length = K := ⟨_, rfl⟩; have HKV := Lib.hid hKV; rw [hK] at hl hF ⊢; rw [hKV] at hvl hvc ⊢; have hk47 : K ≤ 140737488351232 := (by omega); obtain ⟨i0, hi, hz0, hz1, hz2⟩ := info_parts infoSig; have B0 := Blk.new w [.string cnm, .string par, .slice p K cap, .slice pb kb cb] 34; have hb0 := ba w (.cells #[.string cnm, .string par, .slice p K cap, .slice pb kb cb] 34); simp only [List.toArray] at B0; have d2 := B0.c 2 _ rfl; have HVL : Hid (∀ j, j ≤ K → (varsN (fs.take j)).length ≤ 160) := Lib.hid fun j hj => by
    have := vars_len (fs := fs.take j) (fun f hf => (HS.out f (List.mem_of_mem_take hf)).1); rw [List.length_take] at this; omega
  have HN0 : Hid (envS (varsN (fs.take 0)) vs = []) := Lib.hid (by unfold varsN; simp [envS]); have HVE : Hid (varsN (fs.take K) = varsN fs) := Lib.hid (by rw [List.take_of_length_le (by omega)]); clear hK hKV hl hp hcap hz hS hvp hvr
  go_enter Tryz.func30, Tryz.ntmps30
  go_wp2; obtain ⟨W0, hW0⟩ : ∃ W0, w.alloc (.cells #[.string cnm, .string par, .slice p K cap, .slice pb kb cb] 34) = W0 := ⟨_, rfl⟩; rw [hW0] at B0 hb0 ⊢; have HB := Lib.hid hb0; have HB0 := Lib.hid B0; have HX := Lib.hid (Below.refl W0.heap.size W0); have HA0 : Hid (EnvA W0.heap.size w.heap.size W0 none 0 0 (envS (varsN (fs.take 0)) vs)) := Lib.hid (by rw [HN0.out]; exact ⟨World.ownsRow_nil _ _ _ _, rfl, fun k h => by simp [Value.ownBlock] at h⟩); clear hW0 d2 B0 hb0 HN0; go_loopw [5, 6] (fun o i wr => ∃ (j L : Nat) (po : Option Addr) (co : Nat), j ≤ K ∧ i = .int .i64 j ∧ o = .slice po L co ∧ Hid (EnvA W0.heap.size w.heap.size wr po L co (envS (varsN (fs.take j)) vs)) ∧ Hid (Below W0.heap.size W0 wr)) (fun _ i _ => K - (intOf i).toNat)
  case atStart => exact ⟨0, 0, none, 0, Nat.zero_le _, rfl, rfl, HA0, HX⟩
  case round =>
    rename World => w1
    obtain ⟨j, L, po, co, hj, rfl, rfl, AW, BW⟩ := hrel; have hst := HB0.out.stay BW.out; have d2 := hst.c 2 _ rfl; clear hst; by_cases hlt : j < K
    · obtain ⟨b, off, rfl, hbN, hcell⟩ := HP.out (by rw [HK.out]; omega); obtain ⟨y, hyk⟩ : ∃ y, fs[j]? = some y := ⟨_, List.getElem?_eq_getElem (by rw [HK.out]; exact hlt)⟩; obtain ⟨q0, q1, q2, q3, q4⟩ := hcell j y hyk; have hbw : Below N w w1 := ((HB.out.then_ BW.out)).mono hN; have c0 := low_cells hbw _ _ hbN _ q0; have c1 := low_cells hbw _ _ hbN _ q1; have c2 := low_cells hbw _ _ hbN _ q2; have c3 := low_cells hbw _ _ hbN _ q3; have c4 := low_cells hbw _ _ hbN _ q4; have hsm := HS.out y (List.mem_of_getElem? hyk); have HY8 := Lib.hid hsm.1; have hyn100 : y.nm.size ≤ 100 := (by have := nm_len hsm.2; omega); have HVT : Hid (varsN (fs.take (j + 1)) = varsN (fs.take j) ++ fldN y) := Lib.hid (vars_take hyk); have HL160 : Hid (∀ m : List ByteArray, m = varsN (fs.take j) → m.length ≤ 160) := (Lib.hid fun m e => by rw [e]; exact HVL.out j hj); have HFK : Hid (fldK y 0 = []) := Lib.hid rfl; have HFL := Lib.hid (fldK_len hsm.1); have HFS : Hid (∀ k : Nat, ((k : Int) < y.sz ∨ k = 0) → fldK y (k + 1) = fldK y k ++ [if 0 < y.sz then elmN y.nm k else y.nm]) := (Lib.hid fun k hk => fldK_step hk); have HFA : Hid (∀ k : Nat, y.sz ≤ (k : Int) → k ≠ 0 → fldK y k = fldN y) := (Lib.hid fun k h1 h2 => fldK_all hsm.1 (by omega) h2); clear hcell hyk q0 q1 q2 q3 q4 hbw hsm; generalize hA : varsN (fs.take j) = A at *
      have hA160 := HL160.out A rfl; generalize y.sz = z at *
      generalize y.nm = yn at *
      generalize y.wd = ywd at *
      generalize y.md = ymd at *
      generalize y.ini = yini at *
      have bf1 := Blk.new w1 [.string yn, .int .i64 ywd, .int .i64 z, .int .i64 ymd, .int .i64 yini] 77; have bf2 := ba w1 (.cells #[.string yn, .int .i64 ywd, .int .i64 z, .int .i64 ymd, .int .i64 yini] 77); simp only [List.toArray] at bf1; have BF1 := Lib.hid bf1; have BW1 := Lib.hid (BW.out.then_ bf2); have A1 : Hid (EnvA W0.heap.size w1.heap.size (w1.alloc (.cells #[.string yn, .int .i64 ywd, .int .i64 z, .int .i64 ymd, .int .i64 yini] 77)) po L co (envS (A ++ fldK y 0) vs)) := Lib.hid (by
        rw [HFK.out, List.append_nil]; exact ⟨row_later AW.out.own bf2, AW.out.len, fun k e => by have := own_lt AW.out.own k e; omega⟩)
      have HA := Lib.hid hA; clear bf1 bf2 hA HL160; go_wp2; clear c0 c1 c2 c3 c4 d2; go_loopw [5, 8] (fun o i w2 => ∃ (k L : Nat) (po : Option Addr) (co : Nat), k ≤ 8 ∧ L ≤ 160 + k ∧ i = .int .i64 k ∧ o = .slice po L co ∧ Hid (EnvA W0.heap.size w1.heap.size w2 po L co (envS (A ++ fldK y k) vs)) ∧ Hid (Below W0.heap.size W0 w2) ∧ Hid (Blk w2 w1.heap.size [.string yn, .int .i64 ywd, .int .i64 z, .int .i64 ymd, .int .i64 yini])) (fun _ i _ => 9 - (intOf i).toNat)
      case atStart => exact ⟨0, L, po, co, by omega, by have := A1.out.len; rw [envS_len, HFK.out, List.append_nil] at this; omega, rfl, rfl, A1, BW1, BF1⟩
      case round =>
        rename World => w2
        obtain ⟨k, L, po2, co2, hk8, hL, rfl, rfl, A2, BW2, BF⟩ := hrel; have f0 := BF.out.c 0 _ rfl; have f2 := BF.out.c 2 _ rfl; by_cases hkz : (k : Int) < z
        · have e1 : decide ((k : Int) < z) = true := decide_eq_true hkz; by_cases hLV : L < KV
          · obtain ⟨bv, ov, rfl, hbv, hvc⟩ := HV.out (by rw [HKV.out]; omega); obtain ⟨x, hxk⟩ : ∃ x, vs[L]? = some x := ⟨_, List.getElem?_eq_getElem (by rw [HKV.out]; exact hLV)⟩; have xc := ((HB.out.then_ BW2.out).cell (p := ⟨bv, ov + L, none⟩) hbv).trans (hvc L x hxk); clear hvc; have hk7 : k ≤ 7 := (by have := HY8.out; omega); have g0 : decide (0 < z) = true := decide_eq_true (by omega); have HST : Hid (fldK y (k + 1) = fldK y k ++ [(elmN yn k)]) := Lib.hid (by rw [HFS.out k (by omega)]; rw [if_pos (by omega)]); have HVX : Hid (vs.getD L 0 = x) := Lib.hid (by rw [List.getD_eq_getElem?_getD, hxk]; rfl); have HROW : Hid ((w2.alloc (.cells #[.string (elmN yn k), .int .i64 x] 103)).ownsRow W0.heap.size 103 2 (.slice po2 L co2) L (sigCells (envS (A ++ fldK y k) vs))) := Lib.hid (row_later A2.out.own (ba w2 _)); have HNW : Hid (∀ j u, (sigCells [((elmN yn k), x)])[j]? = some u → (w2.alloc (.cells #[.string (elmN yn k), .int .i64 x] 103)).cell? ((⟨w2.heap.size, 0, none⟩ : Addr).add j) = some u) := Lib.hid (sigs_news (cap := 1) (sigs_own (l := [((elmN yn k), x)]) (sig_lit w2 (elmN yn k) x) (by simp))); clear hxk; clear hkz; go_wp2_with (first
              | (go_at_call 62; (with_reducible refine (EC.out _ _ _ hk7 hyn100).mono ?_); rintro e w' ⟨rfl, rfl⟩)
              | (at_builtin; go_loud (refine wpList_append_own_at _ rfl _ _ 51 rfl W0.heap.size 103 i0 (.agg #[.string ⟨#[]⟩, .int .i64 0]) 2 24 Tryz.underlying51 hi hz0 hz1 hz2 rfl (by decide) _ L (sigCells (envS (A ++ fldK y k) vs)) rfl HROW.out ⟨w2.heap.size, 0, none⟩ 1 1 (sigCells [((elmN yn k), x)]) rfl rfl HNW.out (sigCells_one _) (by unfold maxLen; omega) (by omega) (by have := BW2.out.size; simp; omega) ?_); intro v' w3 hown hgrow _ hnew; have HOWN := Lib.hid hown; have HGR := Lib.hid hgrow; have HNEW := Lib.hid hnew; clear hown hgrow hnew))
            go_roundw
            case rel =>
              obtain ⟨po3, co3, rfl⟩ := own_form HOWN.out; have BL3 : Below W0.heap.size W0 w3 := (BW2.out.then_ (ba w2 (.cells #[.string (elmN yn k), .int .i64 x] 103))).grown HGR.out (by have := BW2.out.size; simp; omega) (fun k' e => ints_block A2.out.own k' e); have BK3 : Blk w3 w1.heap.size [.string yn, .int .i64 ywd, .int .i64 z, .int .i64 ymd, .int .i64 yini] := (BF.out.alloc (.cells #[.string (elmN yn k), .int .i64 x] 103)).grown HGR.out (fun e => A2.out.far _ e.symm rfl); have A3 : EnvA W0.heap.size w1.heap.size w3 po3 (L + 1) co3 (envS (A ++ fldK y (k + 1)) vs) := by
                have e1 : envS (A ++ fldK y (k + 1)) vs = envS (A ++ fldK y k) vs ++ [((elmN yn k), x)] := by
                  rw [HST.out, ← List.append_assoc, envS_snoc]; have := A2.out.len; rw [envS_len] at this; rw [this, HVX.out]
                refine ⟨?_, ?_, fun k' e => ?_⟩
                · rw [e1, sigCells_snoc]; exact HOWN.out
                · rw [e1, List.length_append, A2.out.len]; rfl
                · rcases HNEW.out with h | h
                  · exact A2.out.far k' (h.symm.trans e)
                  · rw [h] at e; have e2 : (w2.alloc (.cells #[.string (elmN yn k), .int .i64 x] 103)).heap.size = k' := (by simpa using e); have := BF.out.lt; rw [World.size_alloc] at e2; omega
              exact ⟨k + 1, L + 1, po3, co3, by omega, by omega, by go_num, by go_num, Lib.hid A3, Lib.hid BL3, Lib.hid BK3⟩
            case measure => simp [intOf]; omega
          · skip
            have hk7 : k ≤ 7 := (by have := HY8.out; omega); have g0 : decide (0 < z) = true := decide_eq_true (by omega); have HST : Hid (fldK y (k + 1) = fldK y k ++ [(elmN yn k)]) := Lib.hid (by rw [HFS.out k (by omega)]; rw [if_pos (by omega)]); have HVX : Hid (vs.getD L 0 = 0) := Lib.hid (by rw [List.getD_eq_getElem?_getD, List.getElem?_eq_none (by rw [HKV.out]; omega)]; rfl); have HROW : Hid ((w2.alloc (.cells #[.string (elmN yn k), .int .i64 0] 103)).ownsRow W0.heap.size 103 2 (.slice po2 L co2) L (sigCells (envS (A ++ fldK y k) vs))) := Lib.hid (row_later A2.out.own (ba w2 _)); have HNW : Hid (∀ j u, (sigCells [((elmN yn k), 0)])[j]? = some u → (w2.alloc (.cells #[.string (elmN yn k), .int .i64 0] 103)).cell? ((⟨w2.heap.size, 0, none⟩ : Addr).add j) = some u) := Lib.hid (sigs_news (cap := 1) (sigs_own (l := [((elmN yn k), 0)]) (sig_lit w2 (elmN yn k) 0) (by simp))); clear hkz; go_wp2_with (first
              | (go_at_call 62; (with_reducible refine (EC.out _ _ _ hk7 hyn100).mono ?_); rintro e w' ⟨rfl, rfl⟩)
              | (at_builtin; go_loud (refine wpList_append_own_at _ rfl _ _ 51 rfl W0.heap.size 103 i0 (.agg #[.string ⟨#[]⟩, .int .i64 0]) 2 24 Tryz.underlying51 hi hz0 hz1 hz2 rfl (by decide) _ L (sigCells (envS (A ++ fldK y k) vs)) rfl HROW.out ⟨w2.heap.size, 0, none⟩ 1 1 (sigCells [((elmN yn k), 0)]) rfl rfl HNW.out (sigCells_one _) (by unfold maxLen; omega) (by omega) (by have := BW2.out.size; simp; omega) ?_); intro v' w3 hown hgrow _ hnew; have HOWN := Lib.hid hown; have HGR := Lib.hid hgrow; have HNEW := Lib.hid hnew; clear hown hgrow hnew))
            go_roundw
            case rel =>
              obtain ⟨po3, co3, rfl⟩ := own_form HOWN.out; have BL3 : Below W0.heap.size W0 w3 := (BW2.out.then_ (ba w2 (.cells #[.string (elmN yn k), .int .i64 0] 103))).grown HGR.out (by have := BW2.out.size; simp; omega) (fun k' e => ints_block A2.out.own k' e); have BK3 : Blk w3 w1.heap.size [.string yn, .int .i64 ywd, .int .i64 z, .int .i64 ymd, .int .i64 yini] := (BF.out.alloc (.cells #[.string (elmN yn k), .int .i64 0] 103)).grown HGR.out (fun e => A2.out.far _ e.symm rfl); have A3 : EnvA W0.heap.size w1.heap.size w3 po3 (L + 1) co3 (envS (A ++ fldK y (k + 1)) vs) := by
                have e1 : envS (A ++ fldK y (k + 1)) vs = envS (A ++ fldK y k) vs ++ [((elmN yn k), 0)] := by
                  rw [HST.out, ← List.append_assoc, envS_snoc]; have := A2.out.len; rw [envS_len] at this; rw [this, HVX.out]
                refine ⟨?_, ?_, fun k' e => ?_⟩
                · rw [e1, sigCells_snoc]; exact HOWN.out
                · rw [e1, List.length_append, A2.out.len]; rfl
                · rcases HNEW.out with h | h
                  · exact A2.out.far k' (h.symm.trans e)
                  · rw [h] at e; have e2 : (w2.alloc (.cells #[.string (elmN yn k), .int .i64 0] 103)).heap.size = k' := (by simpa using e); have := BF.out.lt; rw [World.size_alloc] at e2; omega
              exact ⟨k + 1, L + 1, po3, co3, by omega, by omega, by go_num, by go_num, Lib.hid A3, Lib.hid BL3, Lib.hid BK3⟩
            case measure => simp [intOf]; omega
        · have e1 : decide ((k : Int) < z) = false := decide_eq_false hkz; by_cases hk0 : k = 0
          · have hyz : z = 0 := (by have := HY8.out; omega); have e2 : ((k : Int) == 0) = true := (by rw [beq_iff_eq]; omega); by_cases hLV : L < KV
            · obtain ⟨bv, ov, rfl, hbv, hvc⟩ := HV.out (by rw [HKV.out]; omega); obtain ⟨x, hxk⟩ : ∃ x, vs[L]? = some x := ⟨_, List.getElem?_eq_getElem (by rw [HKV.out]; exact hLV)⟩; have xc := ((HB.out.then_ BW2.out).cell (p := ⟨bv, ov + L, none⟩) hbv).trans (hvc L x hxk); clear hvc; have g0 : decide (0 < z) = false := decide_eq_false (by omega); have hk7 : k ≤ 7 := (by omega); have HST : Hid (fldK y (k + 1) = fldK y k ++ [yn]) := Lib.hid (by rw [HFS.out k (by omega)]; rw [if_neg (by omega)]); have HVX : Hid (vs.getD L 0 = x) := Lib.hid (by rw [List.getD_eq_getElem?_getD, hxk]; rfl); have HROW : Hid ((w2.alloc (.cells #[.string yn, .int .i64 x] 103)).ownsRow W0.heap.size 103 2 (.slice po2 L co2) L (sigCells (envS (A ++ fldK y k) vs))) := Lib.hid (row_later A2.out.own (ba w2 _)); have HNW : Hid (∀ j u, (sigCells [(yn, x)])[j]? = some u → (w2.alloc (.cells #[.string yn, .int .i64 x] 103)).cell? ((⟨w2.heap.size, 0, none⟩ : Addr).add j) = some u) := Lib.hid (sigs_news (cap := 1) (sigs_own (l := [(yn, x)]) (sig_lit w2 yn x) (by simp))); clear hxk; clear hkz hk0 hyz; go_wp2_with (first
                | (at_builtin; go_loud (refine wpList_append_own_at _ rfl _ _ 51 rfl W0.heap.size 103 i0 (.agg #[.string ⟨#[]⟩, .int .i64 0]) 2 24 Tryz.underlying51 hi hz0 hz1 hz2 rfl (by decide) _ L (sigCells (envS (A ++ fldK y k) vs)) rfl HROW.out ⟨w2.heap.size, 0, none⟩ 1 1 (sigCells [(yn, x)]) rfl rfl HNW.out (sigCells_one _) (by unfold maxLen; omega) (by omega) (by have := BW2.out.size; simp; omega) ?_); intro v' w3 hown hgrow _ hnew; have HOWN := Lib.hid hown; have HGR := Lib.hid hgrow; have HNEW := Lib.hid hnew; clear hown hgrow hnew))
              go_roundw
              case rel =>
                obtain ⟨po3, co3, rfl⟩ := own_form HOWN.out; have BL3 : Below W0.heap.size W0 w3 := (BW2.out.then_ (ba w2 (.cells #[.string yn, .int .i64 x] 103))).grown HGR.out (by have := BW2.out.size; simp; omega) (fun k' e => ints_block A2.out.own k' e); have BK3 : Blk w3 w1.heap.size [.string yn, .int .i64 ywd, .int .i64 z, .int .i64 ymd, .int .i64 yini] := (BF.out.alloc (.cells #[.string yn, .int .i64 x] 103)).grown HGR.out (fun e => A2.out.far _ e.symm rfl); have A3 : EnvA W0.heap.size w1.heap.size w3 po3 (L + 1) co3 (envS (A ++ fldK y (k + 1)) vs) := by
                  have e1 : envS (A ++ fldK y (k + 1)) vs = envS (A ++ fldK y k) vs ++ [(yn, x)] := by
                    rw [HST.out, ← List.append_assoc, envS_snoc]; have := A2.out.len; rw [envS_len] at this; rw [this, HVX.out]
                  refine ⟨?_, ?_, fun k' e => ?_⟩
                  · rw [e1, sigCells_snoc]; exact HOWN.out
                  · rw [e1, List.length_append, A2.out.len]; rfl
                  · rcases HNEW.out with h | h
                    · exact A2.out.far k' (h.symm.trans e)
                    · rw [h] at e; have e2 : (w2.alloc (.cells #[.string yn, .int .i64 x] 103)).heap.size = k' := (by simpa using e); have := BF.out.lt; rw [World.size_alloc] at e2; omega
                exact ⟨k + 1, L + 1, po3, co3, by omega, by omega, by go_num, by go_num, Lib.hid A3, Lib.hid BL3, Lib.hid BK3⟩
              case measure => simp [intOf]; omega
            · skip
              have g0 : decide (0 < z) = false := decide_eq_false (by omega); have hk7 : k ≤ 7 := (by omega); have HST : Hid (fldK y (k + 1) = fldK y k ++ [yn]) := Lib.hid (by rw [HFS.out k (by omega)]; rw [if_neg (by omega)]); have HVX : Hid (vs.getD L 0 = 0) := Lib.hid (by rw [List.getD_eq_getElem?_getD, List.getElem?_eq_none (by rw [HKV.out]; omega)]; rfl); have HROW : Hid ((w2.alloc (.cells #[.string yn, .int .i64 0] 103)).ownsRow W0.heap.size 103 2 (.slice po2 L co2) L (sigCells (envS (A ++ fldK y k) vs))) := Lib.hid (row_later A2.out.own (ba w2 _)); have HNW : Hid (∀ j u, (sigCells [(yn, 0)])[j]? = some u → (w2.alloc (.cells #[.string yn, .int .i64 0] 103)).cell? ((⟨w2.heap.size, 0, none⟩ : Addr).add j) = some u) := Lib.hid (sigs_news (cap := 1) (sigs_own (l := [(yn, 0)]) (sig_lit w2 yn 0) (by simp))); clear hkz hk0 hyz; go_wp2_with (first
                | (at_builtin; go_loud (refine wpList_append_own_at _ rfl _ _ 51 rfl W0.heap.size 103 i0 (.agg #[.string ⟨#[]⟩, .int .i64 0]) 2 24 Tryz.underlying51 hi hz0 hz1 hz2 rfl (by decide) _ L (sigCells (envS (A ++ fldK y k) vs)) rfl HROW.out ⟨w2.heap.size, 0, none⟩ 1 1 (sigCells [(yn, 0)]) rfl rfl HNW.out (sigCells_one _) (by unfold maxLen; omega) (by omega) (by have := BW2.out.size; simp; omega) ?_); intro v' w3 hown hgrow _ hnew; have HOWN := Lib.hid hown; have HGR := Lib.hid hgrow; have HNEW := Lib.hid hnew; clear hown hgrow hnew))
              go_roundw
              case rel =>
                obtain ⟨po3, co3, rfl⟩ := own_form HOWN.out; have BL3 : Below W0.heap.size W0 w3 := (BW2.out.then_ (ba w2 (.cells #[.string yn, .int .i64 0] 103))).grown HGR.out (by have := BW2.out.size; simp; omega) (fun k' e => ints_block A2.out.own k' e); have BK3 : Blk w3 w1.heap.size [.string yn, .int .i64 ywd, .int .i64 z, .int .i64 ymd, .int .i64 yini] := (BF.out.alloc (.cells #[.string yn, .int .i64 0] 103)).grown HGR.out (fun e => A2.out.far _ e.symm rfl); have A3 : EnvA W0.heap.size w1.heap.size w3 po3 (L + 1) co3 (envS (A ++ fldK y (k + 1)) vs) := by
                  have e1 : envS (A ++ fldK y (k + 1)) vs = envS (A ++ fldK y k) vs ++ [(yn, 0)] := by
                    rw [HST.out, ← List.append_assoc, envS_snoc]; have := A2.out.len; rw [envS_len] at this; rw [this, HVX.out]
                  refine ⟨?_, ?_, fun k' e => ?_⟩
                  · rw [e1, sigCells_snoc]; exact HOWN.out
                  · rw [e1, List.length_append, A2.out.len]; rfl
                  · rcases HNEW.out with h | h
                    · exact A2.out.far k' (h.symm.trans e)
                    · rw [h] at e; have e2 : (w2.alloc (.cells #[.string yn, .int .i64 0] 103)).heap.size = k' := (by simpa using e); have := BF.out.lt; rw [World.size_alloc] at e2; omega
                exact ⟨k + 1, L + 1, po3, co3, by omega, by omega, by go_num, by go_num, Lib.hid A3, Lib.hid BL3, Lib.hid BK3⟩
              case measure => simp [intOf]; omega
          · have e2 : ((k : Int) == 0) = false := (by rw [beq_eq_false_iff_ne]; omega); have HE : Hid (envS (varsN (fs.take (j + 1))) vs = envS (A ++ fldK y k) vs) := Lib.hid (by rw [HVT.out, HFA.out k (by omega) hk0]); have A4 : Hid (EnvA W0.heap.size w.heap.size w2 po2 L co2 (envS (varsN (fs.take (j + 1))) vs)) := Lib.hid (by rw [HE.out]; exact ⟨A2.out.own, A2.out.len, fun k' e => by have := ints_block A2.out.own k' e; have := HB0.out.lt; omega⟩); clear hkz hk0; go_wp2; go_roundw
            case rel => exact ⟨j + 1, L, po2, co2, by omega, by go_num, rfl, A4, BW2⟩
            case measure => simp [intOf]; omega
    · have hjK : j = K := (by omega); subst hjK; go_wp2; go_ret; refine ⟨_, rfl, ?_, HB.out.then_ BW.out⟩; have h1 := AW.out.own; rw [HVE.out] at h1; have h2 := AW.out.len; rw [HVE.out] at h2; have h3 := HVL.out j (Nat.le_refl _); rw [HVE.out] at h3; have h4 : (envS (varsN fs) vs).length = (varsN fs).length := envS_len _ _; rw [← h2] at h1 ⊢; exact sigs_own h1 (by omega)
end Go.Proofs.YtpejflgdehioaaaGreatDoor.ItW
namespace Go.Proofs.YtpejflgdehioaaaGreatDoor.ItW
open Go Go.RowKit Go.ChangeShapes Go.WideShapes Go.ChangeAt Go.Proofs.YtpejflgdehioaaaGreatDoor.NumM Go.Proofs.YtpejflgdehioaaaGreatDoor.LexM Go.Proofs.YtpejflgdehioaaaGreatDoor.LexW Go.Proofs.YtpejflgdehioaaaGreatDoor.ExM Go.Proofs.YtpejflgdehioaaaGreatDoor.ExW Go.Proofs.YtpejflgdehioaaaGreatDoor.ItM
theorem cellInt : Tryz.prog.cellsOf 3 = 1 := by kernel_rfl
set_option maxRecDepth 100000 in
theorem open_intl {H : Type} {enc : TypeId × Value → H} {W : World} {r : Reach} {b0 : Nat} {v : Value} {d : DataW H} {p : List MemPlace} (hval : Value.okWide Tryz.prog W r b0 50 v)
    (h : DataW.Trod enc Tryz.prog W 0 (fun _ => true) true 50 v d p) (hlt : ∀ x ∈ p, x.block < W.heap.size) :
    ∃ l : List Int, IntsL W v l := by
  obtain ⟨a0, len0, cap0, rfl⟩ := okWide_slice Tryz.underlying50 hval; obtain ⟨fuel, hf⟩ := h; have hf' : DataW.trod enc Tryz.prog W 0 (fun _ => true) true fuel 50 [.slice a0 len0 cap0] = some (d, p) := (by simpa [Value.cells] using hf); rcases open_ints Tryz.underlying50 Tryz.underlying3 cellInt hf' with ⟨hcs, _⟩ | ⟨a, len, cap, zs, hcs, _, hl, hm, hz, hx, hcell, hwz⟩
  · obtain ⟨rfl, rfl, rfl⟩ : a0 = none ∧ len0 = 0 ∧ cap0 = 0 := (by simpa using hcs); exact ⟨[], none, 0, rfl, by simp, by simp, fun x hx => by simp at hx, fun h0 => by simp at h0⟩
  · obtain ⟨rfl, rfl, rfl⟩ : a0 = some a ∧ len0 = len ∧ cap0 = cap := (by simpa using hcs); simp only [if_true] at hz; simp only [Prod.mk.injEq] at hx; obtain ⟨_, rfl⟩ := hx; have hlen : (zs.take len0).length = len0 := (by rw [List.length_take]; omega); unfold maxLen at hm; refine ⟨zs.take len0, some a, cap0, by rw [hlen], by rw [hlen]; omega, by rw [hlen]; omega, fun x hx => bounds (hwz _ (List.mem_of_mem_take hx)), fun h0 => ?_⟩; rw [hlen] at h0; obtain ⟨b, off, spot⟩ := a; have hspot : spot = none := (by simpa [Addr.add] using World.cell?_spot (hcell 0 (by omega))); subst hspot; refine ⟨b, off, rfl, hlt (.cell b off) (MemPlace.mem_row.2 ⟨0, by omega, by simp⟩), fun i x hi => ?_⟩; have hil := (List.getElem?_eq_some_iff.1 hi).1; rw [hlen] at hil; have := hcell i (by omega); rw [add_at] at this; rw [this, List.getD_eq_getElem?_getD]; rw [List.getElem?_take, if_pos hil] at hi; rw [hi]; rfl
end Go.Proofs.YtpejflgdehioaaaGreatDoor.ItW
