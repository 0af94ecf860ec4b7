/-
  What varNames returns.
-/
import Derived.Test.YtoigjeoncdfdmaaGreatDoorClValid
import Derived.Deep.RegionLaw
namespace Go.Proofs.YtoigjeoncdfdmaaGreatDoor.ClW
open Go Go.RowKit Go.Proofs.YtoigjeoncdfdmaaGreatDoor.NumM Go.Proofs.YtoigjeoncdfdmaaGreatDoor.LexW Go.Proofs.YtoigjeoncdfdmaaGreatDoor.LexM Go.Proofs.YtoigjeoncdfdmaaGreatDoor.ClM
open Go.«Sort»

def fnames (f : Fld) : List ByteArray := if f.sz = 0 then [f.nm] else (List.range f.sz.toNat).map (elm f)
theorem fvars_eq (f : Fld) : fvars f = (fnames f).map (fun n => ⟨n, f.wd, f.md, f.ini⟩) := by
  unfold fvars fnames
  split
  · rfl
  · rw [List.map_map]; rfl
theorem fnames_zero {f : Fld} (h : f.sz = 0) : fnames f = [f.nm] := if_pos h
theorem fnames_pos {f : Fld} (h : f.sz ≠ 0) : fnames f = (List.range f.sz.toNat).map (elm f) := if_neg h
theorem fnames_len {f : Fld} (h : okF f = true) : (fnames f).length ≤ 8 := by
  unfold okF at h
  rw [decide_eq_true_iff] at h
  unfold fnames
  split
  · simp
  · rw [List.length_map, List.length_range]; omega
theorem elm_text (f : Fld) {i : Nat} (h : i < 10) : f.nm ++ ⟨#[91]⟩ ++ ⟨(Lib.decDigits i).toArray⟩ ++ ⟨#[93]⟩ = elm f i := by
  apply bs_inj
  rw [dec_small h]
  unfold elm
  simp [ByteArray.data_append]
theorem fieldE_ok0 {f : Fld} (h : fieldE f = 0) : bad f.nm = false ∧ okF f = true := by
  unfold fieldE at h
  split at h
  · cases h
  · rename_i h1
    split at h
    · rename_i h2; exact ⟨by simpa using h1, h2⟩
    · cases h
theorem nm_size {n : ByteArray} (h : bad n = false) : n.size ≤ 16 := by
  unfold bad at h
  rw [Bool.not_eq_false'] at h
  unfold nmB at h
  show n.data.size ≤ 16
  rw [← Array.length_toList]
  cases hd : n.data.toList with
  | nil => simp
  | cons a r =>
    rw [hd] at h
    simp only [Bool.and_eq_true, decide_eq_true_eq] at h
    rw [List.length_cons]
    exact h.1
set_option maxRecDepth 100000 in
set_option maxHeartbeats 8000000 in
theorem varNames_any (f : Fld) (w : World) (hf : fieldE f = 0) : Calls Tryz.prog 31 #[fv f.nm f.wd f.sz f.md f.ini] w (tStrs (fnames f) w) := by
  obtain ⟨hbad, hok⟩ := fieldE_ok0 hf
  have hs := nm_size hbad
  have hn8 := fnames_len hok
  have hok2 := hok
  unfold okF at hok2
  rw [decide_eq_true_iff] at hok2
  obtain ⟨i0, hi, hz0, hz1, hz2⟩ := info_parts infoS
  have FB := Blk.new w [.string f.nm, .int .i64 f.wd, .int .i64 f.sz, .int .i64 f.md, .int .i64 f.ini] 27
  have hb0 := ba w (.cells #[.string f.nm, .int .i64 f.wd, .int .i64 f.sz, .int .i64 f.md, .int .i64 f.ini] 27)
  have HB0 := Lib.hid hb0
  have HF := Lib.hid FB
  have c0 := FB.c 0 _ rfl
  have c1 := FB.c 1 _ rfl
  have c2 := FB.c 2 _ rfl
  have c3 := FB.c 3 _ rfl
  have c4 := FB.c 4 _ rfl
  clear hf hbad hok FB hb0
  by_cases hz : f.sz = 0
  · have E := Lib.hid (fnames_zero hz)
    rw [E.out]
    have HZ := Lib.hid hz
    rw [hz] at c2
    have hf0 : (fv f.nm f.wd f.sz f.md f.ini) = (fv f.nm f.wd 0 f.md f.ini) := by rw [hz]
    rw [hf0]
    rw [hz] at HF HB0 c0 c1 c3 c4
    clear hz hok2 hn8 hf0 E
    go_enter Tryz.func31, Tryz.ntmps31
    go_wp2
    go_ret
    refine ⟨_, rfl, ⟨rfl, .inr ⟨w.heap.size + 1, 1, #[.string f.nm], rfl, Nat.le_succ _, ?_, Nat.le_refl _, by decide, rfl, rfl⟩⟩, HB0.out.then_ (ba _ _)⟩
    have := heap_alloc_new (w.alloc (.cells #[.string f.nm, .int .i64 f.wd, .int .i64 0, .int .i64 f.md, .int .i64 f.ini] 27)) (.cells #[.string f.nm] 9)
    rw [World.size_alloc] at this
    exact this
  · have E := Lib.hid (fnames_pos hz)
    obtain ⟨K, hK⟩ : ∃ K : Nat, f.sz = K := ⟨f.sz.toNat, by omega⟩
    have hk : K ≤ 8 := by omega
    have hk0 : ¬ (K : Int) = 0 := by omega
    have hke : ((K : Int) == 0) = false := by rw [beq_eq_false_iff_ne]; exact hk0
    have EK : Hid (∀ j, j < K → (fnames f)[j]? = some (elm f j)) := Lib.hid (fun j hj => by
      rw [E.out, hK, List.getElem?_map, List.getElem?_range (by simpa using hj)]; rfl)
    have EL : Hid ((fnames f).length = K) := Lib.hid (by rw [E.out, hK, List.length_map, List.length_range]; rfl)
    have TX : Hid (∀ j, j < K → f.nm ++ ⟨#[91]⟩ ++ ⟨(Lib.decDigits j).toArray⟩ ++ ⟨#[93]⟩ = elm f j) := Lib.hid (fun j hj => elm_text f (by omega))
    have DS : Hid (∀ j, j < K → (⟨(Lib.decDigits j).toArray⟩ : ByteArray).size = 1) := Lib.hid (fun j hj => by rw [dec_small (by omega)]; rfl)
    rw [hK] at c2 c0 c1 c3 c4 HF HB0
    have hf0 : (fv f.nm f.wd f.sz f.md f.ini) = (fv f.nm f.wd K f.md f.ini) := by rw [hK]
    rw [hf0]
    generalize fnames f = l at *
    have HE : Hid (∀ j, j < K → ∃ t, l[j]? = some t ∧ f.nm ++ ⟨#[91]⟩ ++ ⟨(Lib.decDigits j).toArray⟩ ++ ⟨#[93]⟩ = t) := Lib.hid (fun j hj => ⟨_, EK.out j hj, TX.out j hj⟩)
    clear hz hok2 hn8 hf0 E hK EK TX
    generalize f.nm = nm at *
    generalize f.wd = wd at *
    generalize f.md = md at *
    generalize f.ini = ini at *
    have HO0 := Lib.hid (World.ownsRow_nil (w.alloc (.cells #[.string nm, .int .i64 wd, .int .i64 (K : Int), .int .i64 md, .int .i64 ini] 27)) (w.heap.size + 1) 9 1)
    go_enter Tryz.func31, Tryz.ntmps31
    go_wp2
    go_loopw [3, 13] (fun u i wr => ∃ j : Nat, j ≤ K ∧ i = .int .i64 j ∧ Hid (wr.ownsRow (w.heap.size + 1) 9 1 u j ((l.take j).map Value.string)) ∧ Hid (Below w.heap.size w wr) ∧ Hid (Blk wr w.heap.size [.string nm, .int .i64 wd, .int .i64 K, .int .i64 md, .int .i64 ini])) (fun _ i _ => K - (intOf i).toNat)
    case atStart => exact ⟨0, Nat.zero_le _, rfl, HO0, HB0, HF⟩
    case round =>
      obtain ⟨j, hj, rfl, OW, BW, BK⟩ := hrel
      (try clear c0); (try clear c1); (try clear c2); (try clear c3); (try clear c4)
      by_cases hlt : j < K
      · obtain ⟨t, ht, hx⟩ := HE.out j hlt
        obtain ⟨D, hD⟩ : ∃ D : ByteArray, ⟨(Lib.decDigits j).toArray⟩ = D := ⟨_, rfl⟩
        have hD1 := DS.out j hlt
        rw [hD] at hD1 hx
        have IC : Hid (∀ W, Calls Tryz.prog 59 #[.int .i64 j] W fun e w' => e = .returned (.string D) ∧ w' = W) := Lib.hid (fun W => by
          have := Tryz.strconv_Itoa_small j (by omega) W
          rw [hD] at this
          exact this)
        have HX := Lib.hid hx
        have MS := Lib.hid (map_snoc (f := Value.string) ht)
        have d0 := BK.out.c 0 _ rfl
        have dl := BK.out.lt
        have wl := BW.out.size
        obtain ⟨q, qc, rfl⟩ := own_len OW.out
        have g1 : ¬ 9223372036854775807 < nm.size + 1 := by omega
        have g2 : ¬ 9223372036854775807 < nm.size + 1 + D.size := by omega
        have g3 : ¬ 9223372036854775807 < nm.size + 1 + D.size + 1 := by omega
        clear hD ht hx hD1
        go_wp2
        go_region_law (first
          | ((refine step_append_lies _ rfl (.tmp 16) (.tmp 24) 45 rfl (w.heap.size + 1) 9 i0 (.string ⟨#[]⟩) 1 16 Tryz.underlying45 hi hz0 hz1 hz2 rfl (by decide) (.slice q j qc) j ((l.take j).map Value.string) (by simp [Act.eval]) (own_later OW.out (by first | exact ba _ _ | exact (ba _ _).drew | exact ((Below.refl _ _).drew).alloc (Nat.le_refl _) _)) ⟨wr.heap.size, 0, none⟩ 1 1 [.string (nm ++ ⟨#[91]⟩ ++ D ++ ⟨#[93]⟩)] (by simp [Act.eval]) rfl (by first | exact cell_one_at rfl _ _) (by simp [Value.oneCell']) (by omega) (by unfold maxLen; omega) (by omega) (by simp; omega) _ rfl ?_; intro g7 k7 w7 hown hgr hat hlt2; have HO7 := Lib.hid hown; have HG7 := Lib.hid hgr; clear hown hgr hat hlt2))
          | (go_simp; go_at_call 59; (with_reducible refine (IC.out _).mono ?_); rintro e w4 ⟨rfl, rfl⟩))
        all_goals
          go_wp2_with fail
          go_roundw
          case rel =>
            have hb7 : Below w.heap.size w _ := ((BW.out.then_ (ba wr (.cells #[.string (nm ++ ⟨#[91]⟩ ++ D ++ ⟨#[93]⟩)] 9))).drew).grown HG7.out (by show w.heap.size ≤ (wr.alloc _).heap.size; simp; omega) (fun k e => Nat.le_of_succ_le (OW.out.lt k e).1)
            refine ⟨j + 1, by omega, by go_num, Lib.hid (by rw [MS.out, ← HX.out]; exact HO7.out), Lib.hid hb7, Lib.hid ((BK.out.stay ((ba wr (.cells #[.string (nm ++ ⟨#[91]⟩ ++ D ++ ⟨#[93]⟩)] 9)).drew)).grown HG7.out (fun e => by have := (OW.out.lt _ e.symm).1; omega))⟩
          case measure => simp [intOf]; omega
      · have hjK : j = K := by omega
        have OF : Hid (wr.ownsRow (w.heap.size + 1) 9 1 u3 l.length (l.map Value.string)) := Lib.hid (by have := OW.out; rw [hjK, List.take_of_length_le (by rw [EL.out]; exact Nat.le_refl _)] at this; rw [EL.out]; exact this)
        go_wp2
        go_ret
        exact ⟨_, rfl, own_low OF.out (Nat.le_succ _), BW.out⟩
end Go.Proofs.YtoigjeoncdfdmaaGreatDoor.ClW
