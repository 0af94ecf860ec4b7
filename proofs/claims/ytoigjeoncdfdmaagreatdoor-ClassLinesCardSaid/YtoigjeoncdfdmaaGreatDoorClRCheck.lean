/-
  What the specification's Check, line, Line and Flatten return.
-/
import Derived.Test.YtoigjeoncdfdmaaGreatDoorClRFlat
namespace Go.Proofs.YtoigjeoncdfdmaaGreatDoor.ClW
open Go Go.RowKit Go.Proofs.YtoigjeoncdfdmaaGreatDoor.NumM Go.Proofs.YtoigjeoncdfdmaaGreatDoor.LexW Go.Proofs.YtoigjeoncdfdmaaGreatDoor.LexM Go.Proofs.YtoigjeoncdfdmaaGreatDoor.ClM

theorem fnd_take {l : List Cl} {j : Nat} {x : ByteArray} : (fnd (l.take j) x).isSome = true ↔ x ∈ (l.map Cl.nm).take j := by
  rw [← List.map_take]
  cases h : fnd (l.take j) x with
  | none =>
    rw [find_none] at h
    constructor
    · intro e; cases e
    · intro hm
      obtain ⟨c, hc, e⟩ := List.mem_map.1 hm
      exact absurd e (h c hc)
  | some c =>
    obtain ⟨h1, rfl⟩ := find_mem h
    exact ⟨fun _ => List.mem_map_of_mem h1, fun _ => rfl⟩
theorem lineR_len (src : List Cl) (c : Cl) : (lineR src c).length ≤ 40 := by
  have := (chain_len src 32 c).1
  unfold lineR
  omega
theorem any_all {α : Type} {l : List α} {q : α → Bool} {k : Nat} (hk : l.length ≤ k) (hn : (l.take k).any q = false) : l.any q = false := by rw [List.take_of_length_le hk] at hn; exact hn
set_option maxRecDepth 100000 in
set_option maxHeartbeats 16000000 in
theorem checkR_any (src : List Cl) (p : Option Addr) (cap : Nat) (G : Nat → Nat → Value) (N : Nat) (w : World) (ha : RowA (Lo N) w .classes p cap G (src.map Cl.lf)) (hN : N ≤ w.heap.size) :
    Calls Tryz.prog 21 #[.slice p src.length cap] w (tInt (checkR src) w) := by
  by_cases hn : 32 < src.length
  · have E : Hid (checkR src = 2) := Lib.hid (by unfold checkR; rw [if_pos hn])
    have hl := ha.hl
    rw [List.length_map] at hl
    simp only [byt] at hl
    have hn1 : (32 : Int) < src.length := by omega
    rw [E.out]
    clear E hn ha
    generalize src.length = K at *
    go_enter Tryz.func21, Tryz.ntmps21
    go_wp2
    go_ret
    exact ⟨rfl, Below.refl _ _⟩
  · have E : Hid (checkR src = if firstE (src.map validE) ≠ 0 then firstE (src.map validE) else famR src) := Lib.hid (by unfold checkR; rw [if_neg hn])
    have HAW : Hid (∀ W, Below w.heap.size w W → RowA (Lo N) W .classes p cap G (src.map Cl.lf)) := Lib.hid fun W hW => ha.under (hW.mono hN)
    have hcap := ha.hc
    rw [List.length_map] at hcap
    have FC : Hid (∀ x W, Below w.heap.size w W → Calls Tryz.prog 19 #[.slice p src.length cap, .string x] W (tFnd N (fnd src x) W)) := Lib.hid fun x W hW => find_any src x p cap G N W (HAW.out W hW) (Nat.le_trans hN hW.size)
    have UC : Hid (∀ c W pf cf pb cb, Below w.heap.size w W → CV (Lo N) W pf cf pb cb c → Calls Tryz.prog 50 #[.slice p src.length cap, cv c.nm c.par (.slice pf c.fs.length cf) (.slice pb c.bs.length cb)] W (tLine N (lineR src c) W)) := Lib.hid fun c W pf cf pb cb hW hc => up_any src c p cap G pf cf pb cb N W (HAW.out W hW) hc (Nat.le_trans hN hW.size)
    obtain ⟨K, hK⟩ : ∃ K, src.length = K := ⟨_, rfl⟩
    have HK := Lib.hid hK
    have T2 : Hid (∀ j x W, j ≤ K → Below w.heap.size w W → Calls Tryz.prog 19 #[.slice p j cap, .string x] W (tFnd N (fnd (src.take j) x) W)) := Lib.hid fun j x W hj hW => by
      have := find_any (src.take j) x p cap G N W (by have := (HAW.out W hW).take j (by rw [List.length_map, hK]; exact hj); rw [← List.map_take] at this; exact this) (Nat.le_trans hN hW.size)
      rw [take_len hK hj] at this
      exact this
    rw [hK] at hn FC UC hcap ⊢
    have hk : K ≤ 32 := by omega
    have hn1 : decide ((32 : Int) < K) = false := decide_eq_false (by omega)
    have HB0 := Lib.hid (Below.refl w.heap.size w)
    clear hK hn ha
    go_enter Tryz.func21, Tryz.ntmps21
    go_wp2
    go_loopw [3] (fun i wr => ∃ j : Nat, j ≤ K ∧ i = .int .i64 j ∧ Hid (∀ x ∈ (src.map validE).take j, x = 0) ∧ Hid (Below w.heap.size w wr)) (fun i _ => K - (intOf i).toNat)
    case atStart => exact ⟨0, Nat.zero_le _, rfl, Lib.hid (by simp), HB0⟩
    case round =>
      clear HB0
      obtain ⟨j, hj, rfl, FZ, BW⟩ := hrel
      clear hn1
      by_cases hlt : j < K
      · obtain ⟨c, hc⟩ : ∃ c, src[j]? = some c := ⟨_, List.getElem?_eq_getElem (by rw [HK.out]; exact hlt)⟩
        obtain ⟨b, off, pf, cf, pb, cb, rfl, hb, c0, c1, c2, c3, hcv⟩ := (HAW.out wr BW.out).cl hc
        have VC := Lib.hid (validR_any c pf cf pb cb N wr hcv (Nat.le_trans hN BW.out.size))
        have HC := Lib.hid hc
        clear hc hcv hb
        by_cases hz : validE c = 0
        · have FZ2 := Lib.hid (zero_next HC.out FZ.out hz)
          rw [hz] at VC
          clear hz
          go_wp2_with (go_at_call 16; ((with_reducible refine VC.out.mono ?_); rintro e w9 ⟨rfl, hb9⟩; have HB9 := Lib.hid (BW.out.then_ hb9); clear hb9))
          go_roundw
          case rel => exact ⟨j + 1, by omega, by go_num, FZ2, HB9⟩
          case measure => simp [intOf]; omega
        · have E2 : Hid (validE c = checkR src) := Lib.hid (by have := zero_here HC.out FZ.out hz; rw [E.out, this, if_pos hz])
          have hze : (validE c == 0) = false := by rw [beq_eq_false_iff_ne]; exact hz
          have hzn : ¬ validE c = 0 := hz
          generalize validE c = q at *
          clear hz
          go_wp2_with (go_at_call 16; ((with_reducible refine VC.out.mono ?_); rintro e w9 ⟨rfl, hb9⟩; have HB9 := Lib.hid (BW.out.then_ hb9); clear hb9))
          go_ret
          exact tInt_mk E2.out HB9.out
      · have FZ2 := Lib.hid (zero_all (k := j) (by rw [HK.out]; omega) FZ.out)
        have E2 : Hid (checkR src = famR src) := Lib.hid (by rw [E.out, FZ2.out]; rfl)
        have HSM : Hid (∀ d ∈ src, d.fs.length ≤ 16 ∧ d.bs.length ≤ 16) := Lib.hid (fun d hd => val_small (firstE_zero.1 FZ2.out _ (List.mem_map_of_mem hd)))
        clear E FZ FZ2
        go_wp2
        obtain ⟨wa, rfl⟩ : ∃ x, x = wr := ⟨_, rfl⟩
        go_loopw [5] (fun i wr => ∃ j : Nat, j ≤ K ∧ i = .int .i64 j ∧ Hid (dupB ((src.map Cl.nm).take j) = false) ∧ Hid (Below w.heap.size w wr)) (fun i _ => K - (intOf i).toNat)
        case atStart => exact ⟨0, Nat.zero_le _, rfl, Lib.hid rfl, BW⟩
        case round =>
          clear BW hj hlt
          obtain ⟨j, hj, rfl, FZ, BW⟩ := hrel
          by_cases hlt : j < K
          · obtain ⟨c, hc⟩ : ∃ c, src[j]? = some c := ⟨_, List.getElem?_eq_getElem (by rw [HK.out]; exact hlt)⟩
            obtain ⟨b, off, pf, cf, pb, cb, rfl, hb, c0, c1, c2, c3, hcv⟩ := (HAW.out wr BW.out).cl hc
            have VC : Hid (∀ W, Below w.heap.size w W → Calls Tryz.prog 19 #[.slice (some ⟨b, off, none⟩) j cap, .string c.nm] W (tFnd N (fnd (src.take j) c.nm) W)) := Lib.hid fun W hW => T2.out j c.nm W hj hW
            have HC := Lib.hid hc
            have hjc : j ≤ cap := by omega
            have hle := BW.out.size
            have hbl : b < wr.heap.size := Nat.lt_of_lt_of_le hb (Nat.le_trans hN hle)
            cases hz : (fnd (src.take j) c.nm).isSome
            · have FZ2 : Hid (dupB ((src.map Cl.nm).take (j + 1)) = false) := Lib.hid (dupB_step (x := c.nm) (by rw [List.getElem?_map, hc]; rfl) FZ.out (fun hm => by rw [fnd_take.2 hm] at hz; cases hz))
              have HZ := Lib.hid hz
              clear hc hcv hb hz
              go_wp2
              go_region_law (go_simp; go_at_call 19; (with_reducible refine (VC.out _ ?_).mono ?_); (first | exact BW.out | exact BW.out.drew | exact (BW.out.then_ (ba _ _)).drew); rintro e w5 ⟨qf, kf, qb, kb, rfl, _, hb5⟩; rw [HZ.out]; (try (have Z5 := (Blk.new wr [.string ⟨#[]⟩, .string ⟨#[]⟩, .slice none 0 0, .slice none 0 0] 25).drew.stay hb5; have z0 := Z5.c 0 _ rfl; have z1 := Z5.c 1 _ rfl; have z2 := Z5.c 2 _ rfl; have z3 := Z5.c 3 _ rfl; have y0 := Z5.f 0; have y1 := Z5.f 1; have y2 := Z5.f 2; have y3 := Z5.f 3; have zl := Z5.lt; clear Z5)); have HB5 : Hid (Below w.heap.size w w5) := Lib.hid (by first | exact BW.out.then_ hb5 | exact BW.out.drew.then_ hb5 | exact ((BW.out.then_ (ba _ _)).drew).then_ hb5); clear hb5)
              all_goals
                go_wp2_with fail
                go_roundw
                case rel => exact ⟨j + 1, by omega, by go_num, FZ2, Lib.hid (by first | exact HB5.out.then_ (ba _ _) | exact (((HB5.out.setCell (p := ⟨wr.heap.size, 0, none⟩) hle _).setCell (p := ⟨wr.heap.size, 1, none⟩) hle _).setCell (p := ⟨wr.heap.size, 2, none⟩) hle _).setCell (p := ⟨wr.heap.size, 3, none⟩) hle _)⟩
                case measure => simp [intOf]; omega
            · have E3 : Hid (8 = checkR src) := Lib.hid (by rw [E2.out]; unfold famR; rw [dupB_yes (k := j) (x := c.nm) (by rw [List.getElem?_map, hc]; rfl) (fnd_take.1 hz)]; rfl)
              have HZ := Lib.hid hz
              clear hc hcv hb hz
              go_wp2
              go_region_law (go_simp; go_at_call 19; (with_reducible refine (VC.out _ ?_).mono ?_); (first | exact BW.out | exact BW.out.drew | exact (BW.out.then_ (ba _ _)).drew); rintro e w5 ⟨qf, kf, qb, kb, rfl, _, hb5⟩; rw [HZ.out]; (try (have Z5 := (Blk.new wr [.string ⟨#[]⟩, .string ⟨#[]⟩, .slice none 0 0, .slice none 0 0] 25).drew.stay hb5; have z0 := Z5.c 0 _ rfl; have z1 := Z5.c 1 _ rfl; have z2 := Z5.c 2 _ rfl; have z3 := Z5.c 3 _ rfl; have y0 := Z5.f 0; have y1 := Z5.f 1; have y2 := Z5.f 2; have y3 := Z5.f 3; have zl := Z5.lt; clear Z5)); have HB5 : Hid (Below w.heap.size w w5) := Lib.hid (by first | exact BW.out.then_ hb5 | exact BW.out.drew.then_ hb5 | exact ((BW.out.then_ (ba _ _)).drew).then_ hb5); clear hb5)
              all_goals
                go_wp2_with fail
                go_ret
                exact tInt_mk E3.out (by first | exact HB5.out.then_ (ba _ _) | exact (((HB5.out.setCell (p := ⟨wr.heap.size, 0, none⟩) hle _).setCell (p := ⟨wr.heap.size, 1, none⟩) hle _).setCell (p := ⟨wr.heap.size, 2, none⟩) hle _).setCell (p := ⟨wr.heap.size, 3, none⟩) hle _)
          · have FZ2 : Hid (dupB (src.map Cl.nm) = false) := Lib.hid (dup_all (j := j) (by rw [List.length_map, HK.out]; omega) FZ.out)
            have E3 : Hid (checkR src = if src.any (orphan src) = true then 7 else if src.any (fun c => decide (src.length < (lineR src c).length)) = true then 10 else if src.any (fun c => inhB (lineR src c)) = true then 8 else if src.any (fun c => large (flatL (lineR src c))) = true then 2 else 0) := Lib.hid (by rw [E2.out]; unfold famR; rw [FZ2.out]; rfl)
            clear E2 FZ FZ2 T2
            go_wp2
            obtain ⟨wb, rfl⟩ : ∃ x, x = wr := ⟨_, rfl⟩
            go_loopw [8] (fun i wr => ∃ j : Nat, j ≤ K ∧ i = .int .i64 j ∧ Hid ((src.take j).any (orphan src) = false) ∧ Hid (Below w.heap.size w wr)) (fun i _ => K - (intOf i).toNat)
            case atStart => exact ⟨0, Nat.zero_le _, rfl, Lib.hid rfl, BW⟩
            case round =>
              clear BW hj hlt
              obtain ⟨j, hj, rfl, FZ, BW⟩ := hrel
              by_cases hlt : j < K
              · obtain ⟨c, hc⟩ : ∃ c, src[j]? = some c := ⟨_, List.getElem?_eq_getElem (by rw [HK.out]; exact hlt)⟩
                obtain ⟨b, off, pf, cf, pb, cb, rfl, hb, c0, c1, c2, c3, hcv⟩ := (HAW.out wr BW.out).cl hc
                have VC := Lib.hid (FC.out c.par wr BW.out)
                have HC := Lib.hid hc
                have hle := BW.out.size
                have hbl : b < wr.heap.size := Nat.lt_of_lt_of_le hb (Nat.le_trans hN hle)
                have C1 : Hid (∀ W, Below wr.heap.size wr W → W.cell? ⟨b, off + j * 4 + 1, none⟩ = some (.string c.par)) := Lib.hid fun W hW => (hW.cell (p := ⟨b, off + j * 4 + 1, none⟩) hbl).trans c1
                clear hcv hb c0 c2 c3
                cases hs : same c.par emp
                · have e1 := same_nil hs
                  cases ho : fnd src c.par with
                  | none =>
                    have hq : orphan src c = true := by unfold orphan; rw [hs, ho]; rfl
                    have E4 : Hid (7 = checkR src) := Lib.hid (by rw [E3.out, any_at (q := orphan src) HC.out hq]; rfl)
                    rw [ho] at VC
                    clear hs ho hq hc
                    go_wp2_with (go_at_call 19; ((with_reducible refine VC.out.mono ?_); rintro e w5 ⟨qf, kf, qb, kb, rfl, _, hb5⟩; have d1 := C1.out w5 hb5; have hbl5 := Nat.lt_of_lt_of_le hbl hb5.size; have HB5 := Lib.hid (BW.out.then_ hb5); clear hb5 c1))
                    go_ret
                    exact tInt_mk E4.out (HB5.out.then_ (ba _ _))
                  | some d =>
                    have hq : orphan src c = false := by unfold orphan; rw [hs, ho]; rfl
                    have FZ2 := Lib.hid (any_next (q := orphan src) HC.out hq FZ.out)
                    rw [ho] at VC
                    clear hs ho hq hc
                    go_wp2_with (go_at_call 19; ((with_reducible refine VC.out.mono ?_); rintro e w5 ⟨qf, kf, qb, kb, rfl, _, hb5⟩; have d1 := C1.out w5 hb5; have hbl5 := Nat.lt_of_lt_of_le hbl hb5.size; have HB5 := Lib.hid (BW.out.then_ hb5); clear hb5 c1))
                    go_roundw
                    case rel => exact ⟨j + 1, by omega, by go_num, FZ2, Lib.hid (HB5.out.then_ (ba _ _))⟩
                    case measure => simp [intOf]; omega
                · have e1 := same_nil hs
                  have hq : orphan src c = false := by unfold orphan; rw [hs]; rfl
                  have FZ2 := Lib.hid (any_next (q := orphan src) HC.out hq FZ.out)
                  clear hs hq hc
                  go_wp2_with (go_at_call 19; ((with_reducible refine VC.out.mono ?_); rintro e w5 ⟨qf, kf, qb, kb, rfl, _, hb5⟩; have d1 := C1.out w5 hb5; have hbl5 := Nat.lt_of_lt_of_le hbl hb5.size; have HB5 := Lib.hid (BW.out.then_ hb5); clear hb5 c1))
                  go_roundw
                  case rel => exact ⟨j + 1, by omega, by go_num, FZ2, Lib.hid (HB5.out.then_ (ba _ _))⟩
                  case measure => simp [intOf]; omega
              · have FZ2 : Hid (src.any (orphan src) = false) := Lib.hid (any_all (k := j) (by rw [HK.out]; omega) FZ.out)
                have E4 : Hid (checkR src = if src.any (fun c => decide (src.length < (lineR src c).length)) = true then 10 else if src.any (fun c => inhB (lineR src c)) = true then 8 else if src.any (fun c => large (flatL (lineR src c))) = true then 2 else 0) := Lib.hid (by rw [E3.out, FZ2.out]; rfl)
                clear E3 FZ FZ2 FC
                go_wp2
                obtain ⟨wc, rfl⟩ : ∃ x, x = wr := ⟨_, rfl⟩
                go_loopw [11] (fun i wr => ∃ j : Nat, j ≤ K ∧ i = .int .i64 j ∧ Hid ((src.take j).any (fun c => decide (src.length < (lineR src c).length)) = false) ∧ Hid (Below w.heap.size w wr)) (fun i _ => K - (intOf i).toNat)
                case atStart => exact ⟨0, Nat.zero_le _, rfl, Lib.hid rfl, BW⟩
                case round =>
                  clear BW hj hlt
                  obtain ⟨j, hj, rfl, FZ, BW⟩ := hrel
                  by_cases hlt : j < K
                  · obtain ⟨c, hc⟩ : ∃ c, src[j]? = some c := ⟨_, List.getElem?_eq_getElem (by rw [HK.out]; exact hlt)⟩
                    obtain ⟨b, off, pf, cf, pb, cb, rfl, hb, c0, c1, c2, c3, hcv⟩ := (HAW.out wr BW.out).cl hc
                    have VC : Hid (∀ W, Below wr.heap.size wr W → Calls Tryz.prog 50 #[.slice (some ⟨b, off, none⟩) K cap, cv c.nm c.par (.slice pf c.fs.length cf) (.slice pb c.bs.length cb)] W (tLine N (lineR src c) W)) := Lib.hid fun W hW => UC.out c W pf cf pb cb (BW.out.then_ hW) (hcv.under (hW.mono (Nat.le_trans hN BW.out.size)))
                    have HC := Lib.hid hc
                    obtain ⟨D, hD⟩ : ∃ D, (lineR src c).length = D := ⟨_, rfl⟩
                    have HD := Lib.hid hD
                    clear hc hcv hb hD
                    by_cases hz : K < D
                    · have E5 : Hid (10 = checkR src) := Lib.hid (by rw [E4.out, any_at (q := fun c => decide (src.length < (lineR src c).length)) HC.out (decide_eq_true (by rw [HK.out, HD.out]; exact hz))]; rfl)
                      go_wp2_with (go_at_call 50; ((with_reducible refine (VC.out _ (Below.refl _ _)).mono ?_); rintro e w5 ⟨v5, rfl, hl5, hb5⟩; obtain ⟨q5, k5, rfl⟩ := own_len hl5.choose_spec.1; rw [HD.out]; have HB5 := Lib.hid (BW.out.then_ hb5); clear hb5 hl5))
                      go_ret
                      exact tInt_mk E5.out HB5.out
                    · have FZ2 := Lib.hid (any_next (q := fun c => decide (src.length < (lineR src c).length)) HC.out (decide_eq_false (by rw [HK.out, HD.out]; exact hz)) FZ.out)
                      go_wp2_with (go_at_call 50; ((with_reducible refine (VC.out _ (Below.refl _ _)).mono ?_); rintro e w5 ⟨v5, rfl, hl5, hb5⟩; obtain ⟨q5, k5, rfl⟩ := own_len hl5.choose_spec.1; rw [HD.out]; have HB5 := Lib.hid (BW.out.then_ hb5); clear hb5 hl5))
                      go_roundw
                      case rel => exact ⟨j + 1, by omega, by go_num, FZ2, HB5⟩
                      case measure => simp [intOf]; omega
                  · have FZ2 : Hid (src.any (fun c => decide (src.length < (lineR src c).length)) = false) := Lib.hid (any_all (k := j) (by rw [HK.out]; omega) FZ.out)
                    have E5 : Hid (checkR src = if src.any (fun c => inhB (lineR src c)) = true then 8 else if src.any (fun c => large (flatL (lineR src c))) = true then 2 else 0) := Lib.hid (by rw [E4.out, FZ2.out]; rfl)
                    clear E4 FZ FZ2
                    go_wp2
                    obtain ⟨wd, rfl⟩ : ∃ x, x = wr := ⟨_, rfl⟩
                    go_loopw [12] (fun i wr => ∃ j : Nat, j ≤ K ∧ i = .int .i64 j ∧ Hid ((src.take j).any (fun c => inhB (lineR src c)) = false) ∧ Hid (Below w.heap.size w wr)) (fun i _ => K - (intOf i).toNat)
                    case atStart => exact ⟨0, Nat.zero_le _, rfl, Lib.hid rfl, BW⟩
                    case round =>
                      clear BW hj hlt
                      obtain ⟨j, hj, rfl, FZ, BW⟩ := hrel
                      by_cases hlt : j < K
                      · obtain ⟨c, hc⟩ : ∃ c, src[j]? = some c := ⟨_, List.getElem?_eq_getElem (by rw [HK.out]; exact hlt)⟩
                        obtain ⟨b, off, pf, cf, pb, cb, rfl, hb, c0, c1, c2, c3, hcv⟩ := (HAW.out wr BW.out).cl hc
                        have VC : Hid (∀ W, Below wr.heap.size wr W → Calls Tryz.prog 50 #[.slice (some ⟨b, off, none⟩) K cap, cv c.nm c.par (.slice pf c.fs.length cf) (.slice pb c.bs.length cb)] W (tLine N (lineR src c) W)) := Lib.hid fun W hW => UC.out c W pf cf pb cb (BW.out.then_ hW) (hcv.under (hW.mono (Nat.le_trans hN BW.out.size)))
                        have HC := Lib.hid hc
                        have IC : Hid (∀ q k M W, RowA (Lo W.heap.size) W .classes q k M ((lineR src c).map Cl.lf) → Calls Tryz.prog 51 #[.slice q (lineR src c).length k] W (tBool (inhB (lineR src c)) W)) := Lib.hid fun q k M W h => by
                          obtain ⟨r, hr⟩ := chain_head src 32 c
                          unfold lineR at h ⊢
                          rw [hr] at h ⊢
                          exact inherited_any c r q k M W.heap.size W h (Nat.le_refl _)
                        have LL := Lib.hid (lineR_len src c)
                        obtain ⟨D, hD⟩ : ∃ D, (lineR src c).length = D := ⟨_, rfl⟩
                        have HD := Lib.hid hD
                        rw [hD] at IC
                        clear hc hcv hb hD
                        cases hz : inhB (lineR src c)
                        · have FZ2 := Lib.hid (any_next (q := fun c => inhB (lineR src c)) HC.out hz FZ.out)
                          rw [hz] at IC
                          clear hz
                          go_wp2_with (first
                            | (go_at_call 50; ((with_reducible refine (VC.out _ (Below.refl _ _)).mono ?_); rintro e w5 ⟨v5, rfl, hl5, hb5⟩; obtain ⟨q5, k5, G5, rfl, r5⟩ := hl5.toLo (by have := LL.out; omega) (Nat.le_trans (Nat.le_trans hN BW.out.size) hb5.size); have IC5 := Lib.hid (IC.out q5 k5 G5 w5 r5); rw [HD.out]; have HB5 := Lib.hid (BW.out.then_ hb5); clear hb5 hl5 r5))
                            | (go_at_call 51; ((with_reducible refine IC5.out.mono ?_); rintro e w6 ⟨rfl, hb6⟩; have HB6 := Lib.hid (HB5.out.then_ hb6); clear hb6)))
                          go_roundw
                          case rel => exact ⟨j + 1, by omega, by go_num, FZ2, HB6⟩
                          case measure => simp [intOf]; omega
                        · have E6 : Hid (8 = checkR src) := Lib.hid (by rw [E5.out, any_at (q := fun c => inhB (lineR src c)) HC.out hz]; rfl)
                          rw [hz] at IC
                          clear hz
                          go_wp2_with (first
                            | (go_at_call 50; ((with_reducible refine (VC.out _ (Below.refl _ _)).mono ?_); rintro e w5 ⟨v5, rfl, hl5, hb5⟩; obtain ⟨q5, k5, G5, rfl, r5⟩ := hl5.toLo (by have := LL.out; omega) (Nat.le_trans (Nat.le_trans hN BW.out.size) hb5.size); have IC5 := Lib.hid (IC.out q5 k5 G5 w5 r5); rw [HD.out]; have HB5 := Lib.hid (BW.out.then_ hb5); clear hb5 hl5 r5))
                            | (go_at_call 51; ((with_reducible refine IC5.out.mono ?_); rintro e w6 ⟨rfl, hb6⟩; have HB6 := Lib.hid (HB5.out.then_ hb6); clear hb6)))
                          go_ret
                          exact tInt_mk E6.out HB6.out
                      · have FZ2 : Hid (src.any (fun c => inhB (lineR src c)) = false) := Lib.hid (any_all (k := j) (by rw [HK.out]; omega) FZ.out)
                        have E6 : Hid (checkR src = if src.any (fun c => large (flatL (lineR src c))) = true then 2 else 0) := Lib.hid (by rw [E5.out, FZ2.out]; rfl)
                        clear E5 FZ FZ2
                        go_wp2
                        obtain ⟨we, rfl⟩ : ∃ x, x = wr := ⟨_, rfl⟩
                        go_loopw [13] (fun i wr => ∃ j : Nat, j ≤ K ∧ i = .int .i64 j ∧ Hid ((src.take j).any (fun c => large (flatL (lineR src c))) = false) ∧ Hid (Below w.heap.size w wr)) (fun i _ => K - (intOf i).toNat)
                        case atStart => exact ⟨0, Nat.zero_le _, rfl, Lib.hid rfl, BW⟩
                        case round =>
                          clear BW hj hlt
                          obtain ⟨j, hj, rfl, FZ, BW⟩ := hrel
                          by_cases hlt : j < K
                          · obtain ⟨c, hc⟩ : ∃ c, src[j]? = some c := ⟨_, List.getElem?_eq_getElem (by rw [HK.out]; exact hlt)⟩
                            obtain ⟨b, off, pf, cf, pb, cb, rfl, hb, c0, c1, c2, c3, hcv⟩ := (HAW.out wr BW.out).cl hc
                            have VC : Hid (∀ W, Below wr.heap.size wr W → Calls Tryz.prog 50 #[.slice (some ⟨b, off, none⟩) K cap, cv c.nm c.par (.slice pf c.fs.length cf) (.slice pb c.bs.length cb)] W (tLine N (lineR src c) W)) := Lib.hid fun W hW => UC.out c W pf cf pb cb (BW.out.then_ hW) (hcv.under (hW.mono (Nat.le_trans hN BW.out.size)))
                            have HC := Lib.hid hc
                            have hmem := List.mem_of_getElem? hc
                            obtain ⟨y, hy⟩ : ∃ y, flatL (lineR src c) = y := ⟨_, rfl⟩
                            have HY := Lib.hid hy
                            have IC : Hid (∀ q k M W, RowA (Lo W.heap.size) W .classes q k M ((lineR src c).map Cl.lf) → Calls Tryz.prog 52 #[.slice q (lineR src c).length k] W fun e w' => ∃ pf cf pb cb, e = .returned (cv y.nm y.par (.slice pf y.fs.length cf) (.slice pb y.bs.length cb)) ∧ Below W.heap.size W w') := Lib.hid fun q k M W h => by
                              rw [← hy]
                              have hl := lineR_len src c
                              have hsm : ∀ d ∈ lineR src c, d.fs.length ≤ 16 ∧ d.bs.length ≤ 16 := fun d hd => HSM.out d (chain_mem hmem d hd)
                              obtain ⟨r, hr⟩ := chain_head src 32 c
                              unfold lineR at h hl hsm ⊢
                              rw [hr] at h hl hsm ⊢
                              exact (flatR_any c r q k M _ W h (fun _ h => h) hl hsm).mono fun _ _ ⟨p1, p2, p3, p4, p5, _, p6⟩ => ⟨p1, p2, p3, p4, p5, p6⟩
                            have LL := Lib.hid (lineR_len src c)
                            have FLn := flatL_len (l := lineR src c) (fun d hd => HSM.out d (chain_mem hmem d hd))
                            rw [hy] at FLn
                            have FL2 : y.fs.length ≤ 1000 ∧ y.bs.length ≤ 1000 := by have := LL.out; omega
                            obtain ⟨D, hD⟩ : ∃ D, (lineR src c).length = D := ⟨_, rfl⟩
                            have HD := Lib.hid hD
                            rw [hD] at IC
                            clear hc hcv hb hD hmem hy FLn
                            have HLG : Hid (large (flatL (lineR src c)) = (decide (16 < y.fs.length) || decide (16 < y.bs.length))) := Lib.hid (by rw [HY.out]; rfl)
                            obtain ⟨A, hA⟩ : ∃ A, y.fs.length = A := ⟨_, rfl⟩
                            obtain ⟨B, hB⟩ : ∃ A, y.bs.length = A := ⟨_, rfl⟩
                            rw [hA, hB] at HLG IC FL2
                            clear hA hB
                            by_cases hz1 : 16 < A
                            · have E7 : Hid (2 = checkR src) := Lib.hid (by rw [E6.out, any_at (q := fun c => large (flatL (lineR src c))) HC.out (by rw [HLG.out, decide_eq_true hz1]; rfl)]; rfl)
                              have d1 : decide ((16 : Int) < A) = true := decide_eq_true (by omega)
                              go_wp2_with (first
                                | (go_at_call 50; ((with_reducible refine (VC.out _ (Below.refl _ _)).mono ?_); rintro e w5 ⟨v5, rfl, hl5, hb5⟩; obtain ⟨q5, k5, G5, rfl, r5⟩ := hl5.toLo (by have := LL.out; omega) (Nat.le_trans (Nat.le_trans hN BW.out.size) hb5.size); have IC5 := Lib.hid (IC.out q5 k5 G5 w5 r5); rw [HD.out]; have HB5 := Lib.hid (BW.out.then_ hb5); clear hb5 hl5 r5))
                                | (go_at_call 52; ((with_reducible refine IC5.out.mono ?_); rintro e w6 ⟨p6, c6, q6, d6, rfl, hb6⟩; have N6 := Blk.new w6 [.string y.nm, .string y.par, .slice p6 A c6, .slice q6 B d6] 25; have n2 := N6.c 2 _ rfl; have n3 := N6.c 3 _ rfl; have HB6 := Lib.hid ((HB5.out.then_ hb6).then_ (ba w6 (.cells #[.string y.nm, .string y.par, .slice p6 A c6, .slice q6 B d6] 25))); clear hb6 N6)))
                              go_ret
                              exact tInt_mk E7.out HB6.out
                            · have d1 : decide ((16 : Int) < A) = false := decide_eq_false (by omega)
                              by_cases hz2 : 16 < B
                              · have E7 : Hid (2 = checkR src) := Lib.hid (by rw [E6.out, any_at (q := fun c => large (flatL (lineR src c))) HC.out (by rw [HLG.out, decide_eq_true hz2, Bool.or_true])]; rfl)
                                have d2 : decide ((16 : Int) < B) = true := decide_eq_true (by omega)
                                go_wp2_with (first
                                  | (go_at_call 50; ((with_reducible refine (VC.out _ (Below.refl _ _)).mono ?_); rintro e w5 ⟨v5, rfl, hl5, hb5⟩; obtain ⟨q5, k5, G5, rfl, r5⟩ := hl5.toLo (by have := LL.out; omega) (Nat.le_trans (Nat.le_trans hN BW.out.size) hb5.size); have IC5 := Lib.hid (IC.out q5 k5 G5 w5 r5); rw [HD.out]; have HB5 := Lib.hid (BW.out.then_ hb5); clear hb5 hl5 r5))
                                  | (go_at_call 52; ((with_reducible refine IC5.out.mono ?_); rintro e w6 ⟨p6, c6, q6, d6, rfl, hb6⟩; have N6 := Blk.new w6 [.string y.nm, .string y.par, .slice p6 A c6, .slice q6 B d6] 25; have n2 := N6.c 2 _ rfl; have n3 := N6.c 3 _ rfl; have HB6 := Lib.hid ((HB5.out.then_ hb6).then_ (ba w6 (.cells #[.string y.nm, .string y.par, .slice p6 A c6, .slice q6 B d6] 25))); clear hb6 N6)))
                                go_ret
                                exact tInt_mk E7.out HB6.out
                              · have d2 : decide ((16 : Int) < B) = false := decide_eq_false (by omega)
                                have FZ2 := Lib.hid (any_next (q := fun c => large (flatL (lineR src c))) HC.out (by rw [HLG.out, decide_eq_false hz1, decide_eq_false hz2]; rfl) FZ.out)
                                go_wp2_with (first
                                  | (go_at_call 50; ((with_reducible refine (VC.out _ (Below.refl _ _)).mono ?_); rintro e w5 ⟨v5, rfl, hl5, hb5⟩; obtain ⟨q5, k5, G5, rfl, r5⟩ := hl5.toLo (by have := LL.out; omega) (Nat.le_trans (Nat.le_trans hN BW.out.size) hb5.size); have IC5 := Lib.hid (IC.out q5 k5 G5 w5 r5); rw [HD.out]; have HB5 := Lib.hid (BW.out.then_ hb5); clear hb5 hl5 r5))
                                  | (go_at_call 52; ((with_reducible refine IC5.out.mono ?_); rintro e w6 ⟨p6, c6, q6, d6, rfl, hb6⟩; have N6 := Blk.new w6 [.string y.nm, .string y.par, .slice p6 A c6, .slice q6 B d6] 25; have n2 := N6.c 2 _ rfl; have n3 := N6.c 3 _ rfl; have HB6 := Lib.hid ((HB5.out.then_ hb6).then_ (ba w6 (.cells #[.string y.nm, .string y.par, .slice p6 A c6, .slice q6 B d6] 25))); clear hb6 N6)))
                                go_roundw
                                case rel => exact ⟨j + 1, by omega, by go_num, FZ2, HB6⟩
                                case measure => simp [intOf]; omega
                          · have FZ2 : Hid (src.any (fun c => large (flatL (lineR src c))) = false) := Lib.hid (any_all (k := j) (by rw [HK.out]; omega) FZ.out)
                            have E7 : Hid (0 = checkR src) := Lib.hid (by rw [E6.out, FZ2.out]; rfl)
                            clear E6 FZ FZ2
                            go_wp2
                            go_ret
                            exact tInt_mk E7.out BW.out
end Go.Proofs.YtoigjeoncdfdmaaGreatDoor.ClW
