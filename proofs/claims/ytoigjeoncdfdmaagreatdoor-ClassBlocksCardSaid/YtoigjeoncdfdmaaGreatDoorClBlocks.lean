/-
  ClassBlocks returns true.
-/
import Derived.Test.YtoigjeoncdfdmaaGreatDoorClAwake
import Derived.Test.YtoigjeoncdfdmaaGreatDoorClSmall
import Derived.Test.YtoigjeoncdfdmaaGreatDoorClLawM
import Derived.Test.YtoigjeoncdfdmaaGreatDoorClWith
import Derived.Test.YtoigjeoncdfdmaaGreatDoorClFind
namespace Go.Proofs.YtoigjeoncdfdmaaGreatDoor.ClW
open Go Go.RowKit Go.Shelf Go.Proofs.YtoigjeoncdfdmaaGreatDoor.NumM Go.Proofs.YtoigjeoncdfdmaaGreatDoor.LexW Go.Proofs.YtoigjeoncdfdmaaGreatDoor.LexM Go.Proofs.YtoigjeoncdfdmaaGreatDoor.ClM
attribute [local go_sem] Oper.semAt_some

theorem blocks_facts {src : List Cl} {x : ByteArray} {l : List Cl} (h : lineE src x = (l, 0)) : (∀ c ∈ l, fnd src c.nm = some c ∧ (c.bs.map Bk.nm).Nodup ∧ c.bs.length ≤ 16) ∧ l.length ≤ 32 := by
  obtain ⟨g, c, hf, rfl⟩ := lineE_ok h
  have hc := (find_mem hf).1
  refine ⟨fun d hd => ?_, Nat.le_trans (g.ends c hc) g.len⟩
  have hm : d ∈ src := chain_mem hc d hd
  have hv := g.val d hm
  refine ⟨find_of g.nd hm, hv.db, ?_⟩
  have := hv.lg
  unfold large at this
  rw [Bool.or_eq_false_iff] at this
  have := of_decide_eq_false this.2
  omega
theorem cntB_app : ∀ (l seen : List Cl) (c : Cl), cntB seen (l ++ [c]) = cntB seen l + newB (seen ++ l) c.bs
  | [], seen, c => by simp [cntB]
  | y :: r, seen, c => by
    rw [List.cons_append, cntB, cntB, cntB_app r _ c, List.append_assoc, Nat.add_assoc]
    rfl
theorem cntB_step {l : List Cl} {i : Nat} {c : Cl} (h : l[i]? = some c) : cntB [] (l.take (i + 1)) = cntB [] (l.take i) + newB (l.take i) c.bs := by
  have := List.take_add_one (l := l) (i := i)
  rw [h] at this
  rw [this]
  exact cntB_app _ [] c
theorem newB_step {seen : List Cl} {bs : List Bk} {k : Nat} {b : Bk} (h : bs[k]? = some b) : newB seen (bs.take (k + 1)) = newB seen (bs.take k) + if occ seen b.nm = true then 0 else 1 := by
  have := List.take_add_one (l := bs) (i := k)
  rw [h] at this
  rw [this]
  unfold newB
  show (bs.take k ++ [b]).countP _ = _
  rw [List.countP_append, List.countP_cons, List.countP_nil]
  cases occ seen b.nm <;> simp
theorem newB_le (seen : List Cl) (bs : List Bk) : newB seen bs ≤ bs.length := List.countP_le_length
theorem cntB_le : ∀ (l seen : List Cl), (∀ c ∈ l, c.bs.length ≤ 16) → cntB seen l ≤ 16 * l.length
  | [], _, _ => by simp [cntB]
  | y :: r, seen, h => by
    have h1 := cntB_le r (seen ++ [y]) (fun c hc => h c (List.mem_cons_of_mem _ hc))
    have h2 := newB_le seen y.bs
    have h3 := h y (List.mem_cons_self ..)
    rw [cntB, List.length_cons]
    omega
theorem occ_step {l : List Cl} {j : Nat} {d : Cl} (h : l[j]? = some d) (x : ByteArray) : occ (l.take (j + 1)) x = (occ (l.take j) x || d.bs.any (fun a => same a.nm x)) := by
  have := List.take_add_one (l := l) (i := j)
  rw [h] at this
  rw [this]
  exact occ_snoc _ d x
theorem new_in {l : List Cl} {i k : Nat} {c : Cl} {b : Bk} (hc : l[i]? = some c) (hn : (c.bs.map Bk.nm).Nodup) (hb : c.bs[k]? = some b) (ho : occ (l.take i) b.nm = false) : b ∈ (flatL l).bs := by
  have h := flat_new hn (List.mem_of_getElem? hb) (l.drop (i + 1)) (l.take i) ho
  have hi := (List.getElem?_eq_some_iff.1 hc)
  obtain ⟨hl, he⟩ := hi
  rw [← he, List.getElem_cons_drop, List.take_append_drop] at h
  exact h
theorem quietH {P : Program} {f : FuncId} {args : Array Value} {w : World} {n : Nat} {v : Value} (h : Calls P f args (w.drewN n) fun e w' => e = .returned v ∧ w.drewN n = w') : Calls P f args (w.drewN n) fun e w'' => e = .returned v ∧ ∃ m, w'' = w.drewN m :=
  h.mono fun _ _ ⟨he, hm⟩ => ⟨he, n, hm.symm⟩
theorem dH {w : World} {n : Nat} : Below w.heap.size w (w.drewN n) := drewB (Below.refl _ _)
theorem cv_bs {S : Nat → Prop} {w : World} {pf : Option Addr} {cf : Nat} {pb : Option Addr} {cb : Nat} {c : Cl} (h : CV S w pf cf pb cb c) : ∃ G, RowA S w .blocks pb cb G (c.bs.map Bk.lf) := by
  obtain ⟨_, _, G, e, r⟩ := h.bs.rowOf
  rw [List.length_map] at e
  cases e
  exact ⟨G, r⟩
set_option maxRecDepth 100000 in
set_option maxHeartbeats 16000000 in
theorem blocks_any (src : List Cl) (x : ByteArray) (p : Option Addr) (cap : Nat) (G : Nat → Nat → Value) (w : World) (ha : RowA (Lo w.heap.size) w .classes p cap G (src.map Cl.lf)) (ht : Tab w) :
    Calls Tryz.prog 8 #[.slice p src.length cap, .string x] w (tBool true w) := by
  obtain ⟨t, hf⟩ := few_any src p cap G _ w ha (Nat.le_refl _)
  have FC := Lib.hid hf
  have HT : Hid (∀ W, Below w.heap.size w W → Tab W) := Lib.hid fun W hW => ht.later hW
  obtain ⟨l, hl⟩ : ∃ l, (lineE src x).1 = l := ⟨_, rfl⟩
  obtain ⟨en, hen⟩ : ∃ n, (lineE src x).2 = n := ⟨_, rfl⟩
  obtain ⟨L, hL⟩ : ∃ n, l.length = n := ⟨_, rfl⟩
  obtain ⟨y, hy⟩ : ∃ c, flatL l = c := ⟨_, rfl⟩
  obtain ⟨Y, hY⟩ : ∃ n, y.fs.length = n := ⟨_, rfl⟩
  obtain ⟨B, hB⟩ : ∃ n, y.bs.length = n := ⟨_, rfl⟩
  have LC : Hid (∀ W, Below w.heap.size w W → Calls Tryz.prog 23 #[.slice p src.length cap, .string x] W fun e w' => ∃ p cap G, e = .returned (.tuple #[.slice p L cap, .int .i64 en]) ∧ RowA (Lo w'.heap.size) w' .strs p cap G (SL (l.map Cl.nm)) ∧ Below W.heap.size W w') := Lib.hid fun W hW => by
    have := line_any src x p cap G _ W (ha.under hW) hW.size (ht.later hW)
    unfold tNames at this
    rw [hl, hen, List.length_map, hL] at this
    exact this
  have FF : Hid (∀ W, Below w.heap.size w W → Calls Tryz.prog 25 #[.slice p src.length cap, .string x] W fun e w' => ∃ pf cf pb cb, e = .returned (.tuple #[cv y.nm y.par (.slice pf Y cf) (.slice pb B cb), .int .i64 en]) ∧ CV (Lo w'.heap.size) w' pf cf pb cb y ∧ Below W.heap.size W w') := Lib.hid fun W hW => by
    have := flatten_any src x p cap G _ W (ha.under hW) hW.size (ht.later hW)
    unfold tFlatE flatE at this
    simp only at this
    rw [hl, hen, hy, hY, hB] at this
    exact this
  cases t
  · clear ha ht hf hl hen hL hy hY hB
    go_enter Tryz.func8, Tryz.ntmps8
    go_wp2_with (first
      | (go_at_call 17; ((with_reducible refine FC.out.mono ?_); rintro e w1 ⟨rfl, hb1⟩; have HB1 := Lib.hid hb1; clear hb1))
      | (go_at_call 10; ((with_reducible refine (awake_any w1 (HT.out w1 HB1.out)).mono ?_); rintro e w2 ⟨rfl, hb2⟩; have HB2 := Lib.hid (HB1.out.then_ hb2); clear hb2)))
    go_ret
    exact ⟨rfl, HB2.out⟩
  · by_cases hz : en = 0
    · subst hz
      obtain ⟨hF, hL32⟩ := blocks_facts (src := src) (x := x) (l := l) (Prod.ext hl hen)
      rw [hL] at hL32
      have FD : Hid (∀ W, Below w.heap.size w W → ∀ (i : Nat) (c : Cl), l[i]? = some c → Calls Tryz.prog 18 #[.slice p src.length cap, .string c.nm] W fun e w' => ∃ pf cf pb cb, e = .returned (.tuple #[cv c.nm c.par (.slice pf c.fs.length cf) (.slice pb c.bs.length cb), .bool true]) ∧ CV (Lo w'.heap.size) w' pf cf pb cb c ∧ Below W.heap.size W w') := Lib.hid fun W hW i c hi => by
        have := findC_any src c.nm p cap G _ W (ha.under hW) hW.size
        unfold tFind at this
        rw [(hF c (List.mem_of_getElem? hi)).1] at this
        exact this
      have ND : Hid (∀ (i : Nat) (c : Cl), l[i]? = some c → (c.bs.map Bk.nm).Nodup ∧ c.bs.length ≤ 16) := Lib.hid fun i c hi => (hF c (List.mem_of_getElem? hi)).2
      have HALL : Hid (cntB [] l = B) := Lib.hid (by rw [← hB, ← hy]; exact cntB_all (fun c hc => (hF c hc).2.1))
      have HCB : Hid (∀ i, cntB [] (l.take i) ≤ 16 * L) := Lib.hid fun i => Nat.le_trans (cntB_le _ [] (fun c hc => (hF c (List.mem_of_mem_take hc)).2.2)) (by rw [List.length_take, hL]; omega)
      have NI : Hid (∀ (i k : Nat) (c : Cl) (b : Bk), l[i]? = some c → c.bs[k]? = some b → occ (l.take i) b.nm = false → b ∈ y.bs) := Lib.hid fun i k c b hc hb ho => by
        rw [← hy]
        exact new_in hc (hF c (List.mem_of_getElem? hc)).2.1 hb ho
      have YN : Hid ((y.bs.map Bk.nm).Nodup) := Lib.hid (by rw [← hy]; exact flat_bs_nodup l)
      have HL := Lib.hid hL
      have HB := Lib.hid hB
      clear ha ht hf hl hen hL hy hY hB hF
      go_enter Tryz.func8, Tryz.ntmps8
      go_wp2_with (first
        | (go_at_call 17; ((with_reducible refine FC.out.mono ?_); rintro e w1 ⟨rfl, hb1⟩; have HB1 := Lib.hid hb1; clear hb1))
        | (go_at_call 23; ((with_reducible refine (LC.out w1 HB1.out).mono ?_); rintro e w2 ⟨p2, k2, G2, rfl, r2, hb2⟩; have HB2 := Lib.hid (HB1.out.then_ hb2); have R2 := Lib.hid r2; clear r2 hb2))
        | (go_at_call 25; ((with_reducible refine (FF.out w2 HB2.out).mono ?_); rintro e w3 ⟨pf, cf, pb, cb, rfl, hcv, hb3⟩; have hn := ba w3 (.cells #[.string y.nm, .string y.par, .slice pf Y cf, .slice pb B cb] 25); have Y4 := Lib.hid (Blk.new w3 [.string y.nm, .string y.par, .slice pf Y cf, .slice pb B cb] 25); have m := hb3.then_ hn; have HB4 := Lib.hid (HB2.out.then_ m); have R4 := Lib.hid ((R2.out.under m).wide m.size); have HC4 := Lib.hid ((hcv.under hn).wide hn.size); clear hb3 hcv hn m)))
      obtain ⟨W4, hW4⟩ : ∃ W, w3.alloc (.cells #[.string y.nm, .string y.par, .slice pf Y cf, .slice pb B cb] 25) = W := ⟨_, rfl⟩
      rw [hW4] at Y4 HB4 R4 HC4 ⊢
      clear hW4
      go_loopw [9, 10] (fun u i wr => ∃ n a : Nat, u = .int .i64 n ∧ a ≤ L ∧ i = .int .i64 a ∧ Hid (n = cntB [] (l.take a)) ∧ Hid (Below W4.heap.size W4 wr)) (fun _ i _ => L - (intOf i).toNat)
      case atStart => exact ⟨0, 0, rfl, Nat.zero_le _, rfl, Lib.hid rfl, Lib.hid (Below.refl _ _)⟩
      case round =>
        obtain ⟨n, a, rfl, haL, rfl, CN, BW⟩ := hrel
        have hn512 : n ≤ 512 := by have := HCB.out a; have := CN.out; omega
        by_cases hlt : a < L
        · obtain ⟨c, hc⟩ : ∃ c, l[a]? = some c := ⟨_, List.getElem?_eq_getElem (by rw [HL.out]; exact hlt)⟩
          obtain ⟨b2, f2, rfl, hb2', nc, _⟩ := (R4.out.under BW.out).stS (i := a) (s := c.nm) (by rw [List.getElem?_map, hc]; rfl)
          have HC := Lib.hid hc
          have FD1 := Lib.hid (FD.out wr (HB4.out.then_ BW.out) a c hc)
          obtain ⟨hnd, hD16⟩ := ND.out a c hc
          have HND := Lib.hid hnd
          obtain ⟨F, hFl⟩ : ∃ n, c.fs.length = n := ⟨_, rfl⟩
          obtain ⟨D, hD⟩ : ∃ n, c.bs.length = n := ⟨_, rfl⟩
          have HD := Lib.hid hD
          have HF := Lib.hid hFl
          rw [hFl, hD] at FD1
          rw [hD] at hD16
          clear hc hb2' hnd hFl hD
          go_wp2_with (go_at_call 18; ((with_reducible refine FD1.out.mono ?_); rintro e w5 ⟨of, kf, ob, kb, rfl, hcv, hb5⟩; have hn := ba w5 (.cells #[.string c.nm, .string c.par, .slice of F kf, .slice ob D kb] 25); have Y6 := Lib.hid (Blk.new w5 [.string c.nm, .string c.par, .slice of F kf, .slice ob D kb] 25); have HB6 := Lib.hid (BW.out.then_ (hb5.then_ hn)); have HC6 := Lib.hid ((hcv.under hn).wide hn.size); clear hb5 hcv hn nc))
          obtain ⟨W6, hW6⟩ : ∃ W, w5.alloc (.cells #[.string c.nm, .string c.par, .slice of F kf, .slice ob D kb] 25) = W := ⟨_, rfl⟩
          rw [hW6] at Y6 HB6 HC6 ⊢
          clear hW6
          go_loopw [9, 13] (fun u i wr => ∃ m k : Nat, u = .int .i64 m ∧ k ≤ D ∧ i = .int .i64 k ∧ Hid (m = n + newB (l.take a) (c.bs.take k)) ∧ Hid (Below W6.heap.size W6 wr)) (fun _ i _ => D - (intOf i).toNat)
          case atStart => exact ⟨n, 0, rfl, Nat.zero_le _, rfl, Lib.hid rfl, Lib.hid (Below.refl _ _)⟩
          case round =>
            obtain ⟨m, k, rfl, hkD, rfl, CM, BX⟩ := hrel
            have hm600 : m ≤ 600 := by
              have h1 := CM.out
              have h2 := newB_le (l.take a) (c.bs.take k)
              rw [List.length_take] at h2
              omega
            have X6 := Y6.out.stay BX.out
            have x3 := X6.c 3 _ rfl
            by_cases hlk : k < D
            · obtain ⟨b, hb⟩ : ∃ b, c.bs[k]? = some b := ⟨_, List.getElem?_eq_getElem (by rw [HD.out]; exact hlk)⟩
              have HBk := Lib.hid hb
              clear hb
              go_wp2
              go_loopw [14, 15] (fun u i wr => ∃ j : Nat, u = .bool (occ (l.take j) b.nm) ∧ j ≤ a ∧ i = .int .i64 j ∧ Hid (Below W6.heap.size W6 wr)) (fun _ i _ => a - (intOf i).toNat)
              case atStart => exact ⟨0, rfl, Nat.zero_le _, rfl, BX⟩
              case round =>
                obtain ⟨j, rfl, hja, rfl, BZ⟩ := hrel
                by_cases hlj : j < a
                · obtain ⟨d, hd⟩ : ∃ d, l[j]? = some d := ⟨_, List.getElem?_eq_getElem (by rw [HL.out]; omega)⟩
                  obtain ⟨b9, f9, e9, hb9', nd, _⟩ := (R4.out.under (HB6.out.then_ BZ.out)).stS (i := j) (s := d.nm) (by rw [List.getElem?_map, hd]; rfl)
                  cases e9
                  have OS := Lib.hid (occ_step hd b.nm)
                  obtain ⟨F2, hF2⟩ : ∃ n, d.fs.length = n := ⟨_, rfl⟩
                  obtain ⟨E, hE⟩ : ∃ n, d.bs.length = n := ⟨_, rfl⟩
                  have HE := Lib.hid hE
                  have FD2 := Lib.hid (FD.out wr (HB4.out.then_ (HB6.out.then_ BZ.out)) j d hd)
                  rw [hF2, hE] at FD2
                  have HH : Hid (∀ W q kq, (∃ G, RowA (Lo W.heap.size) W .blocks q kq G (d.bs.map Bk.lf)) → Calls Tryz.prog 27 #[.slice q E kq, .string b.nm] W fun e w' => e = .returned (.bool (d.bs.any (fun f => same f.nm b.nm))) ∧ W = w') := Lib.hid fun W q kq ⟨G, hr⟩ => by
                    have := has_any d.bs b.nm q kq G W.heap.size W hr
                    rw [hE] at this
                    exact this
                  obtain ⟨z, hz⟩ : ∃ z, d.bs.any (fun a => same a.nm b.nm) = z := ⟨_, rfl⟩
                  rw [hz] at OS HH
                  obtain ⟨o, ho⟩ : ∃ o, occ (l.take j) b.nm = o := ⟨_, rfl⟩
                  rw [ho] at OS ⊢
                  clear hd hb9' hF2 hE hz ho x3 X6
                  go_wp2_with (go_at_call 18; ((with_reducible refine FD2.out.mono ?_); rintro e w7 ⟨sf, lf, sb, lb, rfl, hcv, hb7⟩; have hn := ba w7 (.cells #[.string d.nm, .string d.par, .slice sf F2 lf, .slice sb E lb] 25); have X8 := Blk.new w7 [.string d.nm, .string d.par, .slice sf F2 lf, .slice sb E lb] 25; have m8 := BZ.out.then_ (hb7.then_ hn); have HM8 := Lib.hid m8; have X6 := Y6.out.stay m8; have HRB := Lib.hid (cv_bs ((hcv.under hn).wide hn.size)); obtain ⟨Gc, rc⟩ := cv_bs (HC6.out.under m8); obtain ⟨g, off, pi, ci, rfl, _, c0, _, _, _⟩ := rc.bk HBk.out; have x3 := X6.c 3 _ rfl; have s3 := X8.c 3 _ rfl; clear hb7 hn hcv m8 X8 X6 rc nd))
                  obtain ⟨W8, hW8⟩ : ∃ W, w7.alloc (.cells #[.string d.nm, .string d.par, .slice sf F2 lf, .slice sb E lb] 25) = W := ⟨_, rfl⟩
                  rw [hW8] at HM8 HRB c0 x3 s3 ⊢
                  have HC8 : Hid (∀ W, Below W8.heap.size W8 W → Calls Tryz.prog 27 #[.slice sb E lb, .string b.nm] W fun e w' => e = .returned (.bool z) ∧ W = w') := Lib.hid fun W hW => HH.out W sb lb (by obtain ⟨G, hr⟩ := HRB.out; exact ⟨G, (hr.under hW).wide hW.size⟩)
                  clear hW8
                  cases o
                  · rw [Bool.false_or] at OS
                    go_quiet ((go_at_call 27; exact quietH (HC8.out _ dH)))
                    go_wp2
                    go_roundw
                    case rel => exact ⟨j + 1, by rw [OS.out], by omega, by go_num, Lib.hid (HM8.out.then_ dH)⟩
                    case measure => simp [intOf]; omega
                  · rw [Bool.true_or] at OS
                    go_quiet (fail)
                    go_wp2
                    go_roundw
                    case rel => exact ⟨j + 1, by rw [OS.out], by omega, by go_num, Lib.hid (HM8.out.then_ dH)⟩
                    case measure => simp [intOf]; omega
                · obtain rfl : j = a := by omega
                  obtain ⟨o, ho⟩ : ∃ o, occ (l.take j) b.nm = o := ⟨_, rfl⟩
                  have NS := Lib.hid (newB_step (seen := l.take j) HBk.out)
                  rw [ho] at NS
                  have HO := Lib.hid ho
                  rw [ho]
                  clear ho
                  cases o
                  · have BN := Lib.hid (NI.out j k c b HC.out HBk.out HO.out)
                    have B4 := HB6.out.then_ BZ.out
                    have X4 := Y4.out.stay B4
                    have X7 := Y6.out.stay BZ.out
                    have HBr := Lib.hid (HB4.out.then_ B4)
                    obtain ⟨Gy, ry⟩ := cv_bs (HC4.out.under B4)
                    have HRY := Lib.hid (ry.wide B4.size)
                    obtain ⟨Gc, rc⟩ := cv_bs (HC6.out.under BZ.out)
                    obtain ⟨g, off, pi, ci, rfl, _, c0, c1, _, ic⟩ := rc.bk HBk.out
                    obtain ⟨I, hI⟩ : ∃ n, b.it.length = n := ⟨_, rfl⟩
                    have X1 := reB (v := .bool true) (w := wr) (P := Tryz.prog) (f := 28) (args := #[.slice pb B cb, .agg #[.string b.nm, .slice pi I ci]]) (fun W hW => by
                      have := with_any y.bs b pb cb Gy pi ci _ W (HRY.out.under hW) ((ic.wide BZ.out.size).under hW) hW.size BN.out YN.out
                      rw [HB.out, hI] at this
                      exact this)
                    rw [hI] at c1
                    have m3 := cell_regrown (X4.c 3 _ rfl)
                    have n3 := cell_regrown (X7.c 3 _ rfl)
                    have n0 := cell_regrown c0
                    have n1 := cell_regrown c1
                    clear hI ic rc ry c0 c1 X4 X7 B4 x3 X6
                    go_wp2
                    refine wp_region_quiet_below (by kernel_rfl) (by kernel_rfl) ?_
                    repeat (first | go_big_quiet_step ((go_at_call 28; with_reducible exact X1 _ _)) | quiet_step ((go_at_call 28; with_reducible exact X1 _ _)))
                    refine wpQuiet_nil ?_
                    intro w9 hw'
                    obtain ⟨pq, hw''⟩ := hw'
                    have HX : Hid (Below wr.heap.size wr w9) := Lib.hid (by rw [hw'']; exact below_regrown _ _ _)
                    clear hw'' X1 m3 n3 n0 n1
                    go_wp2
                    go_roundw
                    case rel => exact ⟨m + 1, k + 1, by go_num, by omega, by go_num, Lib.hid (by rw [NS.out, CM.out]; simp only [Bool.false_eq_true, if_false]; omega), Lib.hid (BZ.out.then_ HX.out)⟩
                    case measure => simp [intOf]; omega
                  · clear x3 X6
                    go_wp2
                    go_roundw
                    case rel => exact ⟨m, k + 1, rfl, by omega, by go_num, Lib.hid (by rw [NS.out, CM.out]; rfl), BZ⟩
                    case measure => simp [intOf]; omega
            · have CN2 : Hid (m = cntB [] (l.take (a + 1))) := Lib.hid (by
                have := CM.out
                rw [show k = D by omega, List.take_of_length_le (l := c.bs) (i := D) (by rw [HD.out]; exact Nat.le_refl _)] at this
                rw [cntB_step HC.out, ← CN.out]
                exact this)
              clear X6
              go_wp2
              go_roundw
              case rel => exact ⟨m, a + 1, rfl, by omega, by go_num, CN2, Lib.hid (HB6.out.then_ BX.out)⟩
              case measure => simp [intOf]; omega
        · have HBr := Lib.hid (HB4.out.then_ BW.out)
          have X4 := Y4.out.stay BW.out
          have x3 := X4.c 3 _ rfl
          obtain rfl : n = B := by
            have h1 := CN.out
            rw [show a = L by omega, List.take_of_length_le (by rw [HL.out]; exact Nat.le_refl _)] at h1
            exact h1.trans HALL.out
          clear X4
          go_wp2_with (go_at_call 10; ((with_reducible refine (awake_any wr (HT.out wr HBr.out)).mono ?_); rintro e w11 ⟨rfl, hb11⟩; have HB11 := Lib.hid (HBr.out.then_ hb11); clear hb11))
          go_ret
          exact ⟨rfl, HB11.out⟩
    · have hze : (en == 0) = false := by rw [beq_eq_false_iff_ne]; exact hz
      clear ha ht hf hl hen hL hy hY hB
      go_enter Tryz.func8, Tryz.ntmps8
      go_wp2_with (first
        | (go_at_call 17; ((with_reducible refine FC.out.mono ?_); rintro e w1 ⟨rfl, hb1⟩; have HB1 := Lib.hid hb1; clear hb1))
        | (go_at_call 23; ((with_reducible refine (LC.out w1 HB1.out).mono ?_); rintro e w2 ⟨p2, k2, G2, rfl, r2, hb2⟩; have HB2 := Lib.hid (HB1.out.then_ hb2); clear r2 hb2))
        | (go_at_call 25; ((with_reducible refine (FF.out w2 HB2.out).mono ?_); rintro e w3 ⟨pf, cf, pb, cb, rfl, hcv, hb3⟩; have hn := ba w3 (.cells #[.string y.nm, .string y.par, .slice pf Y cf, .slice pb B cb] 25); have HB4 := Lib.hid (HB2.out.then_ (hb3.then_ hn)); clear hb3 hcv hn))
        | (go_at_call 10; ((with_reducible refine (awake_any _ (HT.out _ HB4.out)).mono ?_); rintro e w7 ⟨rfl, hb7⟩; have HB7 := Lib.hid (HB4.out.then_ hb7); clear hb7)))
      go_ret
      exact ⟨rfl, HB7.out⟩
end Go.Proofs.YtoigjeoncdfdmaaGreatDoor.ClW
