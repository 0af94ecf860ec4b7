/-
  Laws that the card uses; no conditions beside those that each states (ItExp ItAwake ItLShp).
-/
import Derived.Test.YtpejflgdehioaaaGreatDoorT31
import Derived.Test.YtpejflgdehioaaaGreatDoorT40
import Derived.Test.YtpejflgdehioaaaGreatDoorT43
import Derived.Test.YtpejflgdehioaaaGreatDoorT45
namespace Go.Proofs.YtpejflgdehioaaaGreatDoor.ItW
open Go Go.RowKit Go.Proofs.YtpejflgdehioaaaGreatDoor.NumM Go.Proofs.YtpejflgdehioaaaGreatDoor.LexW Go.Proofs.YtpejflgdehioaaaGreatDoor.LexM Go.Proofs.YtpejflgdehioaaaGreatDoor.ExM Go.Proofs.YtpejflgdehioaaaGreatDoor.ExW Go.Proofs.YtpejflgdehioaaaGreatDoor.ItM
open Go.Proofs.YtpejflgdehioaaaGreatDoor.ClM (Fld)
theorem its_of {W : World} {n0 : Nat} {v : Value} {L : List Pc} (hr : W.ownsRow n0 55 12 v L.length (L.flatMap pcC)) (hl : L.length ≤ 1000) (hp : ∀ p ∈ L, PcS (fun b => b < W.heap.size) W p) : ItsA W.heap.size W v (L.map Pc.x) := by
  obtain ⟨p, cap, rfl, hc, h0⟩ := own_at hr (flat_len pcC_len L); have hlen : (L.map Pc.x).length = L.length := List.length_map ..; have := RowI.its (N := W.heap.size) (w := W) (p := p) (cap := cap) (V := fun i r => match L[i]? with | some q => (pcC q).getD r undef | none => undef) (l := L.map Pc.x) ⟨by omega, by omega, fun hpos => ?_, fun i x hx => ?_⟩
  · rw [hlen] at this; exact this
  · obtain ⟨g, rfl, hg, _, hcell⟩ := h0 (by omega); refine ⟨g, 0, rfl, hg.2, fun i x hx => ?_⟩; rw [List.getElem?_map] at hx; obtain ⟨q, hq, rfl⟩ := Option.map_eq_some_iff.1 hx; have hf := (fun r (hr : r < 12) => flat_at pcC_len L i r q hq hr); have e : ∀ r u, r < 12 → (pcC q)[r]? = some u → W.cell? ⟨g, 0 + i * 12 + r, none⟩ = some u := fun r u h1 h2 => by
      rw [Nat.zero_add]; exact hcell _ _ ((hf r h1).trans h2)
    have e0 := e 0 _ (by decide) rfl; rw [Nat.add_zero] at e0; refine ⟨e0, e 1 _ (by decide) rfl, e 2 _ (by decide) rfl, e 3 _ (by decide) rfl, ?_, e 5 _ (by decide) rfl, e 6 _ (by decide) rfl, ?_, ?_, ?_, ?_, ?_⟩
    · rw [hq]; exact e 4 _ (by decide) rfl
    · rw [hq]; exact e 7 _ (by decide) rfl
    · rw [hq]; exact e 8 _ (by decide) rfl
    · rw [hq]; exact e 9 _ (by decide) rfl
    · rw [hq]; exact e 10 _ (by decide) rfl
    · rw [hq]; exact e 11 _ (by decide) rfl
  · rw [List.getElem?_map] at hx; obtain ⟨q, hq, rfl⟩ := Option.map_eq_some_iff.1 hx; have h := hp q (List.mem_of_getElem? hq); rw [hq]; exact ⟨h.nm, h.ix, h.ex.toAt (fun _ q => q), h.wt.toAt (fun _ q => q), by rw [h.it]; exact ItsA.nil _ _ _ _, by rw [h.el]; exact ItsA.nil _ _ _ _, h.bf.toAt (fun _ q => q), h.af.toAt (fun _ q => q)⟩
theorem XL.its {xb fb n0 : Nat} {W : World} {v : Value} {L : List Pc} (h : XL xb fb n0 W v L) (hl : L.length ≤ 1000) : ItsA W.heap.size W v (L.map Pc.x) :=
  its_of h.row hl fun p hp => (h.parts p hp).eq fun _ q => ⟨q.1, rfl⟩
def tLB (X : List It) (b : Bool) (w : World) (x : Ending) (w' : World) : Prop := ∃ v, x = .returned (.tuple #[v, .bool b]) ∧ ItsA w'.heap.size w' v X ∧ Below w.heap.size w w'
def exdS (fs : List Fld) (l : List It) : List It × Bool := if 400 < cntL fs l then ([], false) else (exL fs none (fun a => a) l, true)
set_option maxRecDepth 100000 in
set_option maxHeartbeats 16000000 in
theorem expanded_any (fb : Nat) (fs : List Fld) (hS : ∀ f ∈ fs, 0 ≤ f.sz ∧ f.sz ≤ 8) (l : List It) (v : Value) (w : World) (hd : dpt 5 l) (hsz : iszs l ≤ 10000) (hsm : SmE l) (hf : FsA w fb fs) (hx : ItsA w.heap.size w v l) :
    Calls Tryz.prog 46 #[.map (some fb), v] w (tLB (exdS fs l).1 (exdS fs l).2 w) := by
  obtain ⟨p, cap, V, rfl, hri⟩ := hx.form; have CN := Lib.hid (count_any fb fs hS l 5 _ w.heap.size w hd (by decide) hsz hf hx (Nat.le_refl _)); have EE : Hid (exdS fs l = if 400 < cntL fs l then ([], false) else (exL fs none (fun a => a) l, true)) := Lib.hid rfl; have hl0 := exL_len fs hS l none (fun a => a); obtain ⟨c, hc⟩ : ∃ c, cntL fs l = c := ⟨_, rfl⟩; by_cases h4 : 400 < c
  · rw [hc] at CN EE; rw [if_pos h4] at EE; have hd4 : decide ((400 : Int) < c) = true := decide_eq_true h4; clear hc hl0 hri hx hf hsm hS hd; generalize l.length = K at *
    go_enter Tryz.func46, Tryz.ntmps46
    go_wp2_with (first
      | (go_at_call 86; ((with_reducible refine CN.out.mono ?_); rintro e w1 ⟨rfl, hb⟩; have HB := Lib.hid hb; clear hb)))
    go_ret2; rw [EE.out]; exact ⟨_, rfl, ItsA.nil _ _ _ _, HB.out⟩
  · have hd4 : decide ((400 : Int) < c) = false := decide_eq_false h4; have HEX : Hid ((exL fs none (fun a => a) l).length ≤ 400) := Lib.hid (by omega); have AD : Hid (∀ w1, Below w.heap.size w w1 → Calls Tryz.prog 87 #[.pointer (some ⟨w1.heap.size, 0, none⟩), .slice p l.length cap, .pointer none, .func (.func 88) #[] #[]] (w1.alloc (.cells #[.map (some fb), .slice none 0 0] 120)) (AddP w w1.heap.size fb [] (exL fs none (fun a => a) l) (w1.alloc (.cells #[.map (some fb), .slice none 0 0] 120)))) := Lib.hid fun w1 hb1 => by
      have hs1 := hb1.size; have hba := ba w1 (.cells #[.map (some fb), .slice none 0 0] 120); have hxl : XL w1.heap.size fb w.heap.size (w1.alloc (.cells #[.map (some fb), .slice none 0 0] 120)) (.slice none 0 0) [] :=
        ⟨Blk.new w1 [.map (some fb), .slice none 0 0] 120, World.ownsRow_nil _ _ _ _, fun e => by simp [Value.ownBlock] at e, fun p hp => by cases hp⟩
      have := add_any w w1.heap.size fb hs1 fs hS hf l 5 none (fun a => a) 88 #[] (.pointer none) (.slice none 0 0) _ [] _ hd (by decide) hsz hsm hx (hb1.then_ hba) hxl (FixC.clone _ _) (fun _ => Nat.le_refl _) rfl (fun c hc => by cases hc) (by simp; omega); exact this
    rw [hc] at CN EE; rw [if_neg h4] at EE; clear hc hl0 hri hx hf hsm hS hd; generalize l.length = K at *
    generalize exL fs none (fun a => a) l = X at *
    go_enter Tryz.func46, Tryz.ntmps46
    go_wp2_with (first
      | (go_at_call 86; ((with_reducible refine CN.out.mono ?_); rintro e w1 ⟨rfl, hb⟩; have HB := Lib.hid hb; clear hb))
      | (go_at_call 87; ((with_reducible refine (AD.out _ HB.out).mono ?_); rintro e w2 ⟨rfl, u, M, hxl, hm, hk, hb2⟩; have HX := Lib.hid hxl; have HM := Lib.hid hm; have HB2 := Lib.hid hb2; have m1 := hxl.bx.c 1 _ rfl; clear hxl hm hk hb2)))
    go_ret2; rw [EE.out]; refine ⟨_, rfl, ?_, HB2.out⟩; have hlen : M.length ≤ 400 := (by have := congrArg List.length HM.out; rw [List.length_map] at this; have := HEX.out; omega); have := HX.out.its (by simpa using (show M.length ≤ 1000 by omega)); rw [List.nil_append] at this; show ItsA _ _ _ X; rw [← HM.out]; exact this
def tLE (r : List It × Int) (w : World) (x : Ending) (w' : World) : Prop := ∃ v, x = .returned (.tuple #[v, .int .i64 r.2]) ∧ ItsA w'.heap.size w' v r.1 ∧ Below w.heap.size w w'
set_option maxRecDepth 100000 in
set_option maxHeartbeats 16000000 in
theorem itemExpand_any (fs : List Fld) (hS : ∀ f ∈ fs, 0 ≤ f.sz ∧ f.sz ≤ 8) (hF : fs.length ≤ 10000) (l : List It) (v cv : Value) (w : World) (hx : ItsA w.heap.size w v l) (hc : ClA w.heap.size w cv fs) (hsz : iszs l ≤ 10000) (hrs : RsL l) (hsm : SmE l) (ht : TabI w) :
    Calls Tryz.prog 22 #[v, cv] w (tLE (expS fs l) w) := by
  have hS1 : ∀ f ∈ fs, 0 ≤ f.sz ∧ f.sz ≤ 100 := (fun f hf => ⟨(hS f hf).1, by have := (hS f hf).2; omega⟩); have KC : Hid (∀ W, Below w.heap.size w W → Calls Tryz.prog 20 #[v, cv] W (tInt (checkI fs l) W)) := (Lib.hid fun W hW => itemCheck_any l fs hS1 hF v cv W ((hx.under hW).wide hW.size) ((hc.under hW).wide hW.size) hsz hrs (ht.later hW)); have FC : Hid (∀ W, Below w.heap.size w W → Calls Tryz.prog 43 #[cv] W fun e w' => ∃ fb n, e = .returned (.map (some fb)) ∧ W.heap.size ≤ fb ∧ FMap w' fb n fs ∧ Below W.heap.size W w') := (Lib.hid fun W hW => fieldsOf_any fs hS1 hF cv W ((hc.under hW).wide hW.size)); have XC : Hid (∀ W fb, Below w.heap.size w W → FsA W fb fs → checkI fs l = 0 → Calls Tryz.prog 46 #[.map (some fb), v] W (tLB (exdS fs l).1 (exdS fs l).2 W)) := Lib.hid fun W fb hW hf hk => by
    have hv : validI l = 0 := by
      unfold checkI at hk; split at hk
      · assumption
      · exact hk
    exact expanded_any fb fs hS l v W (dpt_valid hv) hsz hsm hf ((hx.under hW).wide hW.size)
  have hxs : checkI fs l = 0 → ∀ x ∈ exL fs none (fun a => a) l, sz x.e ≤ 10000 := fun hk => by
    have hv : validI l = 0 := by
      unfold checkI at hk; split at hk
      · assumption
      · exact hk
    exact exL_sz fs l 5 none (fun a => a) (dpt_valid hv) (by decide) hsm (fun _ => Nat.le_refl _) (fun c hc => by cases hc)
  have LC : Hid (∀ W u, Below w.heap.size w W → checkI fs l = 0 → ItsA W.heap.size W u (exL fs none (fun a => a) l) → Calls Tryz.prog 47 #[u, .func (.func 48) #[] #[]] W (tBool ((exL fs none (fun a => a) l).any largeB) W)) := Lib.hid fun W u hW hk hu =>
    large_has _ largeB u W.heap.size W hu (Nat.le_refl _) fun x hx W' a4 a7 a8 a9 a10 a11 hW' hv => large_one x a4 a7 a8 a9 a10 a11 W.heap.size W' hv hW'.size (hxs hk x hx) (ht.later (hW.then_ hW')).tab
  have HT := Lib.hid ht; have EE : Hid (expS fs l = if checkI fs l = 0 then (if 400 < cntL fs l then ([], 2) else if (exL fs none (fun a => a) l).any largeB = true then ([], 2) else (exL fs none (fun a => a) l, 0)) else ([], checkI fs l)) := Lib.hid rfl; have ED : Hid (exdS fs l = if 400 < cntL fs l then ([], false) else (exL fs none (fun a => a) l, true)) := Lib.hid rfl; obtain ⟨p, cap, V, rfl, hri⟩ := hx.form; obtain ⟨cnm, par, vf, pb, kb, cb, rfl, pf, cf, rfl, _⟩ := hc; have B3 := Blk.new w [.string cnm, .string par, .slice pf fs.length cf, .slice pb kb cb] 34; have hb0 := ba w (.cells #[.string cnm, .string par, .slice pf fs.length cf, .slice pb kb cb] 34); have a0 := B3.c 0 _ rfl; have a1 := B3.c 1 _ rfl; have a2 := B3.c 2 _ rfl; have a3 := B3.c 3 _ rfl; have HB := Lib.hid hb0; have H3 := Lib.hid B3; clear hri hxs B3 hb0 ht hS hS1 hsm hrs hsz hx hF; generalize fs.length = KF at *
  generalize l.length = K at *
  generalize expS fs l = R at *
  by_cases h0 : checkI fs l = 0
  · have HK0 := Lib.hid h0; rw [if_pos h0] at EE; rw [h0] at KC; clear h0; by_cases h4 : 400 < cntL fs l
    · rw [if_pos h4] at EE; have HD : Hid (exdS fs l = ([], false)) := Lib.hid (by rw [ED.out, if_pos h4]); have XC2 : Hid (∀ W fb, Below w.heap.size w W → FsA W fb fs → Calls Tryz.prog 46 #[.map (some fb), .slice p K cap] W (tLB [] false W)) := Lib.hid fun W fb hW hf => by
        have := XC.out W fb hW hf HK0.out; rw [HD.out] at this; exact this
      clear XC LC HD ED h4
      go_enter Tryz.func22, Tryz.ntmps22
      go_wp2_with (first
        | (go_at_call 20; ((with_reducible refine (KC.out _ HB.out).mono ?_); rintro e w1 ⟨rfl, hb⟩; have HB1 := Lib.hid (HB.out.then_ hb); have G3 := H3.out.stay hb; clear a0 a1 a2 a3; have a0 := G3.c 0 _ rfl; have a1 := G3.c 1 _ rfl; have a2 := G3.c 2 _ rfl; have a3 := G3.c 3 _ rfl; clear hb G3))
        | (go_at_call 43; ((with_reducible refine (FC.out _ HB1.out).mono ?_); rintro e w2 ⟨fb, fn, rfl, hfb, hfm, hb⟩; have HB2 := Lib.hid (HB1.out.then_ hb); have HFA := Lib.hid (FsA.mk ⟨_, hfm⟩ (HT.out.later (HB1.out.then_ hb))); clear hb hfm))
        | (go_at_call 46; ((with_reducible refine (XC2.out _ fb HB2.out HFA.out).mono ?_); rintro e w3 ⟨u, rfl, hu, hb⟩; have HB3 := Lib.hid (HB2.out.then_ hb); clear hb hu)))
      go_ret2; rw [EE.out]; exact ⟨_, rfl, ItsA.nil _ _ _ _, HB3.out⟩
    · rw [if_neg h4] at EE; have HD : Hid (exdS fs l = (exL fs none (fun a => a) l, true)) := Lib.hid (by rw [ED.out, if_neg h4]); have XC2 : Hid (∀ W fb, Below w.heap.size w W → FsA W fb fs → Calls Tryz.prog 46 #[.map (some fb), .slice p K cap] W (tLB (exL fs none (fun a => a) l) true W)) := Lib.hid fun W fb hW hf => by
        have := XC.out W fb hW hf HK0.out; rw [HD.out] at this; exact this
      have LC2 : Hid (∀ W u, Below w.heap.size w W → ItsA W.heap.size W u (exL fs none (fun a => a) l) → Calls Tryz.prog 47 #[u, .func (.func 48) #[] #[]] W (tBool ((exL fs none (fun a => a) l).any largeB) W)) := (Lib.hid fun W u h1 h2 => LC.out W u h1 HK0.out h2); clear XC LC HD ED h4; generalize exL fs none (fun a => a) l = X at *
      generalize X.any largeB = q at *
      cases q
      · rw [if_neg (by decide)] at EE
        go_enter Tryz.func22, Tryz.ntmps22
        go_wp2_with (first
          | (go_at_call 20; ((with_reducible refine (KC.out _ HB.out).mono ?_); rintro e w1 ⟨rfl, hb⟩; have HB1 := Lib.hid (HB.out.then_ hb); have G3 := H3.out.stay hb; clear a0 a1 a2 a3; have a0 := G3.c 0 _ rfl; have a1 := G3.c 1 _ rfl; have a2 := G3.c 2 _ rfl; have a3 := G3.c 3 _ rfl; clear hb G3))
          | (go_at_call 43; ((with_reducible refine (FC.out _ HB1.out).mono ?_); rintro e w2 ⟨fb, fn, rfl, hfb, hfm, hb⟩; have HB2 := Lib.hid (HB1.out.then_ hb); have HFA := Lib.hid (FsA.mk ⟨_, hfm⟩ (HT.out.later (HB1.out.then_ hb))); clear hb hfm))
          | (go_at_call 46; ((with_reducible refine (XC2.out _ fb HB2.out HFA.out).mono ?_); rintro e w3 ⟨u, rfl, hu, hb⟩; have HB3 := Lib.hid (HB2.out.then_ hb); have HU := Lib.hid hu; clear hb hu))
          | (go_at_call 47; ((with_reducible refine (LC2.out _ _ HB3.out HU.out).mono ?_); rintro e w4 ⟨rfl, hb⟩; have HB4 := Lib.hid (HB3.out.then_ hb); have HU4 := Lib.hid ((HU.out.under hb).wide hb.size); clear hb)))
        go_ret2; rw [EE.out]; exact ⟨_, rfl, HU4.out, HB4.out⟩
      · rw [if_pos rfl] at EE
        go_enter Tryz.func22, Tryz.ntmps22
        go_wp2_with (first
          | (go_at_call 20; ((with_reducible refine (KC.out _ HB.out).mono ?_); rintro e w1 ⟨rfl, hb⟩; have HB1 := Lib.hid (HB.out.then_ hb); have G3 := H3.out.stay hb; clear a0 a1 a2 a3; have a0 := G3.c 0 _ rfl; have a1 := G3.c 1 _ rfl; have a2 := G3.c 2 _ rfl; have a3 := G3.c 3 _ rfl; clear hb G3))
          | (go_at_call 43; ((with_reducible refine (FC.out _ HB1.out).mono ?_); rintro e w2 ⟨fb, fn, rfl, hfb, hfm, hb⟩; have HB2 := Lib.hid (HB1.out.then_ hb); have HFA := Lib.hid (FsA.mk ⟨_, hfm⟩ (HT.out.later (HB1.out.then_ hb))); clear hb hfm))
          | (go_at_call 46; ((with_reducible refine (XC2.out _ fb HB2.out HFA.out).mono ?_); rintro e w3 ⟨u, rfl, hu, hb⟩; have HB3 := Lib.hid (HB2.out.then_ hb); have HU := Lib.hid hu; clear hb hu))
          | (go_at_call 47; ((with_reducible refine (LC2.out _ _ HB3.out HU.out).mono ?_); rintro e w4 ⟨rfl, hb⟩; have HB4 := Lib.hid (HB3.out.then_ hb); clear hb)))
        go_ret2; rw [EE.out]; exact ⟨_, rfl, ItsA.nil _ _ _ _, HB4.out⟩
  · rw [if_neg h0] at EE; generalize checkI fs l = E0 at *
    have f1 : (E0 == 0) = false := (by rw [beq_eq_false_iff_ne]; exact h0); have f2 : (E0 != 0) = true := (by rw [bne, f1]; rfl); clear h0 XC LC FC ED
    go_enter Tryz.func22, Tryz.ntmps22
    go_wp2_with (first
      | (go_at_call 20; ((with_reducible refine (KC.out _ HB.out).mono ?_); rintro e w1 ⟨rfl, hb⟩; have HB1 := Lib.hid (HB.out.then_ hb); clear hb)))
    go_ret2; rw [EE.out]; exact ⟨_, rfl, ItsA.nil _ _ _ _, HB1.out⟩
def tFlt (w : World) (e : Ending) (w' : World) : Prop := ∃ v, e = .returned v ∧ ClA w'.heap.size w' v fl2 ∧ Below w.heap.size w w'
set_option maxRecDepth 100000 in
set_option maxHeartbeats 8000000 in
theorem flat_any (w : World) : Calls Tryz.prog 35 #[] w (tFlt w) := by
  have B2 := Blk.new (w.alloc (.cells #[.string ⟨#[112]⟩, .string ⟨#[]⟩, .slice (some ⟨w.heap.size + 1, 0, none⟩) 2 2, .slice none 0 0] 34)) [.string ⟨#[97]⟩, .int .i64 2, .int .i64 0, .int .i64 1, .int .i64 0, .string ⟨#[100]⟩, .int .i64 3, .int .i64 2, .int .i64 1, .int .i64 0] 77; have hb := (ba w (.cells #[.string ⟨#[112]⟩, .string ⟨#[]⟩, .slice (some ⟨w.heap.size + 1, 0, none⟩) 2 2, .slice none 0 0] 34)).then_ (ba _ (.cells #[.string ⟨#[97]⟩, .int .i64 2, .int .i64 0, .int .i64 1, .int .i64 0, .string ⟨#[100]⟩, .int .i64 3, .int .i64 2, .int .i64 1, .int .i64 0] 77)); rw [World.size_alloc] at B2; have B1 := (Blk.new w [.string ⟨#[112]⟩, .string ⟨#[]⟩, .slice (some ⟨w.heap.size + 1, 0, none⟩) 2 2, .slice none 0 0] 34).stay (ba _ (.cells #[.string ⟨#[97]⟩, .int .i64 2, .int .i64 0, .int .i64 1, .int .i64 0, .string ⟨#[100]⟩, .int .i64 3, .int .i64 2, .int .i64 1, .int .i64 0] 77)); simp only [List.toArray] at B1; have p0 := B1.c 0 _ rfl; have p1 := B1.c 1 _ rfl; have p2 := B1.c 2 _ rfl; have p3 := B1.c 3 _ rfl; have H2 := Lib.hid B2; have HB := Lib.hid hb; clear B1 B2 hb
  go_enter Tryz.func35, Tryz.ntmps35
  go_wp2; refine bodyPost_ret (v := .agg #[.string ⟨#[112]⟩, .string ⟨#[]⟩, .slice (some ⟨w.heap.size + 1, 0, none⟩) 2 2, .slice none 0 0]) (by simp [results, Tryz.results35, go_sem, p0, p1, p2, p3]) rfl ?_; have hB := H2.out; have hlt := hB.lt; simp only [List.toArray] at hB hlt; refine ⟨_, rfl, ⟨_, _, _, none, 0, 0, rfl, some ⟨w.heap.size + 1, 0, none⟩, 2, rfl, by decide, by decide, ?_, fun _ => ⟨w.heap.size + 1, 0, rfl, hlt, fun i f hi => ?_⟩⟩, HB.out⟩
  · intro f hf; simp [fl2] at hf; rcases hf with rfl | rfl <;> decide
  · rcases i with _ | _ | i
    · obtain rfl : (⟨⟨#[97]⟩, 2, 0, 1, 0⟩ : Fld) = f := (by simpa [fl2] using hi); exact ⟨hB.c 0 _ rfl, hB.c 1 _ rfl, hB.c 2 _ rfl, hB.c 3 _ rfl, hB.c 4 _ rfl⟩
    · obtain rfl : (⟨⟨#[100]⟩, 3, 2, 1, 0⟩ : Fld) = f := (by simpa [fl2] using hi); exact ⟨hB.c 5 _ rfl, hB.c 6 _ rfl, hB.c 7 _ rfl, hB.c 8 _ rfl, hB.c 9 _ rfl⟩
    · simp [fl2] at hi
theorem one_argN {T : Nat → Prop} {W : World} {g : Nat} {op : Int} {s : ByteArray} {c : Ex} {p5 : Option Addr} {c5 : Nat} (hs : s.size ≤ 140737488351232) (hT : T g)
    (hB : Blk W g [.int .i64 c.op, .int .i64 c.n, .string c.nm, .slice p5 c.args.length c5]) (h1 : ExS T W (xv c.op c.n c.nm (.slice p5 c.args.length c5)) c) : ExS T W (xv op 0 s (.slice (some ⟨g, 0, none⟩) 1 1)) (.mk op 0 s [c]) := by
  refine ExS.mk (ks := [c]) (fun _ => p5) (fun _ => c5) hs (by simp) (by simp) (fun _ => ⟨g, 0, rfl, hT, fun i a ha => ?_⟩) (fun i a ha => ?_)
  · rcases i with _ | i
    · obtain rfl : c = a := (by simpa using ha); exact ⟨hB.c 0 _ rfl, hB.c 1 _ rfl, hB.c 2 _ rfl, hB.c 3 _ rfl⟩
    · simp at ha
  · rcases i with _ | i
    · obtain rfl : c = a := (by simpa using ha); exact h1
    · simp at ha
theorem one_it {N g : Nat} {W : World} {x : It} {v4 v7 v8 v9 v10 v11 : Value} (hg : g < N) (hB : Blk W g [.int .i64 x.kd, .int .i64 x.e.op, .int .i64 x.e.n, .string x.e.nm, v4, .string x.nm, .string x.ix, v7, v8, v9, v10, v11]) (hv : IV N W v4 v7 v8 v9 v10 v11 x) : ItsA N W (.slice (some ⟨g, 0, none⟩) 1 1) [x] := by
  refine RowI.its (l := [x]) (V := fun _ r => match r with | 4 => v4 | 7 => v7 | 8 => v8 | 9 => v9 | 10 => v10 | _ => v11) ⟨by simp, by simp, fun _ => ⟨g, 0, rfl, hg, fun i y hy => ?_⟩, fun i y hy => ?_⟩
  · rcases i with _ | i
    · obtain rfl : x = y := (by simpa using hy); exact ⟨hB.c 0 _ rfl, hB.c 1 _ rfl, hB.c 2 _ rfl, hB.c 3 _ rfl, hB.c 4 _ rfl, hB.c 5 _ rfl, hB.c 6 _ rfl, hB.c 7 _ rfl, hB.c 8 _ rfl, hB.c 9 _ rfl, hB.c 10 _ rfl, hB.c 11 _ rfl⟩
    · simp at hy
  · rcases i with _ | i
    · obtain rfl : x = y := (by simpa using hy); exact hv
    · simp at hy
set_option maxRecDepth 100000 in
set_option maxHeartbeats 8000000 in
theorem awake_any (w : World) (ht : TabI w) : Calls Tryz.prog 11 #[] w (tBool true w) := by
  have FL : Hid (∀ W, Calls Tryz.prog 35 #[] W (tFlt W)) := Lib.hid flat_any; obtain ⟨W1, hW1⟩ : ∃ W, w.alloc (.cells #[.int .i64 2, .int .i64 0, .string ⟨#[105]⟩, .slice none 0 0] 43) = W := ⟨_, rfl⟩; have hs1 : W1.heap.size = w.heap.size + 1 := (by rw [← hW1, World.size_alloc]); have b1 : Blk W1 w.heap.size [.int .i64 2, .int .i64 0, .string ⟨#[105]⟩, .slice none 0 0] := (by rw [← hW1]; exact Blk.new ..); have l1 : Below w.heap.size w W1 := (by rw [← hW1]; exact ba ..); obtain ⟨W2, hW2⟩ : ∃ W, W1.alloc (.cells #[.int .i64 3, .int .i64 0, .string ⟨#[100]⟩, .slice (some ⟨w.heap.size, 0, none⟩) 1 1, .int .i64 1, .int .i64 3, .string ⟨#[]⟩, .slice none 0 0] 43) = W := ⟨_, rfl⟩; have hs2 : W2.heap.size = w.heap.size + 1 + 1 := (by rw [← hW2, World.size_alloc, hs1]); have b2 : Blk W2 (w.heap.size + 1) [.int .i64 3, .int .i64 0, .string ⟨#[100]⟩, .slice (some ⟨w.heap.size, 0, none⟩) 1 1, .int .i64 1, .int .i64 3, .string ⟨#[]⟩, .slice none 0 0] := (by rw [← hW2, ← hs1]; exact Blk.new ..); have l2 : Below W1.heap.size W1 W2 := (by rw [← hW2]; exact ba ..); obtain ⟨W3, hW3⟩ : ∃ W, W2.alloc (.cells #[.int .i64 17, .int .i64 0, .string ⟨#[]⟩, .slice (some ⟨w.heap.size + 1, 0, none⟩) 2 2] 43) = W := ⟨_, rfl⟩; have hs3 : W3.heap.size = w.heap.size + 1 + 1 + 1 := (by rw [← hW3, World.size_alloc, hs2]); have b3 : Blk W3 (w.heap.size + 1 + 1) [.int .i64 17, .int .i64 0, .string ⟨#[]⟩, .slice (some ⟨w.heap.size + 1, 0, none⟩) 2 2] := (by rw [← hW3, ← hs2]; exact Blk.new ..); have l3 : Below W2.heap.size W2 W3 := (by rw [← hW3]; exact ba ..); obtain ⟨W4, hW4⟩ : ∃ W, W3.alloc (.cells #[.int .i64 1, .int .i64 17, .int .i64 0, .string ⟨#[]⟩, .slice (some ⟨w.heap.size + 1, 0, none⟩) 2 2, .string ⟨#[]⟩, .string ⟨#[]⟩, .slice none 0 0, .slice none 0 0, .slice none 0 0, .slice none 0 0, .slice none 0 0] 55) = W := ⟨_, rfl⟩; have hs4 : W4.heap.size = w.heap.size + 1 + 1 + 1 + 1 := (by rw [← hW4, World.size_alloc, hs3]); have b4 : Blk W4 (w.heap.size + 1 + 1 + 1) [.int .i64 1, .int .i64 17, .int .i64 0, .string ⟨#[]⟩, .slice (some ⟨w.heap.size + 1, 0, none⟩) 2 2, .string ⟨#[]⟩, .string ⟨#[]⟩, .slice none 0 0, .slice none 0 0, .slice none 0 0, .slice none 0 0, .slice none 0 0] := (by rw [← hW4, ← hs3]; exact Blk.new ..); have l4 : Below W3.heap.size W3 W4 := (by rw [← hW4]; exact ba ..); obtain ⟨W5, hW5⟩ : ∃ W, W4.alloc (.cells #[.int .i64 5, .int .i64 0, .int .i64 0, .string ⟨#[]⟩, .slice none 0 0, .string ⟨#[100]⟩, .string ⟨#[105]⟩, .slice none 0 0, .slice (some ⟨w.heap.size + 1 + 1 + 1, 0, none⟩) 1 1, .slice none 0 0, .slice none 0 0, .slice none 0 0] 55) = W := ⟨_, rfl⟩; have hs5 : W5.heap.size = w.heap.size + 1 + 1 + 1 + 1 + 1 := (by rw [← hW5, World.size_alloc, hs4]); have b5 : Blk W5 (w.heap.size + 1 + 1 + 1 + 1) [.int .i64 5, .int .i64 0, .int .i64 0, .string ⟨#[]⟩, .slice none 0 0, .string ⟨#[100]⟩, .string ⟨#[105]⟩, .slice none 0 0, .slice (some ⟨w.heap.size + 1 + 1 + 1, 0, none⟩) 1 1, .slice none 0 0, .slice none 0 0, .slice none 0 0] := (by rw [← hW5, ← hs4]; exact Blk.new ..); have l5 : Below W4.heap.size W4 W5 := (by rw [← hW5]; exact ba ..); have a1 := (((b1.stay l2).stay (l3)).stay l4 |>.stay l5); have a2 := ((b2.stay l3).stay l4).stay l5; have a4 := b4.stay l5; have HL : Hid (Below w.heap.size w W5) := Lib.hid ((((l1.then_ l2).then_ l3).then_ l4).then_ l5); have x1 : ExS (fun b => b < W5.heap.size) W5 (xv 3 0 ⟨#[100]⟩ (.slice (some ⟨w.heap.size, 0, none⟩) 1 1)) eElem := one_argN (c := eIdx) (by decide) a1.lt a1 (ExS.leaf (by decide)); have x2 : ExS (fun b => b < W5.heap.size) W5 (xv 17 0 ⟨#[]⟩ (.slice (some ⟨w.heap.size + 1, 0, none⟩) 2 2)) eTop := two_args (c := eElem) (e := .mk 1 3 ⟨#[]⟩ []) a2.lt a2 x1 (ExS.leaf (by decide)); have i1 : ItsA W5.heap.size W5 (.slice (some ⟨w.heap.size + 1 + 1 + 1, 0, none⟩) 1 1) inL := one_it a4.lt a4 ⟨by decide, by decide, x2.toAt fun _ h => h, WtA.nil _ _ _ _, ItsA.nil _ _ _ _, ItsA.nil _ _ _ _, StA.nil _ _ _ _, StA.nil _ _ _ _⟩; have z1 : ExS (fun b => b < W5.heap.size) W5 (xv 0 0 ⟨#[]⟩ (.slice none 0 0)) zE := ExS.leaf (by decide); have HX : Hid (ItsA W5.heap.size W5 (.slice (some ⟨w.heap.size + 1 + 1 + 1 + 1, 0, none⟩) 1 1) awL) := Lib.hid (one_it b5.lt b5 ⟨by decide, by decide, z1.toAt fun _ h => h, WtA.nil _ _ _ _, i1, ItsA.nil _ _ _ _, StA.nil _ _ _ _, StA.nil _ _ _ _⟩); have HT := Lib.hid ht; have hsz : iszs awL ≤ 10000 := (by rw [aw_size]; decide); have XE : Hid (∀ W cv, Below W5.heap.size W5 W → ClA W.heap.size W cv fl2 → Calls Tryz.prog 22 #[.slice (some ⟨w.heap.size + 1 + 1 + 1 + 1, 0, none⟩) 1 1, cv] W fun e w' => ∃ b off cap, e = .returned (.tuple #[.slice (some ⟨b, off, none⟩) 2 cap, .int .i64 0]) ∧ w'.cell? ⟨b, off + 12, none⟩ = some (.int .i64 1) ∧ 2 ≤ cap ∧ Below W.heap.size W w') := Lib.hid fun W cv hW hc => by
    refine ((itemExpand_any fl2 aw_S (by decide) awL _ cv W ((HX.out.under hW).wide hW.size) hc hsz aw_rs aw_sm (HT.out.later (HL.out.then_ hW))).mono fun e w' ⟨v, he, hv, hb⟩ => ?_); rw [aw_exp] at he; have hm := aw_exp1; have hl : (expS fl2 awL).1.length = 2 := (by have := congrArg List.length hm; simpa using this); obtain ⟨p, cap, V, rfl, hr⟩ := hv.form; obtain ⟨b, off, rfl, hbn, hcell⟩ := hr.hp (by rw [hl]; decide); obtain ⟨y, hy⟩ : ∃ y, (expS fl2 awL).1[1]? = some y := ⟨_, List.getElem?_eq_getElem (by rw [hl]; decide)⟩; have hk : y.kd = 1 := by
      have := congrArg (fun l : List Int => l[1]?) hm; simp only [List.getElem?_map, hy, Option.map_some] at this
      simpa using this
    have c0 := (hcell 1 y hy).c0; rw [hk] at c0; refine ⟨b, off, cap, ?_, c0, ?_, hb⟩
    · rw [he, hl]
    · have := hr.hc; rw [hl] at this; exact this
  have SE : Hid (∀ W cv, Below w.heap.size w W → ClA W.heap.size W cv fl2 → Calls Tryz.prog 26 #[.agg #[.int .i64 24, .int .i64 0, .string ⟨#[100]⟩, .slice none 0 0], cv] W fun e w' => ∃ n s p k c, e = .returned (.tuple #[.agg #[.int .i64 7, .int .i64 n, .string s, .slice p k c], .int .i64 0]) ∧ Below W.heap.size W w') := Lib.hid fun W cv hW hc => by
    have hx : ExS (fun b => b < W.heap.size) W (xv 24 0 ⟨#[100]⟩ (.slice none 0 0)) eSum := ExS.leaf (by decide); refine ((itemScalar_any fl2 aw_S (by decide) eSum _ cv W (hx.toAt fun _ h => h) hc (by rw [aw_sz]; decide) (HT.out.later hW)).mono fun e w' ⟨v, he, hv, hb⟩ => ?_); rw [aw_sca] at he; obtain ⟨p, cap, hvv, _, _⟩ := hv.form; rw [aw_sca1] at hvv; exact ⟨_, _, _, _, _, by rw [he, hvv], hb⟩
  have KE : Hid (∀ W cv, Below W5.heap.size W5 W → ClA W.heap.size W cv fl2 → Calls Tryz.prog 20 #[.slice (some ⟨w.heap.size + 1 + 1 + 1 + 1, 0, none⟩) 1 1, cv] W fun e w' => e = .returned (.int .i64 0) ∧ Below W.heap.size W w') := Lib.hid fun W cv hW hc => by
    have := itemCheck_any awL fl2 (fun f hf => ⟨(aw_S f hf).1, by have := (aw_S f hf).2; omega⟩) (by decide) _ cv W ((HX.out.under hW).wide hW.size) hc hsz aw_rs (HT.out.later (HL.out.then_ hW)); rw [aw_check] at this; exact this
  have ZE : Hid (∀ W, Below W5.heap.size W5 W → Calls Tryz.prog 12 #[.slice (some ⟨w.heap.size + 1 + 1 + 1 + 1, 0, none⟩) 1 1] W fun e w' => e = .returned (.int .i64 2) ∧ Below W.heap.size W w') := Lib.hid fun W hW => by
    have := itemSize_any awL _ W ((HX.out.under hW).wide hW.size) hsz; rw [aw_size] at this; exact this
  have d0 := b3.c 0 _ rfl; have d1 := b3.c 1 _ rfl; have d2 := b3.c 2 _ rfl; have d3 := b3.c 3 _ rfl; have HBX : Hid (Below W5.heap.size W5 W5) := Lib.hid (Below.refl _ _); have HBY : Hid (Below W5.heap.size W5 W5) := Lib.hid (Below.refl _ _); have HBZ : Hid (Below W5.heap.size W5 W5) := Lib.hid (Below.refl _ _); clear b1 b2 b3 b4 b5 l1 l2 l3 l4 l5 a1 a2 a4 x1 x2 i1 z1 HX ht hsz HT
  go_enter Tryz.func11, Tryz.ntmps11
  go_wp2_with (first
    | (go_at_call 35; ((with_reducible refine (FL.out _).mono ?_); rintro e wA ⟨cv, rfl, hcA, hbA⟩; have HCA := Lib.hid hcA; have HBX := Lib.hid (HBX.out.then_ hbA); have HBY := Lib.hid (HBY.out.then_ hbA); have HBZ := Lib.hid (HBZ.out.then_ hbA); clear hcA hbA))
    | (go_at_call 22; ((with_reducible refine (XE.out _ _ HBX.out HCA.out).mono ?_); rintro e wB ⟨b, off, cap, rfl, hc3, hcap, hb⟩; have HC3 := Lib.hid hc3; have HBX := Lib.hid (HBX.out.then_ hb); have HBZ := Lib.hid (HBZ.out.then_ hb); have HBY : Hid (Below wB.heap.size wB wB) := Lib.hid (Below.refl _ _); clear hb hc3))
    | (go_at_call 26; ((with_reducible refine (SE.out _ _ (HL.out.then_ HBX.out) HCA.out).mono ?_); rintro e wD ⟨n5, s5, p5, k5, c5, rfl, hb⟩; have HBX := Lib.hid ((HBX.out.then_ hb).then_ (ba wD (.cells #[.int .i64 7, .int .i64 n5, .string s5, .slice p5 k5 c5] 43))); have HBY := Lib.hid ((HBY.out.then_ hb).then_ (ba wD (.cells #[.int .i64 7, .int .i64 n5, .string s5, .slice p5 k5 c5] 43))); have HE5 := Lib.hid (Blk.new wD [.int .i64 7, .int .i64 n5, .string s5, .slice p5 k5 c5] 43); have HBZ : Hid (Below (wD.alloc (.cells #[.int .i64 7, .int .i64 n5, .string s5, .slice p5 k5 c5] 43)).heap.size (wD.alloc (.cells #[.int .i64 7, .int .i64 n5, .string s5, .slice p5 k5 c5] 43)) (wD.alloc (.cells #[.int .i64 7, .int .i64 n5, .string s5, .slice p5 k5 c5] 43))) := Lib.hid (Below.refl _ _); clear hb))
    | (go_at_call 20; ((with_reducible refine (KE.out _ _ HBX.out HCA.out).mono ?_); rintro e wG ⟨rfl, hb⟩; have HBX := Lib.hid (HBX.out.then_ hb); have HBY := Lib.hid (HBY.out.then_ hb); have HBZ := Lib.hid (HBZ.out.then_ hb); have g3 := (HBY.out.cell (World.block_lt_of_cell? _ _ HC3.out)).trans HC3.out; have g5 := (HE5.out.stay HBZ.out).c 0 _ rfl; clear hb))
    | (go_at_call 12; ((with_reducible refine (ZE.out _ HBX.out).mono ?_); rintro e wH ⟨rfl, hb⟩; have HBX := Lib.hid (HBX.out.then_ hb); clear hb)))
  go_ret; exact ⟨rfl, HL.out.then_ HBX.out⟩
end Go.Proofs.YtpejflgdehioaaaGreatDoor.ItW
namespace Go.Proofs.YtpejflgdehioaaaGreatDoor.ItW
open Go Go.RowKit Go.Shelf Go.«Sort» Go.Proofs.YtpejflgdehioaaaGreatDoor.NumM Go.Proofs.YtpejflgdehioaaaGreatDoor.LexW Go.Proofs.YtpejflgdehioaaaGreatDoor.LexM Go.Proofs.YtpejflgdehioaaaGreatDoor.ExM Go.Proofs.YtpejflgdehioaaaGreatDoor.ExW Go.Proofs.YtpejflgdehioaaaGreatDoor.ItM
theorem drewS_below (w : World) (m : Nat) : Below w.heap.size w (w.drewN m) := drewB (Below.refl _ _)
set_option maxRecDepth 100000 in
set_option maxHeartbeats 16000000 in
theorem itemShapes_any (l : List It) (v : Value) (w : World) (hx : ItsA w.heap.size w v l) (hz : iszs l ≤ 2000000) (ht : TabI w) :
    Calls Tryz.prog 3 #[v] w fun e w' => e = .returned (.bool true) ∧ Below w.heap.size w w' := by
  have FC : Hid (∀ W, Below w.heap.size w W → Calls Tryz.prog 10 #[v] W fun e w' => e = .returned (.bool (fewB l)) ∧ Below W.heap.size W w') := (Lib.hid fun W hW => fewI_any l v W.heap.size W hz ((hx.under hW).wide hW.size) (Nat.le_refl _)); have AW : Hid (∀ W, Below w.heap.size w W → Calls Tryz.prog 11 #[] W fun e w' => e = .returned (.bool true) ∧ Below W.heap.size W w') := (Lib.hid fun W hW => awake_any W (ht.later hW)); have HX := Lib.hid (Below.refl w.heap.size w); cases hf : fewB l
  · rw [hf] at FC; clear hx ht hz hf
    go_enter Tryz.func3, Tryz.ntmps3
    go_wp2_with (first
      | (go_at_call 10; ((with_reducible refine (FC.out _ HX.out).mono ?_); rintro e w1 ⟨rfl, hb⟩; have HX := Lib.hid (HX.out.then_ hb); clear hb))
      | (go_at_call 11; ((with_reducible refine (AW.out _ HX.out).mono ?_); rintro e w9 ⟨rfl, hb⟩; have HX := Lib.hid (HX.out.then_ hb); clear hb)))
    go_ret; exact fin_yes HX.out
  · rw [hf] at FC; obtain ⟨h1, h2⟩ := few_true hf; have hrs := fw_rs l h1; obtain ⟨z, hzz⟩ : ∃ z, iszs l = z := ⟨_, rfl⟩; obtain ⟨y, hyy⟩ : ∃ y, validI l = y := ⟨_, rfl⟩; obtain ⟨M, hMM⟩ : ∃ M, namesI l = M := ⟨_, rfl⟩; have hml := namesI_len hrs; have hms := namesI_sz hx; rw [hMM] at hml hms; have Z1 : Hid (∀ W, Below w.heap.size w W → Calls Tryz.prog 12 #[v] W fun e w' => e = .returned (.int .i64 z) ∧ Below W.heap.size W w') := Lib.hid fun W hW => by
      have := itemSize_any l v W ((hx.under hW).wide hW.size) (by omega); rw [hzz] at this; exact this
    have Z2 : Hid (∀ W, Below w.heap.size w W → Calls Tryz.prog 13 #[v] W fun e w' => e = .returned (.int .i64 z) ∧ Below W.heap.size W w') := Lib.hid fun W hW => by
      have := sizeR_any l v W.heap.size W ((hx.under hW).wide hW.size) (Nat.le_refl _) (by omega); rw [hzz] at this; exact this.mono fun e w' ⟨h1, m, h2⟩ => ⟨h1, by rw [h2]; exact drewS_below _ _⟩
    have Y1 : Hid (∀ W, Below w.heap.size w W → Calls Tryz.prog 17 #[v] W fun e w' => e = .returned (.int .i64 y) ∧ Below W.heap.size W w') := Lib.hid fun W hW => by
      have := itemValid_any l v W ((hx.under hW).wide hW.size) (by omega) hrs (ht.later hW).tab; rw [hyy] at this; exact this
    have Y2 : Hid (∀ W, Below w.heap.size w W → Calls Tryz.prog 18 #[v] W fun e w' => e = .returned (.int .i64 y) ∧ Below W.heap.size W w') := Lib.hid fun W hW => by
      have := itemValidR_any l v W ((hx.under hW).wide hW.size) (by omega) hrs; rw [hyy] at this; exact this
    have N1 : Hid (∀ W, Below w.heap.size w W → Calls Tryz.prog 15 #[v] W fun e w' => ∃ v', e = .returned v' ∧ StA w'.heap.size w' v' M ∧ Below W.heap.size W w') := Lib.hid fun W hW => by
      have := itemNames_any l v W ((hx.under hW).wide hW.size) (by omega) hrs; rw [hMM] at this; exact this.mono fun e w' ⟨v', h1, h2, h3⟩ => ⟨v', h1, own_StA h2 (by omega) hms, h3⟩
    have N2 : Hid (∀ W, Below w.heap.size w W → Calls Tryz.prog 16 #[v] W fun e w' => ∃ v', e = .returned v' ∧ StA w'.heap.size w' v' M ∧ Below W.heap.size W w') := Lib.hid fun W hW => by
      have := namesR_any l v W ((hx.under hW).wide hW.size) (by omega) hrs; rw [hMM] at this; exact this.mono fun e w' ⟨v', h1, h2, h3⟩ => ⟨v', h1, own_StA h2 (by omega) hms, h3⟩
    have TX : Hid (∀ W va vb, StA W.heap.size W va M → StA W.heap.size W vb M → Calls Tryz.prog 14 #[va, vb] W fun e w' => e = .returned (.bool true) ∧ Below W.heap.size W w') := (Lib.hid fun W va vb ha hb => textsL_any M va vb W.heap.size W ha hb (Nat.le_refl _)); clear hx ht hz hf h1 h2 hrs hzz hyy hMM hml hms
    go_enter Tryz.func3, Tryz.ntmps3
    go_wp2_with (first
      | (go_at_call 10; ((with_reducible refine (FC.out _ HX.out).mono ?_); rintro e w1 ⟨rfl, hb⟩; have HX := Lib.hid (HX.out.then_ hb); clear hb))
      | (go_at_call 12; ((with_reducible refine (Z1.out _ HX.out).mono ?_); rintro e w2 ⟨rfl, hb⟩; have HX := Lib.hid (HX.out.then_ hb); clear hb))
      | (go_at_call 13; ((with_reducible refine (Z2.out _ HX.out).mono ?_); rintro e w3 ⟨rfl, hb⟩; have HX := Lib.hid (HX.out.then_ hb); clear hb))
      | (go_at_call 15; ((with_reducible refine (N1.out _ HX.out).mono ?_); rintro e w4 ⟨v4, rfl, h4, hb⟩; have H4 := Lib.hid h4; have HX := Lib.hid (HX.out.then_ hb); clear hb h4))
      | (go_at_call 16; ((with_reducible refine (N2.out _ HX.out).mono ?_); rintro e w5 ⟨v5, rfl, h5, hb⟩; have H5 := Lib.hid h5; have H4 := Lib.hid ((H4.out.under hb).wide hb.size); have HX := Lib.hid (HX.out.then_ hb); clear hb h5))
      | (go_at_call 14; ((with_reducible refine (TX.out _ _ _ H4.out H5.out).mono ?_); rintro e w6 ⟨rfl, hb⟩; have HX := Lib.hid (HX.out.then_ hb); clear hb))
      | (go_at_call 17; ((with_reducible refine (Y1.out _ HX.out).mono ?_); rintro e w7 ⟨rfl, hb⟩; have HX := Lib.hid (HX.out.then_ hb); clear hb))
      | (go_at_call 18; ((with_reducible refine (Y2.out _ HX.out).mono ?_); rintro e w8 ⟨rfl, hb⟩; have HX := Lib.hid (HX.out.then_ hb); clear hb))
      | (go_at_call 11; ((with_reducible refine (AW.out _ HX.out).mono ?_); rintro e w9 ⟨rfl, hb⟩; have HX := Lib.hid (HX.out.then_ hb); clear hb)))
    go_ret; exact fin_yes HX.out
end Go.Proofs.YtpejflgdehioaaaGreatDoor.ItW
