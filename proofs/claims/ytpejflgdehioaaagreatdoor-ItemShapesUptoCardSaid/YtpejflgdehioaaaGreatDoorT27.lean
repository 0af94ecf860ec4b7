/-
  Laws that the card uses; no conditions beside those that each states (ItCount).
-/
import Derived.Test.YtpejflgdehioaaaGreatDoorT21
import Derived.Test.YtpejflgdehioaaaGreatDoorT22
namespace Go.Proofs.YtpejflgdehioaaaGreatDoor.ItW
open Go Go.RowKit Go.Proofs.YtpejflgdehioaaaGreatDoor.NumM Go.Proofs.YtpejflgdehioaaaGreatDoor.LexW Go.Proofs.YtpejflgdehioaaaGreatDoor.LexM Go.Proofs.YtpejflgdehioaaaGreatDoor.ExM Go.Proofs.YtpejflgdehioaaaGreatDoor.ExW Go.Proofs.YtpejflgdehioaaaGreatDoor.ItM
open Go.Proofs.YtpejflgdehioaaaGreatDoor.ClM (Fld)
theorem constant_any (n : Int) (w : World) : Calls Tryz.prog 135 #[.int .i64 n] w fun e w' => e = .returned (xv 1 n ⟨#[]⟩ (.slice none 0 0)) ∧ Below w.heap.size w w' := by
  go_enter Tryz.func135, Tryz.ntmps135
  go_wp2; refine bodyPost_ret (v := xv 1 n ⟨#[]⟩ (.slice none 0 0)) (by simp [results, Tryz.results135, go_sem]) rfl ?_; exact ⟨rfl, by repeat' (first | exact Below.refl _ _ | (refine Below.alloc ?_ (by simp) _) | (refine Below.setCell (p := ⟨_, _, _⟩) ?_ (by simp) _))⟩
theorem large_one (x : It) (a4 a7 a8 a9 a10 a11 : Value) (N : Nat) (w : World) (h : IV N w a4 a7 a8 a9 a10 a11 x) (hN : N ≤ w.heap.size) (hsz : sz x.e ≤ 10000) (ht : Tab w) :
    Calls Tryz.prog 48 #[iv x.kd x.e.op x.e.n x.e.nm a4 x.nm x.ix a7 a8 a9 a10 a11] w (tBool (largeB x) w) := by
  have VC0 : ∀ W, Below w.heap.size w W → Calls Tryz.prog 55 #[xv x.e.op x.e.n x.e.nm a4] W (tInt (vld x.e) W) := (fun W hW => valid_any x.e _ W ((h.ex.under (hW.mono hN)).wide (by have := hW.size; omega)) hsz (ht.later hW)); obtain ⟨kd, o, n, en, p4, k4, c4, nm, ix, p7, k7, c7, p8, k8, c8, p9, k9, c9, p10, k10, c10, p11, k11, c11, ev, hv⟩ := h.open_; have ev2 := ev; simp only [Value.agg.injEq, Array.mk.injEq, List.cons.injEq] at ev2; obtain ⟨-, -, -, -, rfl, -, -, rfl, rfl, rfl, rfl, rfl, -⟩ := ev2; rw [ev]; rw [hv.e1, hv.e2, hv.e3] at VC0; have EE : Hid (largeB x = (!outK kd && !decide (vld x.e = 0))) := Lib.hid (by unfold largeB; rw [hv.e0]); have OC : Hid (∀ W, Calls Tryz.prog 73 #[.int .i64 kd] W fun e w' => e = .returned (.bool (outK kd)) ∧ W = w') := (Lib.hid fun W => out_any kd W); have VC := Lib.hid VC0; obtain ⟨cs, hcs⟩ : ∃ cs, cs = ics kd o n en (.slice p4 k4 c4) nm ix (.slice p7 k7 c7) (.slice p8 k8 c8) (.slice p9 k9 c9) (.slice p10 k10 c10) (.slice p11 k11 c11) := ⟨_, rfl⟩; have F0 := Blk.new w cs 55; have HB := Lib.hid (ba w (.cells cs.toArray 55)); subst hcs; have d0 := F0.c 0 _ rfl; have d1 := F0.c 1 _ rfl; have d2 := F0.c 2 _ rfl; have d3 := F0.c 3 _ rfl; have d4 := F0.c 4 _ rfl; clear F0 ev hv h ht VC0 hN hsz; generalize outK kd = q at *
  generalize vld x.e = z at *
  cases q
  · by_cases hz : z = 0
    · subst hz
      go_enter Tryz.func48, Tryz.ntmps48
      go_wp2_with (first
        | (go_at_call 73; ((with_reducible refine (OC.out _).mono ?_); rintro e w1 ⟨rfl, rfl⟩))
        | (go_at_call 55; ((with_reducible refine (VC.out _ HB.out).mono ?_); rintro e w2 ⟨rfl, hb⟩; have HB2 := Lib.hid (HB.out.then_ hb); clear hb)))
      go_ret; exact tBool_mk (by rw [EE.out]; rfl) HB2.out
    · have hz2 : (z != 0) = true := by simpa using hz
      go_enter Tryz.func48, Tryz.ntmps48
      go_wp2_with (first
        | (go_at_call 73; ((with_reducible refine (OC.out _).mono ?_); rintro e w1 ⟨rfl, rfl⟩))
        | (go_at_call 55; ((with_reducible refine (VC.out _ HB.out).mono ?_); rintro e w2 ⟨rfl, hb⟩; have HB2 := Lib.hid (HB.out.then_ hb); clear hb)))
      go_ret; exact tBool_mk (by rw [EE.out, decide_eq_false hz]; rfl) HB2.out
  · go_enter Tryz.func48, Tryz.ntmps48
    go_wp2_with (go_at_call 73; ((with_reducible refine (OC.out _).mono ?_); rintro e w1 ⟨rfl, rfl⟩))
    go_ret; exact tBool_mk (by rw [EE.out]; rfl) HB.out
theorem cntL_bound (fs : List Fld) (hS : ∀ f ∈ fs, 0 ≤ f.sz ∧ f.sz ≤ 8) : ∀ s, 0 ≤ szI fs s ∧ szI fs s ≤ 8 := by
  intro s; unfold szI szO; cases h : fs.find? (fun f => ClM.same f.nm s) with
  | none => simp
  | some f => exact hS f (List.mem_of_find?_eq_some h)
def dpt : Nat → List It → Prop
  | 0, l => l = []
  | k + 1, l => ∀ x ∈ l, dpt k x.it ∧ dpt k x.el
theorem cntL_le (fs : List Fld) (hS : ∀ f ∈ fs, 0 ≤ f.sz ∧ f.sz ≤ 8) (l : List It) : ∀ k, dpt k l → 0 ≤ cntL fs l ∧ cntL fs l ≤ (iszs l : Int) * 8 ^ k := by
  induction l using its_rec with
  | h0 => intro k _; rw [cntL_nil, iszs_nil]; simp
  | h1 x r h1 h2 h3 =>
    intro k hk; cases k with
    | zero => cases hk
    | succ k =>
      have hx := hk x (by simp); have a1 := h1 k hx.1; have a2 := h2 k hx.2; have a3 := h3 (k + 1) (fun y hy => hk y (by simp [hy])); have hs := cntL_bound fs hS x.nm; rw [cntL_cons, cntI_eq, iszs_cons, isz_eq]; have p8 : (1 : Int) ≤ 8 ^ k := by
        have : (0 : Int) < 8 ^ k := Int.pow_pos (by omega); omega
      have e1 : ((iszs x.it + iszs x.el + 1 + iszs r : Nat) : Int) * 8 ^ (k + 1) = ((iszs x.it : Int) * 8 ^ k) * 8 + ((iszs x.el : Int) * 8 ^ k) * 8 + 8 ^ k * 8 + (iszs r : Int) * 8 ^ (k + 1) := by
        rw [Int.pow_succ]; simp only [Int.natCast_add, Int.add_mul, Int.one_mul, Int.natCast_one, Int.mul_assoc]
      rw [e1]; have g1 : 0 ≤ (iszs x.it : Int) * 8 ^ k := (by omega); have g2 : 0 ≤ (iszs x.el : Int) * 8 ^ k := (by omega); generalize (iszs x.it : Int) * 8 ^ k = A at *
      generalize (iszs x.el : Int) * 8 ^ k = E at *
      generalize (iszs r : Int) * 8 ^ (k + 1) = R at *
      generalize (8 : Int) ^ k = P at *
      split
      · omega
      · split
        · have hm : 0 ≤ min (szI fs x.nm) 401 ∧ min (szI fs x.nm) 401 ≤ 8 := (by omega); generalize min (szI fs x.nm) 401 = m at *
          have m1 : 0 ≤ cntL fs x.it * m := Int.mul_nonneg a1.1 hm.1; have m2 : cntL fs x.it * m ≤ A * 8 := Int.mul_le_mul a1.2 hm.2 hm.1 g1; omega
        · omega
end Go.Proofs.YtpejflgdehioaaaGreatDoor.ItW
