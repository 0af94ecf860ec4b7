/-
  Laws that the card uses; no conditions beside those that each states (ItAwake ItNds ItRVal ExSigO ItLChk ItRWt ItScW ItScN ItKeepM ExReplM ItHoM ItExpM ItOncM ItRCho ItLSca).
-/
import Derived.Test.YtpejflgdehioaaaGreatDoorR22
namespace Go.Proofs.YtpejflgdehioaaaGreatDoor.ItW
open Go Go.RowKit Go.Proofs.YtpejflgdehioaaaGreatDoor.NumM Go.Proofs.YtpejflgdehioaaaGreatDoor.LexW Go.Proofs.YtpejflgdehioaaaGreatDoor.LexM Go.Proofs.YtpejflgdehioaaaGreatDoor.ExM Go.Proofs.YtpejflgdehioaaaGreatDoor.ExW Go.Proofs.YtpejflgdehioaaaGreatDoor.ItM
open Go.Proofs.YtpejflgdehioaaaGreatDoor.ClM (Fld)
def tFlt (w : World) (e : Ending) (w' : World) : Prop := ∃ v, e = .returned v ∧ ClA w'.heap.size w' v fl2 ∧ Below w.heap.size w w'
set_option maxRecDepth 100000 in
set_option maxHeartbeats 8000000 in
theorem flat_any (w : World) : Calls Tryz.prog 35 #[] w (tFlt w) := by
  have B2 := Blk.new (w.alloc (.cells #[.string ⟨#[112]⟩, .string ⟨#[]⟩, .slice (some ⟨w.heap.size + 1, 0, none⟩) 2 2, .slice none 0 0] 34)) [.string ⟨#[97]⟩, .int .i64 2, .int .i64 0, .int .i64 1, .int .i64 0, .string ⟨#[100]⟩, .int .i64 3, .int .i64 2, .int .i64 1, .int .i64 0] 77; have hb := (ba w (.cells #[.string ⟨#[112]⟩, .string ⟨#[]⟩, .slice (some ⟨w.heap.size + 1, 0, none⟩) 2 2, .slice none 0 0] 34)).then_ (ba _ (.cells #[.string ⟨#[97]⟩, .int .i64 2, .int .i64 0, .int .i64 1, .int .i64 0, .string ⟨#[100]⟩, .int .i64 3, .int .i64 2, .int .i64 1, .int .i64 0] 77)); rw [World.size_alloc] at B2; have B1 := (Blk.new w [.string ⟨#[112]⟩, .string ⟨#[]⟩, .slice (some ⟨w.heap.size + 1, 0, none⟩) 2 2, .slice none 0 0] 34).stay (ba _ (.cells #[.string ⟨#[97]⟩, .int .i64 2, .int .i64 0, .int .i64 1, .int .i64 0, .string ⟨#[100]⟩, .int .i64 3, .int .i64 2, .int .i64 1, .int .i64 0] 77)); simp only [List.toArray] at B1; have p0 := B1.c 0 _ rfl; have p1 := B1.c 1 _ rfl; have p2 := B1.c 2 _ rfl; have p3 := B1.c 3 _ rfl; have H2 := Lib.hid B2; have HB := Lib.hid hb; clear B1 B2 hb
  go_enter Tryz.func35, Tryz.ntmps35
  go_wp2; refine bodyPost_ret (v := .agg #[.string ⟨#[112]⟩, .string ⟨#[]⟩, .slice (some ⟨w.heap.size + 1, 0, none⟩) 2 2, .slice none 0 0]) (by simp [results, Tryz.results35, go_sem, p0, p1, p2, p3]) rfl ?_; have hB := H2.out; have hlt := hB.lt; simp only [List.toArray] at hB hlt; refine ⟨_, rfl, ⟨_, _, _, none, 0, 0, rfl, some ⟨w.heap.size + 1, 0, none⟩, 2, rfl, by decide, by decide, ?_, fun _ => ⟨w.heap.size + 1, 0, rfl, hlt, fun i f hi => ?_⟩⟩, HB.out⟩
  · intro f hf; simp [fl2] at hf; rcases hf with rfl | rfl <;> decide
  · rcases i with _ | _ | i
    · obtain rfl : (⟨⟨#[97]⟩, 2, 0, 1, 0⟩ : Fld) = f := (by simpa [fl2] using hi); exact ⟨hB.c 0 _ rfl, hB.c 1 _ rfl, hB.c 2 _ rfl, hB.c 3 _ rfl, hB.c 4 _ rfl⟩
    · obtain rfl : (⟨⟨#[100]⟩, 3, 2, 1, 0⟩ : Fld) = f := (by simpa [fl2] using hi); exact ⟨hB.c 5 _ rfl, hB.c 6 _ rfl, hB.c 7 _ rfl, hB.c 8 _ rfl, hB.c 9 _ rfl⟩
    · simp [fl2] at hi
theorem one_argN {T : Nat → Prop} {W : World} {g : Nat} {op : Int} {s : ByteArray} {c : Ex} {p5 : Option Addr} {c5 : Nat} (hs : s.size ≤ 140737488351232) (hT : T g)
    (hB : Blk W g [.int .i64 c.op, .int .i64 c.n, .string c.nm, .slice p5 c.args.length c5]) (h1 : ExS T W (xv c.op c.n c.nm (.slice p5 c.args.length c5)) c) : ExS T W (xv op 0 s (.slice (some ⟨g, 0, none⟩) 1 1)) (.mk op 0 s [c]) := by
  refine ExS.mk (ks := [c]) (fun _ => p5) (fun _ => c5) hs (by simp) (by simp) (fun _ => ⟨g, 0, rfl, hT, fun i a ha => ?_⟩) (fun i a ha => ?_)
  · rcases i with _ | i
    · obtain rfl : c = a := (by simpa using ha); exact ⟨hB.c 0 _ rfl, hB.c 1 _ rfl, hB.c 2 _ rfl, hB.c 3 _ rfl⟩
    · simp at ha
  · rcases i with _ | i
    · obtain rfl : c = a := (by simpa using ha); exact h1
    · simp at ha
theorem one_it {N g : Nat} {W : World} {x : It} {v4 v7 v8 v9 v10 v11 : Value} (hg : g < N) (hB : Blk W g [.int .i64 x.kd, .int .i64 x.e.op, .int .i64 x.e.n, .string x.e.nm, v4, .string x.nm, .string x.ix, v7, v8, v9, v10, v11]) (hv : IV N W v4 v7 v8 v9 v10 v11 x) : ItsA N W (.slice (some ⟨g, 0, none⟩) 1 1) [x] := by
  refine RowI.its (l := [x]) (V := fun _ r => match r with | 4 => v4 | 7 => v7 | 8 => v8 | 9 => v9 | 10 => v10 | _ => v11) ⟨by simp, by simp, fun _ => ⟨g, 0, rfl, hg, fun i y hy => ?_⟩, fun i y hy => ?_⟩
  · rcases i with _ | i
    · obtain rfl : x = y := (by simpa using hy); exact ⟨hB.c 0 _ rfl, hB.c 1 _ rfl, hB.c 2 _ rfl, hB.c 3 _ rfl, hB.c 4 _ rfl, hB.c 5 _ rfl, hB.c 6 _ rfl, hB.c 7 _ rfl, hB.c 8 _ rfl, hB.c 9 _ rfl, hB.c 10 _ rfl, hB.c 11 _ rfl⟩
    · simp at hy
  · rcases i with _ | i
    · obtain rfl : x = y := (by simpa using hy); exact hv
    · simp at hy
set_option maxRecDepth 100000 in
set_option maxHeartbeats 8000000 in
theorem awake_any (w : World) (ht : TabI w) : Calls Tryz.prog 11 #[] w (tBool true w) := by
  have FL : Hid (∀ W, Calls Tryz.prog 35 #[] W (tFlt W)) := Lib.hid flat_any; obtain ⟨W1, hW1⟩ : ∃ W, w.alloc (.cells #[.int .i64 2, .int .i64 0, .string ⟨#[105]⟩, .slice none 0 0] 43) = W := ⟨_, rfl⟩; have hs1 : W1.heap.size = w.heap.size + 1 := (by rw [← hW1, World.size_alloc]); have b1 : Blk W1 w.heap.size [.int .i64 2, .int .i64 0, .string ⟨#[105]⟩, .slice none 0 0] := (by rw [← hW1]; exact Blk.new ..); have l1 : Below w.heap.size w W1 := (by rw [← hW1]; exact ba ..); obtain ⟨W2, hW2⟩ : ∃ W, W1.alloc (.cells #[.int .i64 3, .int .i64 0, .string ⟨#[100]⟩, .slice (some ⟨w.heap.size, 0, none⟩) 1 1, .int .i64 1, .int .i64 3, .string ⟨#[]⟩, .slice none 0 0] 43) = W := ⟨_, rfl⟩; have hs2 : W2.heap.size = w.heap.size + 1 + 1 := (by rw [← hW2, World.size_alloc, hs1]); have b2 : Blk W2 (w.heap.size + 1) [.int .i64 3, .int .i64 0, .string ⟨#[100]⟩, .slice (some ⟨w.heap.size, 0, none⟩) 1 1, .int .i64 1, .int .i64 3, .string ⟨#[]⟩, .slice none 0 0] := (by rw [← hW2, ← hs1]; exact Blk.new ..); have l2 : Below W1.heap.size W1 W2 := (by rw [← hW2]; exact ba ..); obtain ⟨W3, hW3⟩ : ∃ W, W2.alloc (.cells #[.int .i64 17, .int .i64 0, .string ⟨#[]⟩, .slice (some ⟨w.heap.size + 1, 0, none⟩) 2 2] 43) = W := ⟨_, rfl⟩; have hs3 : W3.heap.size = w.heap.size + 1 + 1 + 1 := (by rw [← hW3, World.size_alloc, hs2]); have b3 : Blk W3 (w.heap.size + 1 + 1) [.int .i64 17, .int .i64 0, .string ⟨#[]⟩, .slice (some ⟨w.heap.size + 1, 0, none⟩) 2 2] := (by rw [← hW3, ← hs2]; exact Blk.new ..); have l3 : Below W2.heap.size W2 W3 := (by rw [← hW3]; exact ba ..); obtain ⟨W4, hW4⟩ : ∃ W, W3.alloc (.cells #[.int .i64 1, .int .i64 17, .int .i64 0, .string ⟨#[]⟩, .slice (some ⟨w.heap.size + 1, 0, none⟩) 2 2, .string ⟨#[]⟩, .string ⟨#[]⟩, .slice none 0 0, .slice none 0 0, .slice none 0 0, .slice none 0 0, .slice none 0 0] 55) = W := ⟨_, rfl⟩; have hs4 : W4.heap.size = w.heap.size + 1 + 1 + 1 + 1 := (by rw [← hW4, World.size_alloc, hs3]); have b4 : Blk W4 (w.heap.size + 1 + 1 + 1) [.int .i64 1, .int .i64 17, .int .i64 0, .string ⟨#[]⟩, .slice (some ⟨w.heap.size + 1, 0, none⟩) 2 2, .string ⟨#[]⟩, .string ⟨#[]⟩, .slice none 0 0, .slice none 0 0, .slice none 0 0, .slice none 0 0, .slice none 0 0] := (by rw [← hW4, ← hs3]; exact Blk.new ..); have l4 : Below W3.heap.size W3 W4 := (by rw [← hW4]; exact ba ..); obtain ⟨W5, hW5⟩ : ∃ W, W4.alloc (.cells #[.int .i64 5, .int .i64 0, .int .i64 0, .string ⟨#[]⟩, .slice none 0 0, .string ⟨#[100]⟩, .string ⟨#[105]⟩, .slice none 0 0, .slice (some ⟨w.heap.size + 1 + 1 + 1, 0, none⟩) 1 1, .slice none 0 0, .slice none 0 0, .slice none 0 0] 55) = W := ⟨_, rfl⟩; have hs5 : W5.heap.size = w.heap.size + 1 + 1 + 1 + 1 + 1 := (by rw [← hW5, World.size_alloc, hs4]); have b5 : Blk W5 (w.heap.size + 1 + 1 + 1 + 1) [.int .i64 5, .int .i64 0, .int .i64 0, .string ⟨#[]⟩, .slice none 0 0, .string ⟨#[100]⟩, .string ⟨#[105]⟩, .slice none 0 0, .slice (some ⟨w.heap.size + 1 + 1 + 1, 0, none⟩) 1 1, .slice none 0 0, .slice none 0 0, .slice none 0 0] := (by rw [← hW5, ← hs4]; exact Blk.new ..); have l5 : Below W4.heap.size W4 W5 := (by rw [← hW5]; exact ba ..); have a1 := (((b1.stay l2).stay (l3)).stay l4 |>.stay l5); have a2 := ((b2.stay l3).stay l4).stay l5; have a4 := b4.stay l5; have HL : Hid (Below w.heap.size w W5) := Lib.hid ((((l1.then_ l2).then_ l3).then_ l4).then_ l5); have x1 : ExS (fun b => b < W5.heap.size) W5 (xv 3 0 ⟨#[100]⟩ (.slice (some ⟨w.heap.size, 0, none⟩) 1 1)) eElem := one_argN (c := eIdx) (by decide) a1.lt a1 (ExS.leaf (by decide)); have x2 : ExS (fun b => b < W5.heap.size) W5 (xv 17 0 ⟨#[]⟩ (.slice (some ⟨w.heap.size + 1, 0, none⟩) 2 2)) eTop := two_args (c := eElem) (e := .mk 1 3 ⟨#[]⟩ []) a2.lt a2 x1 (ExS.leaf (by decide)); have i1 : ItsA W5.heap.size W5 (.slice (some ⟨w.heap.size + 1 + 1 + 1, 0, none⟩) 1 1) inL := one_it a4.lt a4 ⟨by decide, by decide, x2.toAt fun _ h => h, WtA.nil _ _ _ _, ItsA.nil _ _ _ _, ItsA.nil _ _ _ _, StA.nil _ _ _ _, StA.nil _ _ _ _⟩; have z1 : ExS (fun b => b < W5.heap.size) W5 (xv 0 0 ⟨#[]⟩ (.slice none 0 0)) zE := ExS.leaf (by decide); have HX : Hid (ItsA W5.heap.size W5 (.slice (some ⟨w.heap.size + 1 + 1 + 1 + 1, 0, none⟩) 1 1) awL) := Lib.hid (one_it b5.lt b5 ⟨by decide, by decide, z1.toAt fun _ h => h, WtA.nil _ _ _ _, i1, ItsA.nil _ _ _ _, StA.nil _ _ _ _, StA.nil _ _ _ _⟩); have HT := Lib.hid ht; have hsz : iszs awL ≤ 10000 := (by rw [aw_size]; decide); have XE : Hid (∀ W cv, Below W5.heap.size W5 W → ClA W.heap.size W cv fl2 → Calls Tryz.prog 22 #[.slice (some ⟨w.heap.size + 1 + 1 + 1 + 1, 0, none⟩) 1 1, cv] W fun e w' => ∃ b off cap, e = .returned (.tuple #[.slice (some ⟨b, off, none⟩) 2 cap, .int .i64 0]) ∧ w'.cell? ⟨b, off + 12, none⟩ = some (.int .i64 1) ∧ 2 ≤ cap ∧ Below W.heap.size W w') := Lib.hid fun W cv hW hc => by
    refine ((itemExpand_any fl2 aw_S (by decide) awL _ cv W ((HX.out.under hW).wide hW.size) hc hsz aw_rs aw_sm (HT.out.later (HL.out.then_ hW))).mono fun e w' ⟨v, he, hv, hb⟩ => ?_); rw [aw_exp] at he; have hm := aw_exp1; have hl : (expS fl2 awL).1.length = 2 := (by have := congrArg List.length hm; simpa using this); obtain ⟨p, cap, V, rfl, hr⟩ := hv.form; obtain ⟨b, off, rfl, hbn, hcell⟩ := hr.hp (by rw [hl]; decide); obtain ⟨y, hy⟩ : ∃ y, (expS fl2 awL).1[1]? = some y := ⟨_, List.getElem?_eq_getElem (by rw [hl]; decide)⟩; have hk : y.kd = 1 := by
      have := congrArg (fun l : List Int => l[1]?) hm; simp only [List.getElem?_map, hy, Option.map_some] at this
      simpa using this
    have c0 := (hcell 1 y hy).c0; rw [hk] at c0; refine ⟨b, off, cap, ?_, c0, ?_, hb⟩
    · rw [he, hl]
    · have := hr.hc; rw [hl] at this; exact this
  have SE : Hid (∀ W cv, Below w.heap.size w W → ClA W.heap.size W cv fl2 → Calls Tryz.prog 26 #[.agg #[.int .i64 24, .int .i64 0, .string ⟨#[100]⟩, .slice none 0 0], cv] W fun e w' => ∃ n s p k c, e = .returned (.tuple #[.agg #[.int .i64 7, .int .i64 n, .string s, .slice p k c], .int .i64 0]) ∧ Below W.heap.size W w') := Lib.hid fun W cv hW hc => by
    have hx : ExS (fun b => b < W.heap.size) W (xv 24 0 ⟨#[100]⟩ (.slice none 0 0)) eSum := ExS.leaf (by decide); refine ((itemScalar_any fl2 aw_S (by decide) eSum _ cv W (hx.toAt fun _ h => h) hc (by rw [aw_sz]; decide) (HT.out.later hW)).mono fun e w' ⟨v, he, hv, hb⟩ => ?_); rw [aw_sca] at he; obtain ⟨p, cap, hvv, _, _⟩ := hv.form; rw [aw_sca1] at hvv; exact ⟨_, _, _, _, _, by rw [he, hvv], hb⟩
  have KE : Hid (∀ W cv, Below W5.heap.size W5 W → ClA W.heap.size W cv fl2 → Calls Tryz.prog 20 #[.slice (some ⟨w.heap.size + 1 + 1 + 1 + 1, 0, none⟩) 1 1, cv] W fun e w' => e = .returned (.int .i64 0) ∧ Below W.heap.size W w') := Lib.hid fun W cv hW hc => by
    have := itemCheck_any awL fl2 (fun f hf => ⟨(aw_S f hf).1, by have := (aw_S f hf).2; omega⟩) (by decide) _ cv W ((HX.out.under hW).wide hW.size) hc hsz aw_rs (HT.out.later (HL.out.then_ hW)); rw [aw_check] at this; exact this
  have ZE : Hid (∀ W, Below W5.heap.size W5 W → Calls Tryz.prog 12 #[.slice (some ⟨w.heap.size + 1 + 1 + 1 + 1, 0, none⟩) 1 1] W fun e w' => e = .returned (.int .i64 2) ∧ Below W.heap.size W w') := Lib.hid fun W hW => by
    have := itemSize_any awL _ W ((HX.out.under hW).wide hW.size) hsz; rw [aw_size] at this; exact this
  have d0 := b3.c 0 _ rfl; have d1 := b3.c 1 _ rfl; have d2 := b3.c 2 _ rfl; have d3 := b3.c 3 _ rfl; have HBX : Hid (Below W5.heap.size W5 W5) := Lib.hid (Below.refl _ _); have HBY : Hid (Below W5.heap.size W5 W5) := Lib.hid (Below.refl _ _); have HBZ : Hid (Below W5.heap.size W5 W5) := Lib.hid (Below.refl _ _); clear b1 b2 b3 b4 b5 l1 l2 l3 l4 l5 a1 a2 a4 x1 x2 i1 z1 HX ht hsz HT
  go_enter Tryz.func11, Tryz.ntmps11
  go_wp2_with (first
    | (go_at_call 35; ((with_reducible refine (FL.out _).mono ?_); rintro e wA ⟨cv, rfl, hcA, hbA⟩; have HCA := Lib.hid hcA; have HBX := Lib.hid (HBX.out.then_ hbA); have HBY := Lib.hid (HBY.out.then_ hbA); have HBZ := Lib.hid (HBZ.out.then_ hbA); clear hcA hbA))
    | (go_at_call 22; ((with_reducible refine (XE.out _ _ HBX.out HCA.out).mono ?_); rintro e wB ⟨b, off, cap, rfl, hc3, hcap, hb⟩; have HC3 := Lib.hid hc3; have HBX := Lib.hid (HBX.out.then_ hb); have HBZ := Lib.hid (HBZ.out.then_ hb); have HBY : Hid (Below wB.heap.size wB wB) := Lib.hid (Below.refl _ _); clear hb hc3))
    | (go_at_call 26; ((with_reducible refine (SE.out _ _ (HL.out.then_ HBX.out) HCA.out).mono ?_); rintro e wD ⟨n5, s5, p5, k5, c5, rfl, hb⟩; have HBX := Lib.hid ((HBX.out.then_ hb).then_ (ba wD (.cells #[.int .i64 7, .int .i64 n5, .string s5, .slice p5 k5 c5] 43))); have HBY := Lib.hid ((HBY.out.then_ hb).then_ (ba wD (.cells #[.int .i64 7, .int .i64 n5, .string s5, .slice p5 k5 c5] 43))); have HE5 := Lib.hid (Blk.new wD [.int .i64 7, .int .i64 n5, .string s5, .slice p5 k5 c5] 43); have HBZ : Hid (Below (wD.alloc (.cells #[.int .i64 7, .int .i64 n5, .string s5, .slice p5 k5 c5] 43)).heap.size (wD.alloc (.cells #[.int .i64 7, .int .i64 n5, .string s5, .slice p5 k5 c5] 43)) (wD.alloc (.cells #[.int .i64 7, .int .i64 n5, .string s5, .slice p5 k5 c5] 43))) := Lib.hid (Below.refl _ _); clear hb))
    | (go_at_call 20; ((with_reducible refine (KE.out _ _ HBX.out HCA.out).mono ?_); rintro e wG ⟨rfl, hb⟩; have HBX := Lib.hid (HBX.out.then_ hb); have HBY := Lib.hid (HBY.out.then_ hb); have HBZ := Lib.hid (HBZ.out.then_ hb); have g3 := (HBY.out.cell (World.block_lt_of_cell? _ _ HC3.out)).trans HC3.out; have g5 := (HE5.out.stay HBZ.out).c 0 _ rfl; clear hb))
    | (go_at_call 12; ((with_reducible refine (ZE.out _ HBX.out).mono ?_); rintro e wH ⟨rfl, hb⟩; have HBX := Lib.hid (HBX.out.then_ hb); clear hb)))
  go_ret; exact ⟨rfl, HL.out.then_ HBX.out⟩
end Go.Proofs.YtpejflgdehioaaaGreatDoor.ItW
namespace Go.Proofs.YtpejflgdehioaaaGreatDoor.ItW
open Go Go.RowKit Go.Proofs.YtpejflgdehioaaaGreatDoor.NumM Go.Proofs.YtpejflgdehioaaaGreatDoor.LexW Go.Proofs.YtpejflgdehioaaaGreatDoor.LexM Go.Proofs.YtpejflgdehioaaaGreatDoor.ExM Go.Proofs.YtpejflgdehioaaaGreatDoor.ExW Go.Proofs.YtpejflgdehioaaaGreatDoor.ItM
theorem pres_take {l k : Nat} {ks : List Ex} {a : Ex} (h : ks[k]? = some a) : pres l (ks.take (k + 1)) = pres l (ks.take k) ++ pre l a := by
  obtain ⟨hk, he⟩ := List.getElem?_eq_some_iff.1 h; rw [List.take_succ_eq_append_getElem hk, pres_append, he, pres_cons, pres_nil, List.append_nil]
end Go.Proofs.YtpejflgdehioaaaGreatDoor.ItW
namespace Go.Proofs.YtpejflgdehioaaaGreatDoor.ItW
open Go Go.RowKit Go.Proofs.YtpejflgdehioaaaGreatDoor.NumM Go.Proofs.YtpejflgdehioaaaGreatDoor.LexW Go.Proofs.YtpejflgdehioaaaGreatDoor.LexM Go.Proofs.YtpejflgdehioaaaGreatDoor.ExM Go.Proofs.YtpejflgdehioaaaGreatDoor.ExW Go.Proofs.YtpejflgdehioaaaGreatDoor.ItM
open Go.Proofs.YtpejflgdehioaaaGreatDoor.ClM (firstE firstE_zero)
theorem quietN {P : Program} {f : FuncId} {args : Array Value} {w : World} {n : Nat} {v : Value} (h : Calls P f args (w.drewN n) fun e w' => e = .returned v ∧ ∃ m, w' = (w.drewN n).drewN m) : Calls P f args (w.drewN n) fun e w'' => e = .returned v ∧ ∃ m, w'' = w.drewN m :=
  h.mono fun _ _ ⟨he, m, hm⟩ => ⟨he, n + m, by rw [hm, World.drewN_drewN]⟩
theorem dB {w : World} {n : Nat} : Below w.heap.size w (w.drewN n) := drewB (Below.refl _ _)
theorem reti {a b : Int} (h : a = b) : Ending.returned (.int .i64 a) = .returned (.int .i64 b) := by rw [h]
theorem kids_take {l : List It} {j : Nat} {a : It} (h : l[j]? = some a) : (l.length - (j + 1)) + iszs (l.take (j + 1)) = (l.length - j) + iszs (l.take j) + iszs a.it + iszs a.el := by
  have h1 := (List.getElem?_eq_some_iff.1 h).1; have h2 := iszs_take h; have h3 := isz_eq a; omega
set_option maxRecDepth 100000 in
set_option maxHeartbeats 8000000 in
theorem sizeR_any (l : List It) : ∀ (v : Value) (N : Nat) (w : World), ItsA N w v l → N ≤ w.heap.size → iszs l ≤ 10000 → Calls Tryz.prog 13 #[v] w fun e w' => e = .returned (.int .i64 (iszs l)) ∧ ∃ m, w' = w.drewN m := by
  induction l using its_ind with
  | h l ih =>
    intro v N w hx hN hsz; obtain ⟨p, cap, V, rfl, hr⟩ := hx.form; have hl := hr.hl; have HR := Lib.hid hr; have HIH := Lib.hid ih; have hlen := len_iszs l; obtain ⟨K, hK⟩ : ∃ K, l.length = K := ⟨_, rfl⟩; have HK := Lib.hid hK; rw [hK] at hl hlen ⊢; have HT0 : Hid ((K - 0) + iszs (l.take 0) = K) := Lib.hid (by rw [List.take_zero, iszs_nil]; omega); clear hx hr ih hK
    go_enter Tryz.func13, Tryz.ntmps13
    go_wp2; go_loopw [3, 4] (fun s i wr => ∃ (j t : Nat), j ≤ K ∧ i = .int .i64 j ∧ s = .int .i64 t ∧ t ≤ 20000 ∧ Hid (t = (K - j) + iszs (l.take j)) ∧ Hid (∃ m, wr = w.drewN m)) (fun _ i _ => K - (intOf i).toNat)
    case atStart => exact ⟨0, K, Nat.zero_le _, rfl, rfl, by omega, Lib.hid HT0.out.symm, Lib.hid ⟨0, rfl⟩⟩
    case round =>
      obtain ⟨j, t, hj, rfl, rfl, ht, TW, DW⟩ := hrel; have hbw : Below w.heap.size w wr := by
        obtain ⟨m, hm⟩ := DW.out; rw [hm]; exact drewB (Below.refl _ _)
      by_cases hlt : j < K
      · obtain ⟨a, ha⟩ : ∃ a, l[j]? = some a := ⟨_, List.getElem?_eq_getElem (by rw [HK.out]; exact hlt)⟩; have hmem := List.mem_of_getElem? ha; have hr2 := HR.out.under (hbw.mono hN); obtain ⟨b, off, rfl, hb, hcell⟩ := hr2.hp (by rw [HK.out]; omega); have hva := hr2.hv j a ha; have hc := hcell j a ha; have g8 := hc.c8; have g9 := hc.c9; obtain ⟨p4, k4, p7, k7, p8, k8, p9, k9, p10, k10, p11, k11, e4, e7, e8, e9, e10, e11⟩ := hva.slices; have hi8 := hva.its; have hi9 := hva.els; rw [e8] at g8 hi8; rw [e9] at g9 hi9; have hkt := kids_take ha; rw [HK.out] at hkt; have hil := isz_mem hmem; have hie := isz_eq a; have hA : iszs a.it ≤ 10000 := (by omega); have hB : iszs a.el ≤ 10000 := (by omega); have VC8 : Hid (∀ W, Below wr.heap.size wr W → Calls Tryz.prog 13 #[.slice p8 a.it.length k8] W fun e w' => e = .returned (.int .i64 (iszs a.it)) ∧ ∃ m, w' = W.drewN m) := (Lib.hid fun W hW => (HIH.out a hmem).1 _ N W (hi8.under (hW.mono (Nat.le_trans hN hbw.size))) (Nat.le_trans (Nat.le_trans hN hbw.size) hW.size) hA); have VC9 : Hid (∀ W, Below wr.heap.size wr W → Calls Tryz.prog 13 #[.slice p9 a.el.length k9] W fun e w' => e = .returned (.int .i64 (iszs a.el)) ∧ ∃ m, w' = W.drewN m) := (Lib.hid fun W hW => (HIH.out a hmem).2 _ N W (hi9.under (hW.mono (Nat.le_trans hN hbw.size))) (Nat.le_trans (Nat.le_trans hN hbw.size) hW.size) hB); have TN : Hid (t + iszs a.it + iszs a.el = (K - (j + 1)) + iszs (l.take (j + 1))) := Lib.hid (by rw [hkt, TW.out]); have htl := iszs_take_le (j + 1) l; have htn : t + iszs a.it + iszs a.el ≤ 20000 := (by have := TN.out; omega); clear hcell hva hc hi8 hi9 hr2 e4 e7 e8 e9 e10 e11 ha hmem hkt hil hie htl; generalize iszs a.it = A at *
        generalize iszs a.el = B at *
        generalize a.it.length = KA at *
        generalize a.el.length = KB at *
        have hw1 : IntKind.i64.wrap ((t : Int) + (A : Int)) = (t : Int) + (A : Int) := IntWalk.i64_in _ (by omega); have hw2 : IntKind.i64.wrap ((t : Int) + (A : Int) + (B : Int)) = (t : Int) + (A : Int) + (B : Int) := IntWalk.i64_in _ (by omega); go_wp2; go_quiet ((go_at_call 13; first | with_reducible exact quietN (VC8.out _ dB) | with_reducible exact quietN (VC9.out _ dB)))
        go_wp2; go_roundw
        case rel => exact ⟨j + 1, t + A + B, by omega, by go_num, by go_num, htn, TN, Lib.hid (by obtain ⟨m, hm⟩ := DW.out; exact ⟨m + nq, by rw [hm, World.drewN_drewN]⟩)⟩
        case measure => simp [intOf]; omega
      · have hjK : j = K := (by omega); have TE : Hid ((t : Int) = (iszs l : Int)) := Lib.hid (by
          have := TW.out; rw [List.take_of_length_le (by rw [HK.out]; omega)] at this; omega)
        have R := DW; clear hjK; go_wp2; go_ret; exact ⟨reti TE.out, R.out⟩
def vlL (d : Nat) (l : List It) : Int := firstE ((wks d [] l).map fltP)
theorem flt_map (l : List It) : ∀ d B, (wks d B l).map fltP = (wks d [] l).map fltP := by
  induction l using its_rec with
  | h0 => intro d B; rw [wks_nil, wks_nil]
  | h1 x r h1 h2 h3 =>
    intro d B; rw [wks_cons, wks_cons, wk_eq, wk_eq]; simp only [List.map_append, List.map_cons]; rw [h1 (d + 1) (inn x.kd x.ix B), h1 (d + 1) (inn x.kd x.ix []), h2 (d + 1) B, h3 d B]; rfl
theorem vl_nil (d : Nat) : vlL d [] = 0 := by unfold vlL; rw [wks_nil]; rfl
theorem vl_cons (d : Nat) (a : It) (r : List It) : vlL d (a :: r) = if fltI d a = 0 then (if vlL (d + 1) a.it = 0 then (if vlL (d + 1) a.el = 0 then vlL d r else vlL (d + 1) a.el) else vlL (d + 1) a.it) else fltI d a := by
  unfold vlL; rw [wks_cons, wk_eq, List.map_append, List.map_cons, List.map_append, List.cons_append, firstE_cons, firstE_append, firstE_append, flt_map a.it (d + 1) (inn a.kd a.ix [])]; show (if fltI d a = 0 then _ else fltI d a) = _; by_cases h1 : fltI d a = 0
  · rw [if_pos h1, if_pos h1]; by_cases h2 : firstE ((wks (d + 1) [] a.it).map fltP) = 0
    · simp only [h2, if_true]
    · simp only [h2, if_false]
  · rw [if_neg h1, if_neg h1]
end Go.Proofs.YtpejflgdehioaaaGreatDoor.ItW
namespace Go.Proofs.YtpejflgdehioaaaGreatDoor.ExW
open Go Go.RowKit Go.Proofs.YtpejflgdehioaaaGreatDoor.NumM Go.Proofs.YtpejflgdehioaaaGreatDoor.LexW Go.Proofs.YtpejflgdehioaaaGreatDoor.LexM Go.Proofs.YtpejflgdehioaaaGreatDoor.ExM
def BoolsAt (w : World) (v : Value) (l : List Bool) : Prop :=
  ∃ p cap, v = .slice p l.length cap ∧ l.length ≤ 140737488351232 ∧ l.length ≤ cap ∧ (0 < l.length → ∃ b off, p = some ⟨b, off, none⟩ ∧ b < w.heap.size ∧ ∀ i x, l[i]? = some x → w.cell? ⟨b, off + i, none⟩ = some (.bool x))
theorem BoolsAt.later {w w' : World} {v : Value} {l : List Bool} (h : BoolsAt w v l) (hb : Below w.heap.size w w') : BoolsAt w' v l := by
  obtain ⟨p, cap, rfl, hl, hc, hx⟩ := h; refine ⟨p, cap, rfl, hl, hc, fun h0 => ?_⟩; obtain ⟨b, off, hp, hbs, hcell⟩ := hx h0; refine ⟨b, off, hp, Nat.lt_of_lt_of_le hbs hb.size, fun i t hi => ?_⟩; rw [hb.cell hbs]; exact hcell i t hi
theorem BoolsAt.nil (w : World) : BoolsAt w (.slice none 0 0) [] := ⟨none, 0, rfl, by simp, by simp, fun h => by simp at h⟩
end Go.Proofs.YtpejflgdehioaaaGreatDoor.ExW
namespace Go.Proofs.YtpejflgdehioaaaGreatDoor.ItW
open Go Go.RowKit Go.Shelf Go.«Sort» Go.Proofs.YtpejflgdehioaaaGreatDoor.NumM Go.Proofs.YtpejflgdehioaaaGreatDoor.LexW Go.Proofs.YtpejflgdehioaaaGreatDoor.LexM Go.Proofs.YtpejflgdehioaaaGreatDoor.ExM Go.Proofs.YtpejflgdehioaaaGreatDoor.ExW Go.Proofs.YtpejflgdehioaaaGreatDoor.ItM
open Go.Proofs.YtpejflgdehioaaaGreatDoor.ClM (Fld)
theorem fin_yes {w W : World} (hb : Below w.heap.size w W) : Ending.returned (.bool true) = .returned (.bool true) ∧ Below w.heap.size w W := ⟨rfl, hb⟩
end Go.Proofs.YtpejflgdehioaaaGreatDoor.ItW
namespace Go.Proofs.YtpejflgdehioaaaGreatDoor.ItM
open Go Go.Proofs.YtpejflgdehioaaaGreatDoor.WordM Go.Proofs.YtpejflgdehioaaaGreatDoor.LexM Go.Proofs.YtpejflgdehioaaaGreatDoor.ExM
open Go.Proofs.YtpejflgdehioaaaGreatDoor.ClM (Fld)
mutual
/-- The nodes that the result has at most. -/
def wt (fs : List Fld) : Ex → Nat
  | .mk o _ s ks => if o = 24 then 2 * (szI fs s).toNat - 1 else if o = 3 then (if (hdE ks).op = 1 then 1 else (szI fs s).toNat * (wts fs ks + 4) + 1) else wts fs ks + 1
def wts (fs : List Fld) : List Ex → Nat
  | [] => 0
  | a :: r => wt fs a + wts fs r
end
theorem GE.ok {fs : List Fld} {e : Ex} (h : GE fs e) : Ok e := by
  obtain ⟨l, h⟩ := h; exact (ok_at e l).2 fun x hx => (h x hx).1
def NA (e : Ex) : Prop := ∀ l, ∀ y ∈ pre l e, isAr y.op = false
def Dst (fs : List Fld) (j : Nat) : Prop := ∀ i k f g, i < j → k < i → fs[i]? = some f → fs[k]? = some g → g.nm.data.toList ≠ f.nm.data.toList
def Dif (fs : List Fld) (s : ByteArray) (k : Nat) : Prop := ∀ i g, i < k → fs[i]? = some g → g.nm.data.toList ≠ s.data.toList
theorem Dif.step {fs : List Fld} {s : ByteArray} {k : Nat} {g : Fld} (h : Dif fs s k) (hg : fs[k]? = some g) (hne : ¬ g.nm.data.toList = s.data.toList) : Dif fs s (k + 1) := fun i f hi hf => by
  by_cases e : i = k
  · subst e; rw [hg] at hf; cases hf; exact hne
  · exact h i f (by omega) hf
theorem Dst.step {fs : List Fld} {j : Nat} {y : Fld} (h : Dst fs j) (hy : fs[j]? = some y) (hd : Dif fs y.nm j) : Dst fs (j + 1) := fun i k f g hi hk hf hg => by
  by_cases e : i = j
  · subst e; rw [hy] at hf; cases hf; exact hd k g hk hg
  · exact h i k f g (by omega) hk hf hg
theorem bs_ext {a b : ByteArray} (h : a.data.toList = b.data.toList) : a = b := ClM.same_iff.1 (by unfold ClM.same; rw [h]; simp)
theorem ev_cst (env : Env) (k : Int) : ev env (cst k) = k := by unfold cst; rw [ev_mk]; rfl
theorem kn_leaf {env : Env} {o n : Int} {s : ByteArray} : kn env (.mk o n s []) = knwS env o s := by
  rw [kn_mk, kns_all]; rfl
theorem kn_cst (env : Env) (k : Int) : kn env (cst k) = true := by unfold cst; rw [kn_leaf]; rfl
end Go.Proofs.YtpejflgdehioaaaGreatDoor.ItM
namespace Go.Proofs.YtpejflgdehioaaaGreatDoor.ExM
open Go Go.Proofs.YtpejflgdehioaaaGreatDoor.WordM Go.Proofs.YtpejflgdehioaaaGreatDoor.LexM Go.Proofs.YtpejflgdehioaaaGreatDoor.LexW Go.Proofs.YtpejflgdehioaaaGreatDoor.ExW
theorem find_cons_ne {env : Env} {a s : ByteArray} {v : Int} (h : a.data.toList ≠ s.data.toList) : findS ((a, v) :: env) s = findS env s := by
  show (if a.data.toList = s.data.toList then some (v % 65536) else findS env s) = _; rw [if_neg h]
theorem find_cons_eq {env : Env} {a s : ByteArray} {v : Int} (h : a.data.toList = s.data.toList) : findS ((a, v) :: env) s = some (v % 65536) := by
  show (if a.data.toList = s.data.toList then some (v % 65536) else findS env s) = _; rw [if_pos h]
theorem elm_ne {a s : ByteArray} {i : Nat} (h : nmB a.data.toList = true) : a.data.toList ≠ (elmN s i).data.toList := fun e => by
  refine nm_no h ?_; rw [e]; show (91 : UInt8) ∈ s.data.toList ++ [91, UInt8.ofNat (48 + i), 93]; simp
theorem elS_cons {env : Env} {a s : ByteArray} {v i : Int} (h : nmB a.data.toList = true) : elS ((a, v) :: env) s i = elS env s i := by
  unfold elS fnd; split
  · rw [find_cons_ne (elm_ne h)]
  · rfl
theorem sumK_cons {env : Env} {a s : ByteArray} {v : Int} (h : nmB a.data.toList = true) (k : Nat) : sumK ((a, v) :: env) s k = sumK env s k := by
  induction k with
  | zero => rfl
  | succ k ih => unfold sumK; rw [ih, elS_cons h]
theorem valS_cons {env : Env} {a s : ByteArray} {v o n : Int} {l : List Int} (h : nmB a.data.toList = true) (hs : ¬ (isVr o = true ∧ s.data.toList = a.data.toList)) : valS ((a, v) :: env) o n s l = valS env o n s l ∧ knwS ((a, v) :: env) o s = knwS env o s := by
  unfold valS knwS hasN fnd; rw [sumK_cons h, elS_cons h, find_cons_ne (elm_ne h)]; by_cases h2 : o = 2
  · have : a.data.toList ≠ s.data.toList := (fun e => hs ⟨by unfold isVr; exact decide_eq_true h2, e.symm⟩); rw [find_cons_ne this]; exact ⟨rfl, rfl⟩
  · simp only [if_neg h2]; exact ⟨trivial, trivial⟩
theorem su_ev {env : Env} {a : ByteArray} {b : Ex} (h : nmB a.data.toList = true) (hb : Ok b) (hk : kn env b = true) (e : Ex) (he : Ok e) :
    ev env (su a b e) = ev ((a, ev env b) :: env) e ∧ kn env (su a b e) = kn ((a, ev env b) :: env) e := by
  induction e using Ex.ind with
  | h o n s ks ih =>
    rw [ok_mk] at he; rw [su_mk]; by_cases hc : isVr o = true ∧ s.data.toList = a.data.toList
    · rw [if_pos hc]; obtain rfl : o = 2 := of_decide_eq_true hc.1; have hl : ks.length = 0 := by
        have := flt_takes he.1; unfold takesS at this; rw [if_neg (by decide), decide_eq_true_eq, show arS 2 = 0 from rfl] at this; omega
      obtain rfl : ks = [] := List.length_eq_zero_iff.1 hl; have hr := ev_range env b hb; have hf := find_cons_eq (env := env) (v := ev env b) hc.2.symm; rw [ev_mk, kn_mk, kns, hk]; constructor
      · show _ = fnd _ s; unfold fnd; rw [hf, Option.getD_some]; omega
      · show true = (true && hasN _ s); unfold hasN; rw [hf]; rfl
    · rw [if_neg hc, ev_mk, kn_mk, ev_mk, kn_mk]; have e1 : evs env (ks.map (su a b)) = evs ((a, ev env b) :: env) ks := by
        rw [evs_map, evs_map, List.map_map]; exact List.map_congr_left fun x hx => (ih x hx (he.2 x hx)).1
      have e2 : kns env (ks.map (su a b)) = kns ((a, ev env b) :: env) ks := by
        rw [kns_all, kns_all, List.all_map]; rw [Bool.eq_iff_iff, List.all_eq_true, List.all_eq_true]; exact ⟨fun g x hx => by have := g x hx; rw [Function.comp, (ih x hx (he.2 x hx)).2] at this; exact this, fun g x hx => by rw [Function.comp, (ih x hx (he.2 x hx)).2]; exact g x hx⟩
      obtain ⟨g1, g2⟩ := valS_cons (env := env) (v := ev env b) (n := n) (l := evs ((a, ev env b) :: env) ks) h hc; rw [e1, e2, g1, g2]; exact ⟨rfl, rfl⟩
end Go.Proofs.YtpejflgdehioaaaGreatDoor.ExM
namespace Go.Proofs.YtpejflgdehioaaaGreatDoor.ItM
open Go Go.Proofs.YtpejflgdehioaaaGreatDoor.WordM Go.Proofs.YtpejflgdehioaaaGreatDoor.LexM Go.Proofs.YtpejflgdehioaaaGreatDoor.ExM
open Go.Proofs.YtpejflgdehioaaaGreatDoor.ClM (Fld firstE_zero)
def EqE (E1 E2 : Env) : Prop := ∀ s, findS E1 s = findS E2 s
theorem EqE.el {E1 E2 : Env} (h : EqE E1 E2) (a : ByteArray) (i : Int) : elS E1 a i = elS E2 a i := by unfold elS fnd; rw [h]
theorem EqE.sum {E1 E2 : Env} (h : EqE E1 E2) (a : ByteArray) : ∀ k, sumK E1 a k = sumK E2 a k
  | 0 => rfl
  | k + 1 => by unfold sumK; rw [h.sum a k, h.el]
theorem EqE.ev {E1 E2 : Env} (h : EqE E1 E2) (e : Ex) : ExM.ev E1 e = ExM.ev E2 e ∧ kn E1 e = kn E2 e := by
  induction e using Ex.ind with
  | h o n s ks ih =>
    rw [ev_mk, ev_mk, kn_mk, kn_mk]; have e1 : evs E1 ks = evs E2 ks := by
      rw [evs_map, evs_map]; exact List.map_congr_left fun a ha => (ih a ha).1
    have e2 : kns E1 ks = kns E2 ks := by
      rw [kns_all, kns_all, Bool.eq_iff_iff, List.all_eq_true, List.all_eq_true]; exact ⟨fun g x hx => by rw [← (ih x hx).2]; exact g x hx, fun g x hx => by rw [(ih x hx).2]; exact g x hx⟩
    rw [e1, e2]; have e3 : ∀ l, valS E1 o n s l = valS E2 o n s l := (fun l => by unfold valS fnd; rw [h, h.el, h.sum]); have e4 : knwS E1 o s = knwS E2 o s := (by unfold knwS hasN; rw [h, h]); rw [e3, e4]; exact ⟨rfl, rfl⟩
theorem EqE.swap {bs env : Env} {a : ByteArray} {v : Int} (h : a ∉ bs.map Prod.fst) : EqE (bs ++ (a, v) :: env) ((a, v) :: (bs ++ env)) := fun s => by
  induction bs with
  | nil => rfl
  | cons p r ih =>
    obtain ⟨b, u⟩ := p; simp only [List.map_cons, List.mem_cons, not_or] at h; have ih := ih h.2; show (if b.data.toList = s.data.toList then some (u % 65536) else findS (r ++ (a, v) :: env) s) = (if a.data.toList = s.data.toList then some (v % 65536) else (if b.data.toList = s.data.toList then some (u % 65536) else findS (r ++ env) s)); rw [ih]; show (if b.data.toList = s.data.toList then some (u % 65536) else (if a.data.toList = s.data.toList then some (v % 65536) else findS (r ++ env) s)) = _; by_cases h1 : b.data.toList = s.data.toList
    · by_cases h2 : a.data.toList = s.data.toList
      · exact absurd (bs_ext (h2.trans h1.symm)) h.1
      · rw [if_pos h1, if_neg h2, if_pos h1]
    · rw [if_neg h1, if_neg h1]
def SG (σ : Ex → Ex) (bs : Env) : Prop := ∀ e, Ok e → Ok (σ e) ∧ ∀ env, ev env (σ e) = ev (bs ++ env) e ∧ kn env (σ e) = kn (bs ++ env) e
theorem SG.id : SG (fun a => a) [] := fun _ h => ⟨h, fun _ => ⟨rfl, rfl⟩⟩
theorem ok_su {a : ByteArray} {b : Ex} (hb : Ok b) (e : Ex) (he : Ok e) : Ok (su a b e) := by
  induction e using Ex.ind with
  | h o n s ks ih =>
    rw [ok_mk] at he; rw [su_mk]; split
    · exact hb
    · rw [ok_mk]; refine ⟨by rw [List.length_map]; exact he.1, fun x hx => ?_⟩; obtain ⟨y, hy, rfl⟩ := List.mem_map.1 hx; exact ih y hy (he.2 y hy)
theorem ok_cst {k : Nat} (hk : k ≤ 65535) : Ok (cst (k : Int)) := by
  unfold cst; rw [ok_mk]; refine ⟨?_, fun _ h => by simp at h⟩; have h1 : decide ((k : Int) < 0) = false := decide_eq_false (by omega); have h2 : decide ((65535 : Int) < (k : Int)) = false := decide_eq_false (by omega); unfold fltS badA badN; simp only [List.length_nil, h1, show greatS 1 = 65535 from rfl, h2]; rfl
theorem SG.step {σ : Ex → Ex} {bs : Env} (h : SG σ bs) {ix : ByteArray} {k : Nat} (hk : k ≤ 65535) (hn : nmB ix.data.toList = true) (hx : ix ∉ bs.map Prod.fst) : SG (fun a => su ix (cst (k : Int)) (σ a)) ((ix, (k : Int)) :: bs) := fun e he => by
  obtain ⟨h1, h2⟩ := h e he; refine ⟨ok_su (ok_cst hk) _ h1, fun env => ?_⟩; obtain ⟨g1, g2⟩ := su_ev (env := env) hn (ok_cst hk) (kn_cst env k) (σ e) h1; rw [ev_cst] at g1 g2; obtain ⟨q1, q2⟩ := h2 ((ix, (k : Int)) :: env); obtain ⟨r1, r2⟩ := (EqE.swap (env := env) (v := (k : Int)) hx).ev e; exact ⟨g1.trans (q1.trans r1), g2.trans (q2.trans r2)⟩
theorem exp_parts {fs : List Fld} {l out : List It} (h : expS fs l = (out, 0)) : (∀ p ∈ wks 0 [] l, fltP p = 0 ∧ chkP fs p = 0) ∧ out = exL fs none (fun a => a) l ∧ (∀ x ∈ out, largeB x = false) ∧ validI l = 0 ∧ cntL fs l ≤ 400 := by
  unfold expS at h; split at h
  · rename_i hc; have hv : validI l = 0 ∧ firstC fs l = 0 := by
      unfold checkI at hc; split at hc
      · exact ⟨by assumption, hc⟩
      · rename_i hn; exact absurd hc hn
    have hf : firstV l = 0 := by
      have := hv.1; unfold validI at this; split at this
      · cases this
      · exact this
    split at h
    · cases h
    · rename_i h400; split at h
      · cases h
      · rename_i hl; have e : exL fs none (fun a => a) l = out := congrArg Prod.fst h; refine ⟨fun p hp => ⟨firstE_zero.1 hf _ (List.mem_map_of_mem hp), firstE_zero.1 hv.2 _ (List.mem_map_of_mem hp)⟩, e.symm, fun x hx => ?_, hv.1, by omega⟩; rw [e] at hl; cases hb : largeB x with
        | false => rfl
        | true => exact absurd (List.any_eq_true.2 ⟨x, hx, hb⟩) hl
  · rename_i hn; exact absurd (congrArg Prod.snd h) hn
theorem large_vld {x : It} (h : largeB x = false) (hk : x.kd = 1 ∨ x.kd = 2) : vld x.e = 0 := by
  unfold largeB outK at h; rw [decide_eq_false (show ¬ x.kd = 3 by omega), decide_eq_false (show ¬ x.kd = 6 by omega)] at h; by_cases hv : vld x.e = 0
  · exact hv
  · rw [decide_eq_false hv] at h; cases h
theorem fw_wks (l : List It) : ∀ d B, FwL l → ∀ p ∈ wks d B l, okB p.x = true := by
  induction l using its_rec with
  | h0 => intro d B _ p hp; rw [wks_nil] at hp; cases hp
  | h1 x r h1 h2 h3 =>
    intro d B h p hp; rw [fwL_cons, fwI_eq] at h; rw [wks_cons, wk_eq] at hp; rcases List.mem_append.1 hp with hp | hp
    · rcases List.mem_cons.1 hp with rfl | hp
      · exact h.1.1
      · rcases List.mem_append.1 hp with hp | hp
        · exact h1 _ _ h.1.2.1 p hp
        · exact h2 _ _ h.1.2.2 p hp
    · exact h3 _ _ h.2 p hp
theorem fw_sm {l : List It} (h : FwL l) : ItW.SmE l := fun x hx => by
  obtain ⟨p, hp, rfl⟩ := List.mem_map.1 hx; have := (okB_iff.1 (fw_wks l 0 [] h p hp)).1; omega
def Nk (fs : List Fld) (B : List ByteArray) (o : Int) (s : ByteArray) : Int := if isAr o = true then arrE fs s else if (isVr o && !memB B s) = true then varE fs s else 0
mutual
/-- No node has an error for the fields. -/
def nob (fs : List Fld) (B : List ByteArray) : Ex → Bool
  | .mk o _ s ks => nobs fs B ks && decide (Nk fs B o s = 0)
def nobs (fs : List Fld) (B : List ByteArray) : List Ex → Bool
  | [] => true
  | a :: r => nob fs B a && nobs fs B r
end
theorem nobs_all (fs : List Fld) (B : List ByteArray) (ks : List Ex) : nobs fs B ks = ks.all (nob fs B) := by
  induction ks with
  | nil => rw [nobs]; rfl
  | cons a r ih => rw [nobs, ih]; rfl
theorem nob_mk (fs : List Fld) (B : List ByteArray) (o n : Int) (s : ByteArray) (ks : List Ex) : nob fs B (.mk o n s ks) = (ks.all (nob fs B) && decide (Nk fs B o s = 0)) := by rw [nob, nobs_all]
theorem nob_iff (fs : List Fld) (B : List ByteArray) (e : Ex) : ∀ l, nob fs B e = true ↔ ∀ x ∈ pre l e, nodE fs B x = 0 := by
  induction e using Ex.ind with
  | h o n s ks ih =>
    intro l; rw [nob_mk, Bool.and_eq_true, List.all_eq_true, decide_eq_true_eq, pre_mk]; constructor
    · rintro ⟨h1, h2⟩ x hx; rcases List.mem_cons.1 hx with rfl | hx
      · exact h2
      · obtain ⟨a, ha, hxa⟩ := mem_pres.1 hx; exact (ih a ha _).1 (h1 a ha) x hxa
    · intro h; exact ⟨fun a ha => (ih a ha (l + 1)).2 fun x hx => h x (List.mem_cons_of_mem _ (mem_pres.2 ⟨a, ha, hx⟩)), h _ List.mem_cons_self⟩
theorem nob_exE {fs : List Fld} {B : List ByteArray} {e : Ex} : nob fs B e = true ↔ exE fs B e = 0 := by
  rw [nob_iff fs B e 1]; unfold exE; rw [firstE_zero]; constructor
  · intro h y hy; obtain ⟨x, hx, rfl⟩ := List.mem_map.1 hy; exact h x hx
  · intro h x hx; exact h _ (List.mem_map_of_mem hx)
theorem nob_congr {fs : List Fld} {B C : List ByteArray} (h : ∀ s, memB B s = memB C s) (e : Ex) : nob fs B e = nob fs C e := by
  induction e using Ex.ind with
  | h o n s ks ih =>
    rw [nob_mk, nob_mk]; have e1 : ks.all (nob fs B) = ks.all (nob fs C) := by
      rw [Bool.eq_iff_iff, List.all_eq_true, List.all_eq_true]; exact ⟨fun g x hx => by rw [← ih x hx]; exact g x hx, fun g x hx => by rw [ih x hx]; exact g x hx⟩
    have e2 : Nk fs B o s = Nk fs C o s := (by unfold Nk; rw [h]); rw [e1, e2]
theorem memB_cons (a : ByteArray) (B : List ByteArray) (s : ByteArray) : memB (a :: B) s = (ClM.same a s || memB B s) := by unfold memB; rw [List.any_cons]
theorem memB_app (A B : List ByteArray) (s : ByteArray) : memB (A ++ B) s = (memB A s || memB B s) := by unfold memB; rw [List.any_append]
theorem nob_su {fs : List Fld} {a : ByteArray} {C : List ByteArray} {k : Int} (e : Ex) : nob fs (a :: C) e = true → nob fs C (su a (cst k) e) = true := by
  induction e using Ex.ind with
  | h o n s ks ih =>
    intro h; rw [nob_mk, Bool.and_eq_true, List.all_eq_true, decide_eq_true_eq] at h; rw [su_mk]; split
    · unfold cst; rw [nob_mk]; rfl
    · rename_i hn; rw [nob_mk, Bool.and_eq_true, List.all_eq_true, decide_eq_true_eq]; refine ⟨fun x hx => ?_, ?_⟩
      · obtain ⟨y, hy, rfl⟩ := List.mem_map.1 hx; exact ih y hy (h.1 y hy)
      · have h2 := h.2; unfold Nk at h2 ⊢; by_cases hv : isVr o = true
        · have hs : ClM.same a s = false := by
            cases hc : ClM.same a s with
            | false => rfl
            | true =>
              have := ClM.same_iff.1 hc; exact absurd ⟨hv, by rw [this]⟩ hn
          rw [memB_cons, hs, Bool.false_or] at h2; exact h2
        · have hv' : isVr o = false := (by simpa using hv); rw [hv', Bool.false_and] at h2 ⊢; exact h2
def PB (fs : List Fld) (σ : Ex → Ex) (B : List ByteArray) : Prop := ∀ C e, nob fs (B ++ C) e = true → nob fs C (σ e) = true
theorem PB.id (fs : List Fld) : PB fs (fun a => a) [] := fun _ _ h => h
theorem PB.step {fs : List Fld} {σ : Ex → Ex} {B : List ByteArray} (h : PB fs σ B) (a : ByteArray) (k : Int) : PB fs (fun e => su a (cst k) (σ e)) (a :: B) := fun C e he => by
  refine nob_su _ (h (a :: C) e ?_); rw [← he]; refine nob_congr (fun s => ?_) e; rw [memB_app, memB_cons, List.cons_append, memB_cons, memB_app]; cases ClM.same a s <;> cases memB B s <;> rfl
def OnK (fs : List Fld) (y : It) : Prop :=
  (((y.kd = 1 ∨ y.kd = 2) ∧ nob fs [] y.e = true ∧ y = hardI y.kd y.e) ∨ ((y.kd = 3 ∨ y.kd = 6) ∧ fltI 0 y = 0 ∧ chkI fs [] y = 0 ∧ y = outI y)) ∧ y.ws.length ≤ 20 ∧ y.bf.length ≤ 20 ∧ y.af.length ≤ 20
theorem nob_und {fs : List Fld} {q : Option Ex} (hq : ∀ c, q = some c → nob fs [] c = true) {e : Ex} (he : nob fs [] e = true) (o : Int) (ho : o = 19 ∨ o = 21) : nob fs [] (und q o e) = true := by
  cases q with
  | none => exact he
  | some c =>
    unfold und; rw [nob_mk]; simp only [List.all_cons, List.all_nil, Bool.and_true]; rw [hq c rfl, he]; rcases ho with rfl | rfl <;> rfl
theorem nob_not {fs : List Fld} {e : Ex} (he : nob fs [] e = true) : nob fs [] (notE e) = true := by
  unfold notE; rw [nob_mk]; simp only [List.all_cons, List.all_nil, Bool.and_true]; rw [he]; rfl
theorem exp_chk {fs : List Fld} (l : List It) : ∀ (q : Option Ex) (σ : Ex → Ex) (B : List ByteArray) (d : Nat), FwL l →
    (∀ p ∈ wks d B l, fltP p = 0 ∧ chkP fs p = 0) → (d = 0 → B = []) → PB fs σ B → (∀ c, q = some c → nob fs [] c = true) → ∀ y ∈ exL fs q σ l, OnK fs y := by
  induction l using its_rec with
  | h0 => intro q σ B d _ _ _ _ _ y hy; rw [exL_nil] at hy; cases hy
  | h1 x r h1 h2 h3 =>
    intro q σ B d hfw hp hd hσ hq y hy; rw [fwL_cons, fwI_eq] at hfw; rw [wks_cons, wk_eq] at hp; have hpx := hp _ (List.mem_append_left _ List.mem_cons_self); have hpi : ∀ p ∈ wks (d + 1) (inn x.kd x.ix B) x.it, fltP p = 0 ∧ chkP fs p = 0 := (fun p h => hp p (List.mem_append_left _ (List.mem_cons_of_mem _ (List.mem_append_left _ h)))); have hpe : ∀ p ∈ wks (d + 1) B x.el, fltP p = 0 ∧ chkP fs p = 0 := (fun p h => hp p (List.mem_append_left _ (List.mem_cons_of_mem _ (List.mem_append_right _ h)))); have hpr : ∀ p ∈ wks d B r, fltP p = 0 ∧ chkP fs p = 0 := (fun p h => hp p (List.mem_append_right _ h)); rw [exL_cons] at hy; rcases List.mem_append.1 hy with hy | hy
    · have hfl : fltI d x = 0 := hpx.1; have hck : chkI fs B x = 0 := hpx.2; have hok := okB_iff.1 hfw.1.1; clear h3 hp hpx hpr; have hσe : exE fs B x.e = 0 → nob fs [] (σ x.e) = true := (fun h => hσ [] x.e (by rw [List.append_nil]; exact nob_exE.2 h)); rw [exI_eq] at hy; have hfl0 := hfl; unfold fltI at hfl; have hck0 := hck; unfold chkI at hck; split at hfl
      · cases hfl
      · rename_i hkb; by_cases k4 : x.kd = 4
        · have hx : exE fs B x.e = 0 := by
            rw [if_neg (by omega), if_neg (by omega), if_neg (by omega)] at hck; exact hck
          have hin : inn x.kd x.ix B = B := (by unfold inn; rw [if_neg (by omega)]); rw [hin] at hpi; rw [if_pos k4] at hy; rcases List.mem_append.1 hy with hy | hy
          · exact h1 _ σ B (d + 1) hfw.1.2.1 hpi (fun h => by omega) hσ (fun c hc => by cases hc; exact nob_und hq (hσe hx) 19 (.inl rfl)) y hy
          · exact h2 _ σ B (d + 1) hfw.1.2.2 hpe (fun h => by omega) hσ (fun c hc => by cases hc; exact nob_und hq (nob_not (hσe hx)) 19 (.inl rfl)) y hy
        · rw [if_neg k4] at hy; by_cases k5 : x.kd = 5
          · have hin : inn x.kd x.ix B = x.ix :: B := (by unfold inn; rw [if_pos k5]); rw [hin] at hpi; rw [if_pos k5] at hy; obtain ⟨k, _, hy⟩ := List.mem_flatMap.1 hy; exact h1 q _ (x.ix :: B) (d + 1) hfw.1.2.1 hpi (fun h => by omega) (hσ.step x.ix k) hq y hy
          · rw [if_neg k5] at hy; by_cases k12 : x.kd = 1 ∨ x.kd = 2
            · have hx : exE fs B x.e = 0 := by
                rw [if_neg (by omega), if_neg (by omega), if_neg (by omega)] at hck; exact hck
              rw [if_pos k12] at hy; simp only [List.mem_cons, List.not_mem_nil, or_false] at hy; subst hy; exact ⟨.inl ⟨k12, nob_und hq (hσe hx) 21 (.inr rfl), rfl⟩, by show 0 ≤ 20; omega, by show 0 ≤ 20; omega, by show 0 ≤ 20; omega⟩
            · rw [if_neg k12] at hy; simp only [List.mem_cons, List.not_mem_nil, or_false] at hy; subst hy; have hkb' : (1 ≤ x.kd ∧ x.kd ≤ 6) ∧ freeB x = true ∧ ¬ 4 < d ∧ ¬ (0 < d ∧ outK x.kd = true) := by
                simp only [Bool.or_eq_true, not_or, Bool.not_eq_true', Bool.not_eq_false, kindB, Bool.and_eq_true, decide_eq_true_eq] at hkb; exact hkb
              have k36 : x.kd = 3 ∨ x.kd = 6 := (by omega); have hout : outK x.kd = true := by
                unfold outK; rcases k36 with h | h <;> rw [h] <;> rfl
              have hd0 : d = 0 := by
                have := hkb'.2.2.2; rw [hout] at this; have : ¬ 0 < d := (fun h => this ⟨h, rfl⟩); omega
              have hB := hd hd0; subst hd0; subst hB; refine ⟨.inr ⟨k36, ?_, ?_, rfl⟩, by show x.ws.length ≤ 20; omega, by show x.bf.length ≤ 20; omega, by show x.af.length ≤ 20; omega⟩
              · have hfr : freeB (outI x) = true := by
                  have h1 := hkb'.2.1; unfold freeB at h1 ⊢; have ek : (outI x).kd = x.kd := rfl; rcases k36 with h | h
                  · rw [if_neg (by omega), if_pos h] at h1; rw [ek, if_neg (by omega), if_pos h]; simp only [Bool.and_eq_true] at h1 ⊢; exact ⟨rfl, rfl, rfl, rfl, h1.2.2.2.2.1, h1.2.2.2.2.2⟩
                  · rw [if_neg (by omega), if_neg (by omega), if_neg (by omega), if_neg (by omega)] at h1; rw [ek, if_neg (by omega), if_neg (by omega), if_neg (by omega), if_neg (by omega)]; simp only [Bool.and_eq_true] at h1 ⊢; exact ⟨rfl, h1.2.1, rfl, h1.2.2.2.1, rfl, rfl⟩
                unfold fltI; have e1 : (!kindB (outI x).kd || (!freeB (outI x) || (decide (4 < 0) || (decide (0 < 0) && outK (outI x).kd)))) = false := by
                  have : kindB (outI x).kd = true := by
                    show kindB x.kd = true; unfold kindB; rw [decide_eq_true hkb'.1.1, decide_eq_true hkb'.1.2]; rfl
                  rw [this, hfr]; rfl
                have ek : (outI x).kd = x.kd := rfl; rw [e1, if_neg (by decide), ek]; rcases k36 with h | h
                · rw [if_pos h] at hfl ⊢; exact hfl
                · rw [if_neg (by omega), if_pos h] at hfl ⊢; exact hfl
              · have ek : (outI x).kd = x.kd := rfl; unfold chkI at hck0 ⊢; rw [ek]; rcases k36 with h | h
                · rw [if_pos h] at hck0 ⊢; exact hck0
                · rw [if_neg (by omega), if_pos h] at hck0 ⊢; exact hck0
    · exact h3 q σ B d hfw.2 hpr hd hσ hq y hy
theorem iszs_flat {out : List It} (h : ∀ y ∈ out, y.it = [] ∧ y.el = []) : iszs out = out.length := by
  induction out with
  | nil => rw [iszs_nil]; rfl
  | cons a r ih =>
    obtain ⟨h1, h2⟩ := h a (by simp); rw [iszs_cons, isz_eq, h1, h2, iszs_nil, ih fun y hy => h y (by simp [hy]), List.length_cons]; omega
theorem wks_flat {out : List It} (h : ∀ y ∈ out, y.it = [] ∧ y.el = []) : ∀ p ∈ wks 0 [] out, ∃ y ∈ out, p = ⟨0, [], y⟩ := by
  induction out with
  | nil => intro p hp; rw [wks_nil] at hp; cases hp
  | cons a r ih =>
    intro p hp; obtain ⟨h1, h2⟩ := h a (by simp); rw [wks_cons, wk_eq, h1, h2, wks_nil, wks_nil] at hp; rcases List.mem_append.1 hp with hp | hp
    · simp only [List.append_nil, List.mem_cons, List.not_mem_nil, or_false] at hp; exact ⟨a, by simp, hp⟩
    · obtain ⟨y, hy, e⟩ := ih (fun y hy => h y (by simp [hy])) p hp; exact ⟨y, by simp [hy], e⟩
theorem onK_flat {fs : List Fld} {y : It} (h : OnK fs y) : y.it = [] ∧ y.el = [] := by
  rcases h.1 with ⟨_, _, e⟩ | ⟨_, _, _, e⟩
  · rw [e]; exact ⟨rfl, rfl⟩
  · rw [e]; exact ⟨rfl, rfl⟩
theorem onK_ex {fs : List Fld} {y : It} (h : OnK fs y) : exI fs none (fun a => a) y = [y] ∧ cntI fs y = 1 := by
  rcases h.1 with ⟨hk, _, e⟩ | ⟨hk, _, _, e⟩
  · rw [exI_eq, cntI_eq, if_neg (by omega), if_neg (by omega), if_pos hk, if_neg (by omega), if_neg (by omega)]; exact ⟨by rw [← show y = hardI y.kd (und none 21 y.e) from e], rfl⟩
  · rw [exI_eq, cntI_eq, if_neg (by omega), if_neg (by omega), if_neg (by omega), if_neg (by omega), if_neg (by omega)]; exact ⟨by rw [← e], rfl⟩
theorem flat_ex {fs : List Fld} {out : List It} (h : ∀ y ∈ out, OnK fs y) : exL fs none (fun a => a) out = out ∧ cntL fs out = out.length := by
  induction out with
  | nil => rw [exL_nil, cntL_nil]; exact ⟨rfl, rfl⟩
  | cons a r ih =>
    obtain ⟨h1, h2⟩ := onK_ex (h a (by simp)); obtain ⟨h3, h4⟩ := (ih fun y hy => h y (by simp [hy])); rw [exL_cons, cntL_cons, h1, h2, h3, h4, List.length_cons]; exact ⟨rfl, by omega⟩
theorem flt_hard {k : Int} {e : Ex} (hk : k = 1 ∨ k = 2) (hv : vld e = 0) : fltI 0 (hardI k e) = 0 := by
  unfold fltI; have ek : (hardI k e).kd = k := rfl; have e1 : (!kindB (hardI k e).kd || (!freeB (hardI k e) || (decide (4 < 0) || (decide (0 < 0) && outK (hardI k e).kd)))) = false := by
    have h1 : kindB (hardI k e).kd = true := by
      rw [ek]; rcases hk with rfl | rfl <;> rfl
    have h2 : freeB (hardI k e) = true := by
      unfold freeB; rw [ek, if_pos hk]; rfl
    rw [h1, h2]; rfl
  rw [e1, if_neg (by decide), ek, if_neg (by omega), if_neg (by omega), if_neg (by omega)]; exact hv
theorem exp_once {fs : List Fld} (hS : ∀ f ∈ fs, 0 ≤ f.sz ∧ f.sz ≤ 8) {l out : List It} (hfw : FwL l) (h : expS fs l = (out, 0)) :
    iszs out ≤ 400 ∧ RsL out ∧ ItW.SmE out ∧ (iszs out ≤ 64 → checkI fs out = 0 ∧ expS fs out = (out, 0)) := by
  obtain ⟨h1, h2, h3, h4, h5⟩ := exp_parts h; have hK : ∀ y ∈ out, OnK fs y := by
    rw [h2]; exact exp_chk l none (fun a => a) [] 0 hfw h1 (fun _ => rfl) (PB.id fs) (fun c hc => by cases hc)
  have hfl := (iszs_flat fun y hy => onK_flat (hK y hy)); have hlen : (out.length : Int) ≤ 400 := by
    have := ItW.exL_len fs hS l none (fun a => a); rw [← h2] at this; omega
  have hsz : ∀ y ∈ out, sz y.e ≤ 400 := fun y hy => by
    rcases (hK y hy).1 with ⟨hk, _, _⟩ | ⟨_, _, _, e⟩
    · exact ((vld_zero _).1 (large_vld (h3 y hy) hk)).2.2
    · rw [e]; show sz zE ≤ 400; unfold zE; rw [sz_mk, szs_nil]; omega
  have hw := (wks_flat fun y hy => onK_flat (hK y hy)); have hrs : RsL out := by
    rw [rsL_mem]; intro y hy; obtain ⟨e1, e2⟩ := onK_flat (hK y hy); obtain ⟨_, w1, w2, w3⟩ := hK y hy; have := hsz y hy; rw [rsI_eq, e1, e2]; exact ⟨⟨by omega, by omega, by omega, by omega⟩, rsL_nil, rsL_nil⟩
  have hsm : ItW.SmE out := fun y hy => by
    obtain ⟨p, hp, rfl⟩ := List.mem_map.1 hy; obtain ⟨z, hz, rfl⟩ := hw p hp; have := hsz z hz; show sz z.e ≤ 1000; omega
  refine ⟨by omega, hrs, hsm, fun h64 => ?_⟩; have hchk : checkI fs out = 0 := by
    have hv : validI out = 0 := by
      unfold validI; rw [if_neg (by omega)]; refine (firstE_zero.2 fun e he => ?_); obtain ⟨p, hp, rfl⟩ := List.mem_map.1 he; obtain ⟨y, hy, rfl⟩ := hw p hp; show fltI 0 y = 0; rcases (hK y hy).1 with ⟨hk, _, e⟩ | ⟨_, g, _, _⟩
      · rw [e]; exact flt_hard hk (large_vld (h3 y hy) hk)
      · exact g
    unfold checkI; rw [if_pos hv]; refine (firstE_zero.2 fun e he => ?_); obtain ⟨p, hp, rfl⟩ := List.mem_map.1 he; obtain ⟨y, hy, rfl⟩ := hw p hp; show chkI fs [] y = 0; rcases (hK y hy).1 with ⟨hk, g, _⟩ | ⟨_, _, g, _⟩
    · unfold chkI; rw [if_neg (by omega), if_neg (by omega), if_neg (by omega)]; exact nob_exE.1 g
    · exact g
  refine ⟨hchk, ?_⟩; obtain ⟨g1, g2⟩ := flat_ex hK; unfold expS; rw [if_pos hchk, if_neg (by omega), g1]; have hany : out.any largeB = false := by
    rw [Bool.eq_false_iff]; intro ha; obtain ⟨y, hy, hb⟩ := List.any_eq_true.1 ha; rw [h3 y hy] at hb; cases hb
  rw [hany]; rfl
theorem exp_err {fs : List Fld} {l out : List It} {E : Int} (h : expS fs l = (out, E)) (hE : E ≠ 0) : out = [] := by
  unfold expS at h; split at h
  · split at h
    · exact (congrArg Prod.fst h).symm
    · split at h
      · exact (congrArg Prod.fst h).symm
      · exact absurd (congrArg Prod.snd h).symm hE
  · exact (congrArg Prod.fst h).symm
end Go.Proofs.YtpejflgdehioaaaGreatDoor.ItM
namespace Go.Proofs.YtpejflgdehioaaaGreatDoor.ItW
open Go Go.RowKit Go.Shelf Go.Proofs.YtpejflgdehioaaaGreatDoor.NumM Go.Proofs.YtpejflgdehioaaaGreatDoor.LexW Go.Proofs.YtpejflgdehioaaaGreatDoor.LexM Go.Proofs.YtpejflgdehioaaaGreatDoor.ExM Go.Proofs.YtpejflgdehioaaaGreatDoor.ExW Go.Proofs.YtpejflgdehioaaaGreatDoor.ItM
open Go.Proofs.YtpejflgdehioaaaGreatDoor.ClM (Fld)
attribute [local go_sem ↓] Go.wp_at_zero Go.wp_at_succ
structure RD (w : World) (c6 : List Value) (V : World) : Prop where
  h6 : Blk V w.heap.size c6
  rm : Room4 V (w.heap.size + 1)
  lo : Below w.heap.size w V
theorem RD.stay {w V V' : World} {c6 : List Value} (h : RD w c6 V) (hb : Below V.heap.size V V') : RD w c6 V' :=
  ⟨h.h6.stay hb, h.rm.stay hb, h.lo.trans (hb.mono h.lo.size)⟩
end Go.Proofs.YtpejflgdehioaaaGreatDoor.ItW
namespace Go.Proofs.YtpejflgdehioaaaGreatDoor.ItW
open Go Go.RowKit Go.Shelf Go.Proofs.YtpejflgdehioaaaGreatDoor.NumM Go.Proofs.YtpejflgdehioaaaGreatDoor.LexW Go.Proofs.YtpejflgdehioaaaGreatDoor.LexM Go.Proofs.YtpejflgdehioaaaGreatDoor.ExM Go.Proofs.YtpejflgdehioaaaGreatDoor.ExW Go.Proofs.YtpejflgdehioaaaGreatDoor.ItM
open Go.Proofs.YtpejflgdehioaaaGreatDoor.ClM (Fld)
theorem eqB_refl (e : Ex) : eqB e e = true := by
  induction e using Ex.ind with
  | h o n s ks ih =>
    have hl : eqL ks ks = true := eqL_yes rfl fun i x y _ hx hy => by
      rw [hx] at hy; cases hy; exact ih x (List.mem_of_getElem? hx)
    rw [eqB_mk]; simp [hl]
end Go.Proofs.YtpejflgdehioaaaGreatDoor.ItW
