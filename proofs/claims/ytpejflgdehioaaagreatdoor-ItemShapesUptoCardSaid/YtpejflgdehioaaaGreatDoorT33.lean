/-
  Laws that the card uses; no conditions beside those that each states (ItUnder).
-/
import Derived.Test.YtpejflgdehioaaaGreatDoorT14
import Derived.Test.YtpejflgdehioaaaGreatDoorT29
namespace Go.Proofs.YtpejflgdehioaaaGreatDoor.ItW
open Go Go.RowKit Go.Proofs.YtpejflgdehioaaaGreatDoor.NumM Go.Proofs.YtpejflgdehioaaaGreatDoor.LexW Go.Proofs.YtpejflgdehioaaaGreatDoor.LexM Go.Proofs.YtpejflgdehioaaaGreatDoor.ExM Go.Proofs.YtpejflgdehioaaaGreatDoor.ExW Go.Proofs.YtpejflgdehioaaaGreatDoor.ItM
def CondS (S : Nat → Prop) (w : World) (v : Value) : Option Ex → Prop
  | none => v = .pointer none
  | some c => ∃ b p cap, v = .pointer (some ⟨b, 0, none⟩) ∧ S b ∧ Four w b (.int .i64 c.op) (.int .i64 c.n) (.string c.nm) (.slice p c.args.length cap) ∧ ExS S w (xv c.op c.n c.nm (.slice p c.args.length cap)) c
theorem fourEq {w w' : World} {b : Nat} {x0 x1 x2 x3 : Value} (h : Four w b x0 x1 x2 x3) (hb : w'.heap[b]? = w.heap[b]?) : Four w' b x0 x1 x2 x3 := by
  have hc : ∀ o, w'.cell? ⟨b, o, none⟩ = w.cell? ⟨b, o, none⟩ := (fun o => World.cell?_of_block (w := w) hb); have hf : ∀ o, w'.frozen? ⟨b, o, none⟩ = w.frozen? ⟨b, o, none⟩ := (fun o => World.frozen?_of_block (w := w) hb); have hl : b < w'.heap.size := by
    have h1 := h.lt; rw [Array.getElem?_eq_getElem h1] at hb; exact (Array.getElem?_eq_some_iff.1 hb).1
  exact ⟨hl, (hc _).trans h.c0, (hc _).trans h.c1, (hc _).trans h.c2, (hc _).trans h.c3, (hf _).trans h.f0, (hf _).trans h.f1, (hf _).trans h.f2, (hf _).trans h.f3⟩
theorem exsEq {S S' : Nat → Prop} {w w' : World} (hS : ∀ b, S b → S' b ∧ w'.heap[b]? = w.heap[b]?) {v : Value} {e : Ex} (h : ExS S w v e) : ExS S' w' v e :=
  h.kept (fun b q => (hS b q).1) (fun b _ q _ hv => (World.cell?_of_block (w := w) (hS b q).2).trans hv)
theorem CondS.eq {S S' : Nat → Prop} {w w' : World} (hS : ∀ b, S b → S' b ∧ w'.heap[b]? = w.heap[b]?) {v : Value} {q : Option Ex} (h : CondS S w v q) : CondS S' w' v q := by
  cases q with
  | none => exact h
  | some c =>
    obtain ⟨b, p, cap, e, hb, hf, hx⟩ := h; exact ⟨b, p, cap, e, (hS b hb).1, fourEq hf (hS b hb).2, exsEq hS hx⟩
def tUnd (S : Nat → Prop) (q : Option Ex) (op : Int) (e : Ex) (w : World) (x : Ending) (w' : World) : Prop :=
  ∃ b, x = .returned (.pointer (some ⟨b, 0, none⟩)) ∧ CondS (fun b => S b ∨ Up w.heap.size w' b) w' (.pointer (some ⟨b, 0, none⟩)) (some (und q op e)) ∧ Below w.heap.size w w'
theorem two_args {T : Nat → Prop} {W : World} {g : Nat} {op : Int} {c e : Ex} {p5 p : Option Addr} {c5 cap : Nat} (hT : T g)
    (hB : Blk W g [.int .i64 c.op, .int .i64 c.n, .string c.nm, .slice p5 c.args.length c5, .int .i64 e.op, .int .i64 e.n, .string e.nm, .slice p e.args.length cap])
    (h1 : ExS T W (xv c.op c.n c.nm (.slice p5 c.args.length c5)) c) (h2 : ExS T W (xv e.op e.n e.nm (.slice p e.args.length cap)) e) :
    ExS T W (xv op 0 ⟨#[]⟩ (.slice (some ⟨g, 0, none⟩) 2 2)) (.mk op 0 ⟨#[]⟩ [c, e]) := by
  refine ExS.mk (ks := [c, e]) (fun i => if i = 0 then p5 else p) (fun i => if i = 0 then c5 else cap) (by decide) (by simp) (by simp) (fun _ => ⟨g, 0, rfl, hT, fun i a ha => ?_⟩) (fun i a ha => ?_)
  · rcases i with _ | _ | i
    · obtain rfl : c = a := (by simpa using ha); exact ⟨hB.c 0 _ rfl, hB.c 1 _ rfl, hB.c 2 _ rfl, hB.c 3 _ rfl⟩
    · obtain rfl : e = a := (by simpa using ha); exact ⟨hB.c 4 _ rfl, hB.c 5 _ rfl, hB.c 6 _ rfl, hB.c 7 _ rfl⟩
    · simp at ha
  · rcases i with _ | _ | i
    · obtain rfl : c = a := (by simpa using ha); exact h1
    · obtain rfl : e = a := (by simpa using ha); exact h2
    · simp at ha
set_option maxRecDepth 100000 in
set_option maxHeartbeats 16000000 in
theorem under_any (S : Nat → Prop) (q : Option Ex) (op : Int) (e : Ex) (vc ve : Value) (w : World) (hS : ∀ b, S b → b < w.heap.size) (hc : CondS S w vc q) (he : ExS S w ve e) (hsz : ∀ c, q = some c → sz c ≤ 10000) :
    Calls Tryz.prog 132 #[vc, .int .i64 op, ve] w (tUnd S q op e w) := by
  obtain ⟨p, cap, rfl, hen, hel⟩ := he.form; have HE := Lib.hid he; have HS := Lib.hid hS; have hb1 := ba w (.cells #[.int .i64 e.op, .int .i64 e.n, .string e.nm, .slice p e.args.length cap] 43); have FE := Four.new w (.int .i64 e.op) (.int .i64 e.n) (.string e.nm) (.slice p e.args.length cap) 43; cases q with
  | none =>
    have hv : vc = .pointer none := hc; subst hv; have HB1 := Lib.hid hb1; have HFE := Lib.hid FE; clear hb1 FE he hc hsz hen hel
    go_enter Tryz.func132, Tryz.ntmps132
    go_wp2; go_ret; exact ⟨_, rfl, ⟨_, p, cap, rfl, .inr ⟨Nat.le_refl _, HFE.out.lt⟩, HFE.out, exsEq (fun b q => ⟨.inl q, HB1.out.block b (HS.out b q)⟩) HE.out⟩, HB1.out⟩
  | some c =>
    obtain ⟨b, pc, kc, rfl, hSb, hf, hx⟩ := hc; have hf1 := hf.stay hb1; have HX := Lib.hid hx; have CL : Hid (∀ W, Below w.heap.size w W → Calls Tryz.prog 88 #[xv c.op c.n c.nm (.slice pc c.args.length kc)] W (tFr c W)) := (Lib.hid fun W hW => cloneI_any c _ _ _ ((hx.toAt hS).under hW) hW.size (hsz c rfl)); have m0 := hf1.c0; have m1 := hf1.c1; have m2 := hf1.c2; have m3 := hf1.c3; have d0 := FE.c0; have d1 := FE.c1; have d2 := FE.c2; have d3 := FE.c3; have hlb := hf.lt; have HB1 := Lib.hid hb1; have HFE := Lib.hid FE; have ED : Hid (und (some c) op e = .mk op 0 ⟨#[]⟩ [c, e]) := Lib.hid rfl; clear hb1 FE he hsz hf hf1 hx
    go_enter Tryz.func132, Tryz.ntmps132
    go_wp2; obtain ⟨w1, hw1⟩ : ∃ w1, w.alloc (.cells #[.int .i64 e.op, .int .i64 e.n, .string e.nm, .slice p e.args.length cap] 43) = w1 := ⟨_, rfl⟩; rw [hw1] at HB1 HFE m0 m1 m2 m3 d0 d1 d2 d3 ⊢; clear hw1; have FIN : Hid (∀ (w5 : World) (p5 : Option Addr) (c5 : Nat), Below w1.heap.size w1 w5 → Fr w1.drew.heap.size w5 (xv c.op c.n c.nm (.slice p5 c.args.length c5)) c → tUnd S (some c) op e w (.returned (.pointer (some ⟨w5.heap.size + 1, 0, none⟩))) ((w5.alloc (.cells #[.int .i64 c.op, .int .i64 c.n, .string c.nm, .slice p5 c.args.length c5, .int .i64 e.op, .int .i64 e.n, .string e.nm, .slice p e.args.length cap] 43)).alloc (.cells #[.int .i64 op, .int .i64 0, .string ⟨#[]⟩, .slice (some ⟨w5.heap.size, 0, none⟩) 2 2] 43))) := Lib.hid (fun w5 p5 c5 hB hF => by
      have hB2 := HB1.out.then_ hB; have s1 := HB1.out.size; have s2 := hB.size; have b1 := ba w5 (.cells #[.int .i64 c.op, .int .i64 c.n, .string c.nm, .slice p5 c.args.length c5, .int .i64 e.op, .int .i64 e.n, .string e.nm, .slice p e.args.length cap] 43); have b2 := ba (w5.alloc (.cells #[.int .i64 c.op, .int .i64 c.n, .string c.nm, .slice p5 c.args.length c5, .int .i64 e.op, .int .i64 e.n, .string e.nm, .slice p e.args.length cap] 43)) (.cells #[.int .i64 op, .int .i64 0, .string ⟨#[]⟩, .slice (some ⟨w5.heap.size, 0, none⟩) 2 2] 43); have b12 := b1.then_ b2; have z1 := World.size_alloc w5 (.cells #[.int .i64 c.op, .int .i64 c.n, .string c.nm, .slice p5 c.args.length c5, .int .i64 e.op, .int .i64 e.n, .string e.nm, .slice p e.args.length cap] 43); have z2 := World.size_alloc (w5.alloc (.cells #[.int .i64 c.op, .int .i64 c.n, .string c.nm, .slice p5 c.args.length c5, .int .i64 e.op, .int .i64 e.n, .string e.nm, .slice p e.args.length cap] 43)) (.cells #[.int .i64 op, .int .i64 0, .string ⟨#[]⟩, .slice (some ⟨w5.heap.size, 0, none⟩) 2 2] 43); have B8 := (Blk.new w5 [.int .i64 c.op, .int .i64 c.n, .string c.nm, .slice p5 c.args.length c5, .int .i64 e.op, .int .i64 e.n, .string e.nm, .slice p e.args.length cap] 43).stay b2; have F4 := Four.new (w5.alloc (.cells #[.int .i64 c.op, .int .i64 c.n, .string c.nm, .slice p5 c.args.length c5, .int .i64 e.op, .int .i64 e.n, .string e.nm, .slice p e.args.length cap] 43)) (.int .i64 op) (.int .i64 0) (.string ⟨#[]⟩) (.slice (some ⟨w5.heap.size, 0, none⟩) 2 2) 43; rw [z1] at F4 z2; have hd : w1.drew.heap.size = w1.heap.size := rfl; refine ⟨_, rfl, ⟨_, some ⟨w5.heap.size, 0, none⟩, 2, rfl, .inr ⟨by omega, F4.lt⟩, F4, ?_⟩, hB2.then_ b12⟩; refine two_args (.inr ⟨by omega, B8.lt⟩) B8 (hF.kept (fun b q => .inr ⟨by have := q.1; omega, by have := q.2; omega⟩) (fun b o q v hv => (b12.cell (p := ⟨b, o, none⟩) q.2).trans hv)) (exsEq (fun b q => ⟨.inl q, (hB2.then_ b12).block b (HS.out b q)⟩) HE.out))
    go_region_with (go_at_call 88; refine (CL.out _ (by first | exact HB1.out | exact HB1.out.drew)).mono ?_; rintro x w5 ⟨v5, rfl, hfr5, hb5⟩; obtain ⟨p5, c5, rfl, h5s, h5c⟩ := hfr5.form; have hB5 : Below w1.heap.size w1 w5 := (by first | exact hb5 | exact (Below.refl _ _).drew.trans hb5); have f5 := HFE.out.stay hB5; have e0 := f5.c0; have e1 := f5.c1; have e2 := f5.c2; have e3 := f5.c3; have HF5 := Lib.hid hfr5; have HB5 := Lib.hid hB5; clear hb5 hfr5 f5 hB5)
    all_goals
      go_wp2; go_ret; exact FIN.out _ _ _ HB5.out HF5.out
end Go.Proofs.YtpejflgdehioaaaGreatDoor.ItW
