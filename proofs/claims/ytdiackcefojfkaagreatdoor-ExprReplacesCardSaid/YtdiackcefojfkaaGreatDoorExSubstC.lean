/-
  What Subst returns.
-/
import Derived.Test.YtdiackcefojfkaaGreatDoorExSubst
namespace Go.Proofs.YtdiackcefojfkaaGreatDoor.ExW
open Go Go.RowKit Go.Proofs.YtdiackcefojfkaaGreatDoor.NumM Go.Proofs.YtdiackcefojfkaaGreatDoor.LexW Go.Proofs.YtdiackcefojfkaaGreatDoor.LexM Go.Proofs.YtdiackcefojfkaaGreatDoor.ExM

set_option maxRecDepth 100000 in
set_option maxHeartbeats 8000000 in
theorem substCode_any (e b : Ex) (nm : ByteArray) (N : Nat) (w : World) (v bv : Value) (hx : ExAt N w v e) (hy : ExAt N w bv b) (hN : N ≤ w.heap.size) (hsz : sz e ≤ 10000) (hbs : sz b ≤ 10000) : Calls Tryz.prog 33 #[v, .string nm, bv] w (tFr (su nm b e) w) := by
  obtain ⟨p, cap, pl, cl, rfl, hs, _⟩ := hx.form
  obtain ⟨p', cap', pl', cl', rfl, hs', _⟩ := hy.form
  have hb5 : Below w.heap.size w (((((w.alloc (.cells #[.int .i64 e.op, .int .i64 e.n, .string e.nm, .slice p e.args.length cap] 24)).alloc (.cells #[.string nm] 9)).alloc (.cells #[.int .i64 b.op, .int .i64 b.n, .string b.nm, .slice p' b.args.length cap'] 24)).alloc (.cells #[.int .i64 0, .int .i64 0, .string ⟨#[]⟩, .slice none 0 0] 24)).alloc (.cells #[.func (.func 53) #[] #[.pointer (some ⟨w.heap.size + 1, 0, none⟩), .pointer (some ⟨w.heap.size + 1 + 1, 0, none⟩), .pointer (some ⟨w.heap.size + 1 + 1 + 1 + 1, 0, none⟩)]] 40)) := (((((Below.refl _ _).alloc (Nat.le_refl _) _).alloc (by simp) _).alloc (by simp only [World.size_alloc]; omega) _).alloc (by simp only [World.size_alloc]; omega) _).alloc (by simp only [World.size_alloc]; omega) _
  have f1 := ((((Four.new w (.int .i64 e.op) (.int .i64 e.n) (.string e.nm) (.slice p e.args.length cap) 24).alloc (.cells #[.string nm] 9)).alloc (.cells #[.int .i64 b.op, .int .i64 b.n, .string b.nm, .slice p' b.args.length cap'] 24)).alloc (.cells #[.int .i64 0, .int .i64 0, .string ⟨#[]⟩, .slice none 0 0] 24)).alloc (.cells #[.func (.func 53) #[] #[.pointer (some ⟨w.heap.size + 1, 0, none⟩), .pointer (some ⟨w.heap.size + 1 + 1, 0, none⟩), .pointer (some ⟨w.heap.size + 1 + 1 + 1 + 1, 0, none⟩)]] 40)
  have g1 := (((Boxed.new (w.alloc (.cells #[.int .i64 e.op, .int .i64 e.n, .string e.nm, .slice p e.args.length cap] 24)) 9 (.string nm)).alloc (.cells #[.int .i64 b.op, .int .i64 b.n, .string b.nm, .slice p' b.args.length cap'] 24)).alloc (.cells #[.int .i64 0, .int .i64 0, .string ⟨#[]⟩, .slice none 0 0] 24)).alloc (.cells #[.func (.func 53) #[] #[.pointer (some ⟨w.heap.size + 1, 0, none⟩), .pointer (some ⟨w.heap.size + 1 + 1, 0, none⟩), .pointer (some ⟨w.heap.size + 1 + 1 + 1 + 1, 0, none⟩)]] 40)
  have f2 := ((Four.new ((w.alloc (.cells #[.int .i64 e.op, .int .i64 e.n, .string e.nm, .slice p e.args.length cap] 24)).alloc (.cells #[.string nm] 9)) (.int .i64 b.op) (.int .i64 b.n) (.string b.nm) (.slice p' b.args.length cap') 24).alloc (.cells #[.int .i64 0, .int .i64 0, .string ⟨#[]⟩, .slice none 0 0] 24)).alloc (.cells #[.func (.func 53) #[] #[.pointer (some ⟨w.heap.size + 1, 0, none⟩), .pointer (some ⟨w.heap.size + 1 + 1, 0, none⟩), .pointer (some ⟨w.heap.size + 1 + 1 + 1 + 1, 0, none⟩)]] 40)
  have f3 := (Four.new (((w.alloc (.cells #[.int .i64 e.op, .int .i64 e.n, .string e.nm, .slice p e.args.length cap] 24)).alloc (.cells #[.string nm] 9)).alloc (.cells #[.int .i64 b.op, .int .i64 b.n, .string b.nm, .slice p' b.args.length cap'] 24)) (.int .i64 0) (.int .i64 0) (.string ⟨#[]⟩) (.slice none 0 0) 24).alloc (.cells #[.func (.func 53) #[] #[.pointer (some ⟨w.heap.size + 1, 0, none⟩), .pointer (some ⟨w.heap.size + 1 + 1, 0, none⟩), .pointer (some ⟨w.heap.size + 1 + 1 + 1 + 1, 0, none⟩)]] 40)
  have g2 := Boxed.new ((((w.alloc (.cells #[.int .i64 e.op, .int .i64 e.n, .string e.nm, .slice p e.args.length cap] 24)).alloc (.cells #[.string nm] 9)).alloc (.cells #[.int .i64 b.op, .int .i64 b.n, .string b.nm, .slice p' b.args.length cap'] 24)).alloc (.cells #[.int .i64 0, .int .i64 0, .string ⟨#[]⟩, .slice none 0 0] 24)) 40 (.func (.func 53) #[] #[.pointer (some ⟨w.heap.size + 1, 0, none⟩), .pointer (some ⟨w.heap.size + 1 + 1, 0, none⟩), .pointer (some ⟨w.heap.size + 1 + 1 + 1 + 1, 0, none⟩)])
  simp only [World.size_alloc] at f1 g1 f2 f3 g2
  have hws := hb5.size
  simp only [World.size_alloc] at hws
  have hh : Held (((((w.alloc (.cells #[.int .i64 e.op, .int .i64 e.n, .string e.nm, .slice p e.args.length cap] 24)).alloc (.cells #[.string nm] 9)).alloc (.cells #[.int .i64 b.op, .int .i64 b.n, .string b.nm, .slice p' b.args.length cap'] 24)).alloc (.cells #[.int .i64 0, .int .i64 0, .string ⟨#[]⟩, .slice none 0 0] 24)).alloc (.cells #[.func (.func 53) #[] #[.pointer (some ⟨w.heap.size + 1, 0, none⟩), .pointer (some ⟨w.heap.size + 1 + 1, 0, none⟩), .pointer (some ⟨w.heap.size + 1 + 1 + 1 + 1, 0, none⟩)]] 40)) (w.heap.size + 1) (w.heap.size + 1 + 1) (w.heap.size + 1 + 1 + 1 + 1) nm (xv b.op b.n b.nm (.slice p' b.args.length cap')) := ⟨g1, g2, _, _, _, _, rfl, f2⟩
  have CC := Lib.hid (subst1_any (w.heap.size + 1) (w.heap.size + 1 + 1) (w.heap.size + 1 + 1 + 1 + 1) nm b _ N hbs e N _ _ (hx.under (hb5.mono hN)) (by simp only [World.size_alloc]; omega) hsz (hy.under (hb5.mono hN)) (by simp only [World.size_alloc]; omega) hh)
  have d0 := f1.c0
  have d1 := f1.c1
  have d2 := f1.c2
  have d3 := f1.c3
  have d4 := g2.cell
  have HB5 := Lib.hid hb5
  have HF3 := Lib.hid f3
  clear hx hy hs hs' hb5 f1 g1 f2 f3 hh hsz hbs
  generalize su nm b e = E at *
  generalize e.op = o at *
  generalize e.n = n at *
  generalize e.nm = s at *
  generalize e.args.length = K at *
  generalize b.op = bo at *
  generalize b.n = bn at *
  generalize b.nm = bs at *
  generalize b.args.length = bK at *
  go_enter Tryz.func33, Tryz.ntmps33
  go_wp2_with (go_at_call 53; ((with_reducible refine CC.out.mono ?_); rintro e w6 ⟨v6, rfl, hfr, hb6⟩; obtain ⟨p6, c6, rfl, hs6, hc6⟩ := hfr.form; have f5 := HF3.out.stay hb6; have u4 := f5.f0; have u5 := f5.f1; have u6 := f5.f2; have u7 := f5.f3; have u0 := f5.c0; have u1 := f5.c1; have u2 := f5.c2; have u3 := f5.c3; have HF5 := Lib.hid f5; have HFR := Lib.hid hfr; have HB6 := Lib.hid (HB5.out.then_ hb6); clear f5 hfr hb6))
  have hp := HF5.out.put (.int .i64 E.op) (.int .i64 E.n) (.string E.nm) (.slice p6 E.args.length c6)
  have p0 := hp.c0
  have p1 := hp.c1
  have p2' := hp.c2
  have p3' := hp.c3
  refine bodyPost_ret (v := xv E.op E.n E.nm (.slice p6 E.args.length c6)) (by simp [results, Tryz.results33, go_sem, p0, p1, p2', p3']) rfl ⟨_, rfl, ?_, below_put HB6.out (by omega) _ _ _ _⟩
  have := HFR.out
  simp only [World.size_alloc] at this
  exact ((((this.set (by omega)).set (by omega)).set (by omega)).set (by omega)).low (by omega)
end Go.Proofs.YtdiackcefojfkaaGreatDoor.ExW
