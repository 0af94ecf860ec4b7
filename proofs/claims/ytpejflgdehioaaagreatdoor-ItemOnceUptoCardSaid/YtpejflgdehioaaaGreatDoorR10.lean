/-
  Laws that the card uses; no conditions beside those that each states (ItIter).
-/
import Derived.Test.YtpejflgdehioaaaGreatDoorR05
import Derived.Test.YtpejflgdehioaaaGreatDoorR07
namespace Go.Proofs.YtpejflgdehioaaaGreatDoor.ItW
open Go Go.RowKit Go.Shelf Go.Proofs.YtpejflgdehioaaaGreatDoor.LexW Go.Proofs.YtpejflgdehioaaaGreatDoor.LexM Go.Proofs.YtpejflgdehioaaaGreatDoor.ExM Go.Proofs.YtpejflgdehioaaaGreatDoor.ExW Go.Proofs.YtpejflgdehioaaaGreatDoor.ItM
attribute [local go_sem] Oper.semAt_some
set_option maxRecDepth 100000 in
set_option maxHeartbeats 4000000 in
theorem constraints_tells (F : Fence) (hd : F.depth = none) (n : Nat) (h65 : F.fn 65) (h66 : F.fn 66) (hro : F.round = none) (n₀ n₁ lb : Nat) (hn : n₀ ≤ n₁) (l0 : List It) (hsz : iszs l0 ≤ 10000) (G : Pl → Prop) (hG : ∀ p ∈ wks 0 [] l0, G p) (v : Value)
    (w : World) (h1 : n₁ ≤ w.heap.size) (hb : Boxed w lb 22 v) (hx : ItsA n₀ w v l0) :
    Tells F n Tryz.prog 65 #[.pointer (some ⟨lb, 0, none⟩)] (encP (n₀ := n₀) (w₀ := w)) (KeepC n₀ n₁) (fun ys => ys.map Pn.pl = wks 0 [] l0) (fun q => q.map Pn.pl <+: wks 0 [] l0) (iszs l0) (TellB G) w := by
  intro l J Jx W hW hJ hJx hY h0; have hdd : ∀ k : Nat, (F.depth.isSome = true → 1 ≤ k) := (fun k h => by rw [hd] at h; cases h); have hws := hW.size; have HW : Hid (∀ W2, Below W.heap.size W W2 → Boxed W2 W.heap.size 105 (.func (.yield l) #[] #[]) → Boxed W2 (W.heap.size + 2) 68 (.map (some (W.heap.size + 1))) →
      Boxed W2 (W.heap.size + 3) 106 (.func (.func 66) #[] #[.pointer (some ⟨W.heap.size, 0, none⟩), .pointer (some ⟨W.heap.size + 2, 0, none⟩), .pointer (some ⟨W.heap.size + 3, 0, none⟩)]) → IntMap W2 (W.heap.size + 1) 0 (cntB []) →
      CallsIn F (n - 1) Tryz.prog 66 #[v, .int .i64 0, .pointer (some ⟨W.heap.size, 0, none⟩), .pointer (some ⟨W.heap.size + 2, 0, none⟩), .pointer (some ⟨W.heap.size + 3, 0, none⟩)] W2 (CameC J Jx n₁ (W.heap.size + 1) (0 + 2 * iszs l0) (wks 0 [] l0) [] [] W2)) := Lib.hid fun W2 hb2 c1 c2 c3 m =>
    walkC_in F hd h66 hro l n₀ n₁ (iszs l0) W.heap.size (W.heap.size + 2) (W.heap.size + 3) (W.heap.size + 1) w J Jx hn (fun s A B hs hg => hJ s A B none hs hg (fun r e => by cases e))
      (fun s A B hs hg hm => hJ s A B _ hs hg (fun r e => by cases e; obtain ⟨es, ck, hm⟩ := hm; exact ⟨by omega, _, hm, rfl⟩)) (fun s A B hs hg hm => hJx s A B _ hs hg (fun r e => by cases e; obtain ⟨es, ck, hm⟩ := hm; exact ⟨by omega, _, hm, rfl⟩))
      (by omega) (by omega) (by omega) (by omega) (by omega) (by omega) (by omega)
      G (fun m bef x W hj ht hl => by
        obtain ⟨fn, tmps, assign, body, hy, hR⟩ := hY bef x W hj ht hl; exact ⟨fn, tmps, assign, body, hy, roundFree hd hR⟩)
      l0 (n - 1) 0 0 [] v [] W2 hx (low_cells ((hW.trans (hb2.mono (by omega))).mono (by omega))) (hJ _ _ _ none h0 (grown_of_below hb2) (fun r e => by cases e)) (by have := hb2.size; omega) (by simp) (by omega) (by omega) (by simp) hG c1 c2 c3 m
  obtain ⟨p, cap, V, rfl, _⟩ := hx.form; generalize l0.length = K at *
  have hbW : Boxed W lb 22 (.slice p K cap) := (hW.block lb hb.lt).trans hb; have a0 := (((hbW.alloc (.cells #[.func (.yield l) #[] #[]] 105)).alloc (.map #[] 0)).alloc (.cells #[.map (some (W.heap.size + 1))] 68)).alloc (.cells #[.func (.func 66) #[] #[.pointer (some ⟨W.heap.size, 0, none⟩), .pointer (some ⟨W.heap.size + 2, 0, none⟩), .pointer (some ⟨W.heap.size + 3, 0, none⟩)]] 106); have cl := a0.cell; have bx1 := (((Boxed.new W 105 (.func (.yield l) #[] #[])).alloc (.map #[] 0)).alloc (.cells #[.map (some (W.heap.size + 1))] 68)).alloc (.cells #[.func (.func 66) #[] #[.pointer (some ⟨W.heap.size, 0, none⟩), .pointer (some ⟨W.heap.size + 2, 0, none⟩), .pointer (some ⟨W.heap.size + 3, 0, none⟩)]] 106); have bx2 := (Boxed.new ((W.alloc (.cells #[.func (.yield l) #[] #[]] 105)).alloc (.map #[] 0)) 68 (.map (some (W.heap.size + 1)))).alloc (.cells #[.func (.func 66) #[] #[.pointer (some ⟨W.heap.size, 0, none⟩), .pointer (some ⟨W.heap.size + 2, 0, none⟩), .pointer (some ⟨W.heap.size + 3, 0, none⟩)]] 106); have bx3 := Boxed.new (((W.alloc (.cells #[.func (.yield l) #[] #[]] 105)).alloc (.map #[] 0)).alloc (.cells #[.map (some (W.heap.size + 1))] 68)) 106 (.func (.func 66) #[] #[.pointer (some ⟨W.heap.size, 0, none⟩), .pointer (some ⟨W.heap.size + 2, 0, none⟩), .pointer (some ⟨W.heap.size + 3, 0, none⟩)]); have m0 := IntMap.made (W.alloc (.cells #[.func (.yield l) #[] #[]] 105)); have m1 := m0.below ((Below.refl _ _).alloc (Nat.le_refl _) (.cells #[.map (some (W.heap.size + 1))] 68)); have m2 := m1.below ((Below.refl _ _).alloc (Nat.le_refl _) (.cells #[.func (.func 66) #[] #[.pointer (some ⟨W.heap.size, 0, none⟩), .pointer (some ⟨W.heap.size + 2, 0, none⟩), .pointer (some ⟨W.heap.size + 3, 0, none⟩)]] 106)); simp only [World.size_alloc, Nat.add_assoc, Nat.reduceAdd] at bx1 bx2 bx3 m2; have BX1 := Lib.hid bx1; have BX2 := Lib.hid bx2; have BX3 := Lib.hid bx3; have M2 := Lib.hid (m2.same (g := cntB []) (fun _ => rfl)); have HB1 : Hid (Below W.heap.size W ((((W.alloc (.cells #[.func (.yield l) #[] #[]] 105)).alloc (.map #[] 0)).alloc (.cells #[.map (some (W.heap.size + 1))] 68)).alloc (.cells #[.func (.func 66) #[] #[.pointer (some ⟨W.heap.size, 0, none⟩), .pointer (some ⟨W.heap.size + 2, 0, none⟩), .pointer (some ⟨W.heap.size + 3, 0, none⟩)]] 106))) :=
    Lib.hid ((((Below.refl _ _).alloc (Nat.le_refl _) _).alloc (by simp) _).alloc (by simp; omega) _ |>.alloc (by simp; omega) _)
  clear bx1 bx2 bx3 m0 m1 m2 a0 hb hx hbW hY hJ hJx h0 hW; have hmm := @run_makeMap Tryz.prog; refine callsIn_of_wp Tryz.func65 rfl h65 ?_ hro; simp only [Tryz.ntmps65, List.size_toArray, List.length_cons, List.length_nil, Nat.reduceAdd, Nat.reduceSub, Array.replicate_succ, Array.replicate_zero, List.push_toArray, List.append_toArray, List.nil_append, List.cons_append]
  gi_wp2_with ((try refine ⟨hdd _, ?_⟩); gi_at_call 66; refine (HW.out _ HB1.out BX1.out BX2.out BX3.out M2.out).mono ?_; clear HW; rintro e W5 ⟨(⟨rfl, hys⟩ | ⟨rfl, hq⟩), _, _⟩)
  · have H5 := Lib.hid hys; clear hys
    go_end0
    obtain ⟨ys, h1, h2⟩ := H5.out; exact ⟨⟨_, rfl⟩, .inl ⟨ys, h1, by simpa using h2⟩⟩
  · have H5 := Lib.hid hq; clear hq
    go_end0
    obtain ⟨q, h1, h2⟩ := H5.out; exact ⟨⟨_, rfl⟩, .inr ⟨q, h1, by simpa using h2⟩⟩
set_option maxRecDepth 100000 in
set_option maxHeartbeats 1000000 in
theorem constraints_in (F : Fence) (n : Nat) (h36 : F.fn 36) (hro : F.round = none) (p : Option Addr) (K cap : Nat) (w : World) :
    CallsIn F n Tryz.prog 36 #[.slice p K cap] w fun e w' => e = .returned (.func (.func 65) #[] #[.pointer (some ⟨w.heap.size, 0, none⟩)]) ∧ w' = w.alloc (.cells #[.slice p K cap] 22) := by
  refine callsIn_of_wp Tryz.func36 rfl h36 ?_ hro; simp only [Tryz.ntmps36, List.size_toArray, List.length_cons, List.length_nil, Nat.reduceAdd, Nat.reduceSub, Array.replicate_succ, Array.replicate_zero, List.push_toArray, List.append_toArray, List.nil_append, List.cons_append]
  gi_wp2
  go_ret; exact ⟨rfl, rfl⟩
end Go.Proofs.YtpejflgdehioaaaGreatDoor.ItW
