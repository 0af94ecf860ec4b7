/-
  What valid, IsName of the lexer return.
-/
import Derived.Test.YtoigjeoncdfdmaaGreatDoorExLexFirst
import Derived.Laws.StructEq
namespace Go.Proofs.YtoigjeoncdfdmaaGreatDoor.LexW
open Go Go.RowKit Go.Proofs.YtoigjeoncdfdmaaGreatDoor.NumM Go.Proofs.YtoigjeoncdfdmaaGreatDoor.LexM

/-- Two tokens are equal. -/
def tkEq (k n : Int) (x : ByteArray) (l : Int) (k' n' : Int) (x' : ByteArray) (l' : Int) : Bool := (k == k') && ((n == n') && ((x.toList == x'.toList) && (l == l')))
theorem run_tok_eq (W : World) (k n : Int) (x : ByteArray) (l : Int) (k' n' : Int) (x' : ByteArray) (l' : Int) :
    (binOp .eql 90 (tv k n x l) (tv k' n' x' l')).run Tryz.prog W = .ok (.bool (tkEq k n x l k' n' x' l')) W := by
  unfold tkEq
  cases h0 : (k == k') <;> cases h1 : (n == n') <;> cases h2 : (x.toList == x'.toList) <;> cases h3 : (l == l') <;>
    simp [go_sem, h0, h1, h2, h3]
theorem run_tok_neq (W : World) (k n : Int) (x : ByteArray) (l : Int) (k' n' : Int) (x' : ByteArray) (l' : Int) :
    (binOp .neq 90 (tv k n x l) (tv k' n' x' l')).run Tryz.prog W = .ok (.bool (!tkEq k n x l k' n' x' l')) W := by
  unfold tkEq
  cases h0 : (k == k') <;> cases h1 : (n == n') <;> cases h2 : (x.toList == x'.toList) <;> cases h3 : (l == l') <;>
    simp [go_sem, h0, h1, h2, h3]
theorem tkEq_iff {k n : Int} {x : ByteArray} {l : Int} {k' n' : Int} {x' : ByteArray} {l' : Int} : tkEq k n x l k' n' x' l' = true ↔ k = k' ∧ n = n' ∧ x.data.toList = x'.data.toList ∧ l = l' := by
  simp [tkEq, Lib.toList_data]
theorem below_new {W0 W1 : World} {o : Obj} (h : Below (W0.alloc o).heap.size (W0.alloc o) W1) : Below W0.heap.size W0 W1 := Below.then_ ((Below.refl _ _).alloc (Nat.le_refl _) _) h
set_option maxRecDepth 100000 in
set_option maxHeartbeats 1000000 in
theorem valid_ok (a b d : Int) (s y : ByteArray) (k m : Int) (w : World)
    (CC : Hid (∀ W, Below w.heap.size w W → Calls Tryz.prog 79 #[.string s] W fun e w' => e = .returned (.tuple #[tv k m y 0, .int .i64 0]) ∧ Below W.heap.size W w')) :
    Calls Tryz.prog 61 #[tv a b s d] w fun e w' => e = .returned (.bool (tkEq k m y 0 a b s 0)) ∧ Below w.heap.size w w' := by
  have hb0 : Hid (Below w.heap.size w (w.alloc (.cells #[.int .i64 a, .int .i64 b, .string s, .int .i64 0] 90))) := Lib.hid ((Below.refl _ _).alloc (Nat.le_refl _) _)
  have HQ := fun W => run_tok_eq W k m y 0 a b s 0
  obtain ⟨B, hB⟩ : ∃ B, tkEq k m y 0 a b s 0 = B := ⟨_, rfl⟩
  rw [hB]
  rw [hB] at HQ
  clear hB
  go_enter Tryz.func61, Tryz.ntmps61
  go_wp2_with (go_at_call 79; ((with_reducible refine (CC.out _ hb0.out).mono ?_); rintro e w1 ⟨rfl, hb⟩; have F := Lib.hid ((Four.new w _ _ _ _ _).stay hb); have HB := Lib.hid (Below.then_ hb0.out hb); clear hb; have f0 := F.out.f0; have f1 := F.out.f1; have f2 := F.out.f2; have f3 := F.out.f3; have c0 := F.out.c0; have c1 := F.out.c1; have c2 := F.out.c2; have c3 := F.out.c3; have z1 := F.out.lt))
  go_ret
  exact ⟨rfl, HB.out.alloc HB.out.size _⟩
set_option maxRecDepth 100000 in
set_option maxHeartbeats 1000000 in
theorem valid_no (a b d : Int) (s y : ByteArray) (k m er : Int) (w : World) (he : (er == 0) = false)
    (CC : Hid (∀ W, Below w.heap.size w W → Calls Tryz.prog 79 #[.string s] W fun e w' => e = .returned (.tuple #[tv k m y 0, .int .i64 er]) ∧ Below W.heap.size W w')) :
    Calls Tryz.prog 61 #[tv a b s d] w fun e w' => e = .returned (.bool false) ∧ Below w.heap.size w w' := by
  have hb0 : Hid (Below w.heap.size w (w.alloc (.cells #[.int .i64 a, .int .i64 b, .string s, .int .i64 0] 90))) := Lib.hid ((Below.refl _ _).alloc (Nat.le_refl _) _)
  go_enter Tryz.func61, Tryz.ntmps61
  go_wp2_with (go_at_call 79; ((with_reducible refine (CC.out _ hb0.out).mono ?_); rintro e w1 ⟨rfl, hb⟩; have F := Lib.hid ((Four.new w _ _ _ _ _).stay hb); have HB := Lib.hid (Below.then_ hb0.out hb); clear hb; have f0 := F.out.f0; have f1 := F.out.f1; have f2 := F.out.f2; have f3 := F.out.f3; have c0 := F.out.c0; have c1 := F.out.c1; have c2 := F.out.c2; have c3 := F.out.c3; have z1 := F.out.lt))
  go_ret
  exact ⟨rfl, HB.out.alloc HB.out.size _⟩
/-- valid, for every token. -/
theorem valid_any (t : Tk) (w : World) (hs : t.text.length ≤ 140737488351232) (ht : Tab w) :
    Calls Tryz.prog 61 #[tvT t] w fun e w' => e = .returned (.bool (validS t)) ∧ Below w.heap.size w w' := by
  have hsz : (bs t.text).size ≤ 140737488351232 := by rw [← len_data]; exact hs
  obtain ⟨k, m, er, y, hk, hm, hy, he, CC, _⟩ := first_part 79 (bs t.text) (firstS t.text) w (fun W hb => first_any (bs t.text) W hsz (ht.later hb))
  by_cases h0 : er = 0
  · subst h0
    have e : tkEq k m y 0 t.kind t.n (bs t.text) 0 = validS t := by
      rw [Bool.eq_iff_iff, tkEq_iff, validS]
      simp [hk, hm, hy, he]
    rw [← e]
    exact valid_ok t.kind t.n t.line (bs t.text) y k m w CC
  · have e : validS t = false := by unfold validS; rw [he, decide_eq_false h0]; rfl
    rw [e]
    exact valid_no t.kind t.n t.line (bs t.text) y k m er w (by simpa using h0) CC
def nameS (l : List UInt8) : Bool := validS ⟨1, 0, l, 0⟩
theorem isName_any (s : ByteArray) (w : World) (hs : s.size ≤ 140737488351232) (ht : Tab w) :
    Calls Tryz.prog 33 #[.string s] w fun e w' => e = .returned (.bool (nameS s.data.toList)) ∧ Below w.heap.size w w' := by
  have VC : Hid (∀ W, Below w.heap.size w W → Calls Tryz.prog 61 #[tv 1 0 s 0] W fun e w' => e = .returned (.bool (nameS s.data.toList)) ∧ Below W.heap.size W w') :=
    Lib.hid fun W hb => valid_any ⟨1, 0, s.data.toList, 0⟩ W (by rw [len_data]; exact hs) (ht.later hb)
  have hb0 := Lib.hid (Below.refl w.heap.size w)
  clear ht
  go_enter Tryz.func33, Tryz.ntmps33
  go_wp2_with (go_at_call 61; ((with_reducible refine (VC.out _ hb0.out).mono ?_); rintro e w1 ⟨rfl, hb⟩))
  go_ret
  exact ⟨rfl, hb⟩
end Go.Proofs.YtoigjeoncdfdmaaGreatDoor.LexW
