/-
  Blocks of cells that are known; what the small functions return.
-/
import Derived.Test.YtoigjeoncdfdmaaGreatDoorClFind
import Derived.Test.YtoigjeoncdfdmaaGreatDoorExNameR
import Derived.Lib.QuietBelow
import Derived.RangeFuncNested
namespace Go.Proofs.YtoigjeoncdfdmaaGreatDoor.ClW
open Go Go.RowKit Go.Proofs.YtoigjeoncdfdmaaGreatDoor.NumM Go.Proofs.YtoigjeoncdfdmaaGreatDoor.LexW Go.Proofs.YtoigjeoncdfdmaaGreatDoor.LexM Go.Proofs.YtoigjeoncdfdmaaGreatDoor.ClM
open Go.«Sort»

theorem reB {P : Program} {f : FuncId} {args : Array Value} {w : World} {v : Value} (C : ∀ W, Below w.heap.size w W → Calls P f args W fun e w' => e = .returned v ∧ Below W.heap.size W w') (d : Nat) (os : Array Obj) :
    Calls P f args (grow (redrawn w d) os) fun e w'' => e = .returned v ∧ ∃ p : Regrown, w'' = grow (redrawn w p.d) p.os :=
  Calls.regrown_of (C _ (below_regrown w d os))
/-- A block of cells that are known, none frozen. -/
structure Blk (w : World) (g : Nat) (xs : List Value) : Prop where
  lt : g < w.heap.size
  c : ∀ (i : Nat) (x : Value), xs[i]? = some x → w.cell? ⟨g, i, none⟩ = some x
  f : ∀ o : Nat, w.frozen? ⟨g, o, none⟩ = false
section
variable {w W0 : World} {g : Nat} {xs : List Value}
theorem Blk.new (w : World) (xs : List Value) (t : TypeId) : Blk (w.alloc (.cells xs.toArray t)) w.heap.size xs := by
  have hb : (w.alloc (.cells xs.toArray t)).heap[w.heap.size]? = some (.cells xs.toArray t) := heap_alloc_new _ _
  exact ⟨by simp, fun i x hx => (alloc_cells w xs.toArray t i x (by simpa using hx)).1, fun o => by simp only [World.frozen?, hb]; simp⟩
theorem Blk.at_ {n : Nat} (hn : w.heap.size = n) (xs : List Value) (t : TypeId) : Blk (w.alloc (.cells xs.toArray t)) n xs := by subst hn; exact Blk.new w xs t
theorem Blk.stay (h : Blk W0 g xs) (hb : Below W0.heap.size W0 w) : Blk w g xs :=
  ⟨Nat.lt_of_lt_of_le h.lt hb.size, fun i x hx => (hb.cell (p := ⟨g, i, none⟩) h.lt).trans (h.c i x hx), fun o => (hb.frozen (p := ⟨g, o, none⟩) h.lt).trans (h.f o)⟩
theorem Blk.alloc (h : Blk w g xs) (o : Obj) : Blk (w.alloc o) g xs := h.stay ((Below.refl _ _).alloc (Nat.le_refl _) _)
theorem Blk.far {b o : Nat} {v : Value} (h : Blk w g xs) (hn : g ≠ b) : Blk (w.setCell ⟨b, o, none⟩ v) g xs :=
  ⟨by rw [setCell_size]; exact h.lt, fun i x hx => (World.cell?_setCell_other _ _ _ _ (fun e => hn (congrArg Addr.block e).symm)).trans (h.c i x hx), fun o => by rw [World.frozen?_setCell]; exact h.f o⟩
theorem Blk.set (h : Blk w g xs) (i : Nat) (v : Value) (hi : i < xs.length) : Blk (w.setCell ⟨g, i, none⟩ v) g (xs.set i v) := by
  refine ⟨by rw [setCell_size]; exact h.lt, fun j x hx => ?_, fun o => by rw [World.frozen?_setCell]; exact h.f o⟩
  rw [List.getElem?_set] at hx
  split at hx
  · rename_i e
    subst e
    obtain rfl : v = x := by simpa [hi] using hx
    exact cell_set (h.c i _ (List.getElem?_eq_getElem hi))
  · rename_i e
    rw [other _ _ e]
    exact h.c j x hx
theorem Blk.grown {row : Option Nat} {w' : World} (h : Blk w g xs) (hg : w.grownBy w' row) (hr : some g ≠ row) : Blk w' g xs := by
  have hb := hg.block g h.lt hr
  exact ⟨Nat.lt_of_lt_of_le h.lt hg.size, fun i x hx => (World.cell?_of_block (w := w) hb).trans (h.c i x hx), fun o => (World.frozen?_of_block (w := w) hb).trans (h.f o)⟩
end
def tInt (n : Int) (w : World) (e : Ending) (w' : World) : Prop := e = .returned (.int .i64 n) ∧ Below w.heap.size w w'
theorem tInt_mk {a n : Int} {w w' : World} (h : a = n) (hb : Below w.heap.size w w') : tInt n w (.returned (.int .i64 a)) w' := by subst h; exact ⟨rfl, hb⟩
theorem ba (w : World) (o : Obj) : Below w.heap.size w (w.alloc o) := (Below.refl _ _).alloc (Nat.le_refl _) _
theorem nameS_eq (l : List UInt8) : nameS l = nmB l := name_iff l
/-- IsName of the lexer. -/
theorem isNm_any (s : ByteArray) (w : World) (hs : s.size ≤ 140737488351232) (ht : Tab w) : Calls Tryz.prog 33 #[.string s] w (tBool (!bad s) w) := by
  have := isName_any s w hs ht
  rw [nameS_eq] at this
  unfold bad
  rw [Bool.not_not]
  exact this
theorem isNmR_any (s : ByteArray) (w : World) (hs : s.size ≤ 140737488351232) : Calls Tryz.prog 36 #[.string s] w (tBool (!bad s) w) := by
  have := nameR_any s w hs
  unfold bad
  rw [Bool.not_not]
  exact this
theorem isNo_any (s : ByteArray) (w : World) (hs : s.size ≤ 140737488351232) (ht : Tab w) : Calls Tryz.prog 41 #[.string s] w (tBool (bad s) w) := by
  have NC := Lib.hid (isNm_any s w hs ht)
  generalize bad s = q at *
  cases q
  all_goals
    go_enter Tryz.func41, Tryz.ntmps41
    go_wp2_with (go_at_call 33; ((with_reducible refine NC.out.mono ?_); rintro e w1 ⟨rfl, hb⟩; have HB := Lib.hid hb; clear hb))
    go_ret
    exact ⟨rfl, HB.out⟩
theorem isMode_any (m : Int) (w : World) : Calls Tryz.prog 34 #[.int .i64 m] w fun e w' => e = .returned (.bool (decide (0 ≤ m ∧ m ≤ 2))) ∧ w = w' := by
  by_cases h : 0 ≤ m ∧ m ≤ 2
  · rw [decide_eq_true h]
    obtain rfl | rfl | rfl : m = 0 ∨ m = 1 ∨ m = 2 := by omega
    all_goals
      go_enter Tryz.func34, Tryz.ntmps34
      go_wp2
      go_ret
      exact ⟨rfl, rfl⟩
  · rw [decide_eq_false h]
    have h0 : (m == 0) = false := by rw [beq_eq_false_iff_ne]; omega
    have h1 : (m == 1) = false := by rw [beq_eq_false_iff_ne]; omega
    have h2 : (m == 2) = false := by rw [beq_eq_false_iff_ne]; omega
    clear h
    go_enter Tryz.func34, Tryz.ntmps34
    go_wp2
    go_ret
    exact ⟨rfl, rfl⟩
/-- A field as a value. -/
abbrev fv (nm : ByteArray) (wd sz md ini : Int) : Value := .agg #[.string nm, .int .i64 wd, .int .i64 sz, .int .i64 md, .int .i64 ini]
/-- A block as a value. -/
abbrev bv (nm : ByteArray) (it : Value) : Value := .agg #[.string nm, it]
theorem width_cases {wd : Int} (h : 1 ≤ wd ∧ wd ≤ 8) : wd = 1 ∨ wd = 2 ∨ wd = 3 ∨ wd = 4 ∨ wd = 5 ∨ wd = 6 ∨ wd = 7 ∨ wd = 8 := by omega
set_option maxRecDepth 100000 in
theorem great_any (nm : ByteArray) (wd sz md ini : Int) (w : World) (h : 1 ≤ wd ∧ wd ≤ 8) : Calls Tryz.prog 35 #[fv nm wd sz md ini] w (tInt (maxI ⟨nm, wd, sz, md, ini⟩) w) := by
  have F0 := Blk.new w [.string nm, .int .i64 wd, .int .i64 sz, .int .i64 md, .int .i64 ini] 27
  have c1 := F0.c 1 _ rfl
  have c3 := F0.c 3 _ rfl
  have HB := Lib.hid (ba w (.cells #[.string nm, .int .i64 wd, .int .i64 sz, .int .i64 md, .int .i64 ini] 27))
  clear F0
  by_cases hm : md = 0
  · subst hm
    obtain rfl | rfl | rfl | rfl | rfl | rfl | rfl | rfl := width_cases h
    all_goals
      clear h
      go_enter Tryz.func35, Tryz.ntmps35
      go_wp2
      go_ret
      exact ⟨rfl, HB.out⟩
  · have h0 : (md == 0) = false := by rw [beq_eq_false_iff_ne]; exact hm
    have E : Hid (maxI ⟨nm, wd, sz, md, ini⟩ = 0) := Lib.hid (if_neg hm)
    clear hm
    go_enter Tryz.func35, Tryz.ntmps35
    go_wp2
    go_ret
    exact tInt_mk E.out.symm HB.out
theorem fName_any (nm : ByteArray) (wd sz md ini : Int) (w : World) : Calls Tryz.prog 44 #[fv nm wd sz md ini] w fun e w' => e = .returned (.string nm) ∧ Below w.heap.size w w' := by
  have F0 := Blk.new w [.string nm, .int .i64 wd, .int .i64 sz, .int .i64 md, .int .i64 ini] 27
  have c0 := F0.c 0 _ rfl
  have HB := Lib.hid (ba w (.cells #[.string nm, .int .i64 wd, .int .i64 sz, .int .i64 md, .int .i64 ini] 27))
  clear F0
  go_enter Tryz.func44, Tryz.ntmps44
  go_wp2
  go_ret
  exact ⟨rfl, HB.out⟩
theorem bName_any (nm : ByteArray) (v : Value) (w : World) : Calls Tryz.prog 39 #[bv nm v] w fun e w' => e = .returned (.string nm) ∧ Below w.heap.size w w' := by
  have F0 := Blk.new w [.string nm, v] 54
  have c0 := F0.c 0 _ rfl
  have HB := Lib.hid (ba w (.cells #[.string nm, v] 54))
  clear F0
  go_enter Tryz.func39, Tryz.ntmps39
  go_wp2
  go_ret
  exact ⟨rfl, HB.out⟩
theorem cName_any (nm par : ByteArray) (f b : Value) (w : World) : Calls Tryz.prog 56 #[cv nm par f b] w fun e w' => e = .returned (.string nm) ∧ Below w.heap.size w w' := by
  have F0 := Blk.new w [.string nm, .string par, f, b] 25
  have c0 := F0.c 0 _ rfl
  have HB := Lib.hid (ba w (.cells #[.string nm, .string par, f, b] 25))
  clear F0
  go_enter Tryz.func56, Tryz.ntmps56
  go_wp2
  go_ret
  exact ⟨rfl, HB.out⟩
theorem large_any (nm par : ByteArray) (pf : Option Addr) (kf cf : Nat) (pb : Option Addr) (kb cb : Nat) (w : World) (hf : kf ≤ 140737488351232) (hb : kb ≤ 140737488351232) :
    Calls Tryz.prog 37 #[cv nm par (.slice pf kf cf) (.slice pb kb cb)] w (tBool (decide (16 < kf) || decide (16 < kb)) w) := by
  have F0 := Blk.new w [.string nm, .string par, .slice pf kf cf, .slice pb kb cb] 25
  have c2 := F0.c 2 _ rfl
  have c3 := F0.c 3 _ rfl
  have HB := Lib.hid (ba w (.cells #[.string nm, .string par, .slice pf kf cf, .slice pb kb cb] 25))
  clear F0
  by_cases h : 16 < kf
  · rw [show (decide (16 < kf) || decide (16 < kb)) = true by rw [decide_eq_true h]; rfl]
    go_enter Tryz.func37, Tryz.ntmps37
    go_wp2
    go_ret
    exact ⟨rfl, HB.out⟩
  · by_cases h2 : 16 < kb
    · rw [show (decide (16 < kf) || decide (16 < kb)) = true by rw [decide_eq_true h2, Bool.or_true]]
      have d1 : decide ((16 : Int) < kf) = false := decide_eq_false (by omega)
      have d2 : decide ((16 : Int) < kb) = true := decide_eq_true (by omega)
      go_enter Tryz.func37, Tryz.ntmps37
      go_wp2
      go_ret
      exact ⟨rfl, HB.out⟩
    · rw [show (decide (16 < kf) || decide (16 < kb)) = false by rw [decide_eq_false h, decide_eq_false h2]; rfl]
      have d1 : decide ((16 : Int) < kf) = false := decide_eq_false (by omega)
      have d2 : decide ((16 : Int) < kb) = false := decide_eq_false (by omega)
      go_enter Tryz.func37, Tryz.ntmps37
      go_wp2
      go_ret
      exact ⟨rfl, HB.out⟩
end Go.Proofs.YtoigjeoncdfdmaaGreatDoor.ClW
