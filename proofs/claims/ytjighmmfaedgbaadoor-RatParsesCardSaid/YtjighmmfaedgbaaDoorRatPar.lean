/-
  What package rat's 'Parse' returns.
-/
import Derived.Test.YtjighmmfaedgbaaDoorRatCut
namespace Go.Proofs.YtjighmmfaedgbaaDoor.RatW
open Go Go.RowKit Go.Proofs.YtjighmmfaedgbaaDoor.RatM Go.Proofs.YtjighmmfaedgbaaDoor.NumM

/-- What a text denotes: numerator, denominator, error. -/
def parS (l : List UInt8) : Int × Int × Int :=
  if (parseS (topL l)).2 = 5 ∨ (parseS (botL l)).2 = 5 ∨ Lib.hasPrefix (botL l) [45] = true then (0, 0, 5)
  else if ¬ (parseS (topL l)).2 = 0 ∨ ¬ (parseS (botL l)).2 = 0 then (0, 0, 3)
  else if fmtS (parseS (topL l)).1 (parseS (botL l)).1 = l then ((parseS (topL l)).1, (parseS (botL l)).1, 0) else (0, 0, 5)
theorem parse_i64 (l : List UInt8) : i64 (parseS l).1 := by
  by_cases h : (parseS l).2 = 0
  · exact (PackM.parse_ok h).2
  · rw [PackM.parse_err l h]; unfold i64; omega
structure Tab2 (w : World) : Prop where
  tab : Tab w
  range : ∃ tp p, w.var? Tryd.prog "strconv.ErrRange" = some #[.iface tp p]
theorem gRange : Tryd.prog.globalNamed "strconv.ErrRange" = some 4 := by kernel_rfl
theorem Tab2.later {w w' : World} (h : Tab2 w) (hb : Below w.heap.size w w') : Tab2 w' :=
  ⟨h.tab.later hb, by obtain ⟨tp, p, hr⟩ := h.range; exact ⟨tp, p, var_later gRange hr hb⟩⟩
theorem numParse (s : ByteArray) (n e : Int) (hs : s.size ≤ 140737488351232) (h : parseS s.data.toList = (n, e)) (w : World) (ht : Tab2 w) :
    Calls Tryd.prog 51 #[.string s] w fun E w' => E = .returned (.tuple #[.int .i64 n, .int .i64 e]) ∧ Below w.heap.size w w' := by
  obtain ⟨tp, p, hr⟩ := ht.range
  have q := PackW.parseCode_any s w hs tp p hr
  unfold PackW.parsed at q
  rw [h] at q
  exact q
set_option maxRecDepth 100000 in
set_option maxHeartbeats 8000000 in
theorem parse_1y (s t u : ByteArray) (n d g : Int) (hp : Bool) (w : World)
    (CC : ∀ w, Calls Tryd.prog 50 #[.string s, .string ⟨#[47]⟩] w fun E w' => E = .returned (.tuple #[.string t, .string u, .bool true]) ∧ Below w.heap.size w w')
    (CT : ∀ w, Tab2 w → Calls Tryd.prog 51 #[.string t] w fun E w' => E = .returned (.tuple #[.int .i64 n, .int .i64 5]) ∧ Below w.heap.size w w')
    (CB : ∀ w, Tab2 w → Calls Tryd.prog 51 #[.string u] w fun E w' => E = .returned (.tuple #[.int .i64 d, .int .i64 g]) ∧ Below w.heap.size w w')
    (CP : ∀ w, Calls Tryd.prog 52 #[.string u, .string ⟨#[45]⟩] w fun E w' => E = .returned (.bool hp) ∧ w' = w)
    (ht : Tab2 w) :
    Calls Tryd.prog 32 #[.string s] w (tRes w (0, 0, 5)) := by
  have CC := Lib.hid CC
  have CT := Lib.hid CT
  have CB := Lib.hid CB
  have CP := Lib.hid CP
  have HT := Lib.hid ht
  clear ht
  go_enter Tryd.func32, Tryd.ntmps32
  go_wp2_with (first
    | (go_at_call 50; ((with_reducible refine (CC.out _).mono ?_); rintro E w1 ⟨rfl, hb1⟩; have T2 := Lib.hid (two_new hb1); have B1 := Lib.hid (below_new hb1); clear hb1))
    | (go_at_call 51; ((with_reducible refine (CT.out _ (HT.out.later B1.out)).mono ?_); rintro E w2 ⟨rfl, hb2⟩; have T2 := Lib.hid (T2.out.stay hb2); have B2 := Lib.hid (Below.then_ B1.out hb2); clear hb2))
    | (go_at_call 51; ((with_reducible refine (CB.out _ (HT.out.later B2.out)).mono ?_); rintro E w3 ⟨rfl, hb3⟩; have T2 := Lib.hid (T2.out.stay hb3); have B3 := Lib.hid (Below.then_ B2.out hb3); have c0 := T2.out.c0; have c1 := T2.out.c1; have f0 := T2.out.f0; have f1 := T2.out.f1; have lt := T2.out.lt; clear hb3))
    | (go_at_call 52; ((with_reducible refine (CP.out _).mono ?_); rintro E w' ⟨rfl, rfl⟩)))
  refine bodyPost_ret (v := .tuple #[.agg #[.int .i64 0, .int .i64 0], .int .i64 5]) (by simp [results, Tryd.results32, go_sem, c0, c1]) rfl ?_
  exact ⟨rfl, (B3.out.setCell (Nat.le_refl _) _).setCell (Nat.le_refl _) _⟩
set_option maxRecDepth 100000 in
set_option maxHeartbeats 8000000 in
theorem parse_1n (s t v : ByteArray) (n d g : Int) (hp : Bool) (w : World)
    (CC : ∀ w, Calls Tryd.prog 50 #[.string s, .string ⟨#[47]⟩] w fun E w' => E = .returned (.tuple #[.string t, .string v, .bool false]) ∧ Below w.heap.size w w')
    (CT : ∀ w, Tab2 w → Calls Tryd.prog 51 #[.string t] w fun E w' => E = .returned (.tuple #[.int .i64 n, .int .i64 5]) ∧ Below w.heap.size w w')
    (CB : ∀ w, Tab2 w → Calls Tryd.prog 51 #[.string ⟨#[49]⟩] w fun E w' => E = .returned (.tuple #[.int .i64 d, .int .i64 g]) ∧ Below w.heap.size w w')
    (CP : ∀ w, Calls Tryd.prog 52 #[.string ⟨#[49]⟩, .string ⟨#[45]⟩] w fun E w' => E = .returned (.bool hp) ∧ w' = w)
    (ht : Tab2 w)  :
    Calls Tryd.prog 32 #[.string s] w (tRes w (0, 0, 5)) := by
  have CC := Lib.hid CC
  have CT := Lib.hid CT
  have CB := Lib.hid CB
  have CP := Lib.hid CP
  have HT := Lib.hid ht
  clear ht
  go_enter Tryd.func32, Tryd.ntmps32
  go_wp2_with (first
    | (go_at_call 50; ((with_reducible refine (CC.out _).mono ?_); rintro E w1 ⟨rfl, hb1⟩; have T2 := Lib.hid (two_new hb1); have B1 := Lib.hid (below_new hb1); clear hb1))
    | (go_at_call 51; ((with_reducible refine (CT.out _ (HT.out.later B1.out)).mono ?_); rintro E w2 ⟨rfl, hb2⟩; have T2 := Lib.hid (T2.out.stay hb2); have B2 := Lib.hid (Below.then_ B1.out hb2); clear hb2))
    | (go_at_call 51; ((with_reducible refine (CB.out _ (HT.out.later B2.out)).mono ?_); rintro E w3 ⟨rfl, hb3⟩; have T2 := Lib.hid (T2.out.stay hb3); have B3 := Lib.hid (Below.then_ B2.out hb3); have c0 := T2.out.c0; have c1 := T2.out.c1; have f0 := T2.out.f0; have f1 := T2.out.f1; have lt := T2.out.lt; clear hb3))
    | (go_at_call 52; ((with_reducible refine (CP.out _).mono ?_); rintro E w' ⟨rfl, rfl⟩)))
  refine bodyPost_ret (v := .tuple #[.agg #[.int .i64 0, .int .i64 0], .int .i64 5]) (by simp [results, Tryd.results32, go_sem, c0, c1]) rfl ?_
  exact ⟨rfl, (B3.out.setCell (Nat.le_refl _) _).setCell (Nat.le_refl _) _⟩
set_option maxRecDepth 100000 in
set_option maxHeartbeats 8000000 in
theorem parse_2y (s t u : ByteArray) (n e d : Int) (hp : Bool) (w : World)
    (CC : ∀ w, Calls Tryd.prog 50 #[.string s, .string ⟨#[47]⟩] w fun E w' => E = .returned (.tuple #[.string t, .string u, .bool true]) ∧ Below w.heap.size w w')
    (CT : ∀ w, Tab2 w → Calls Tryd.prog 51 #[.string t] w fun E w' => E = .returned (.tuple #[.int .i64 n, .int .i64 e]) ∧ Below w.heap.size w w')
    (CB : ∀ w, Tab2 w → Calls Tryd.prog 51 #[.string u] w fun E w' => E = .returned (.tuple #[.int .i64 d, .int .i64 5]) ∧ Below w.heap.size w w')
    (CP : ∀ w, Calls Tryd.prog 52 #[.string u, .string ⟨#[45]⟩] w fun E w' => E = .returned (.bool hp) ∧ w' = w)
    (ht : Tab2 w) (he : ¬ e = 5) :
    Calls Tryd.prog 32 #[.string s] w (tRes w (0, 0, 5)) := by
  have he2 : (e == 5) = false := by simp [he]
  have CC := Lib.hid CC
  have CT := Lib.hid CT
  have CB := Lib.hid CB
  have CP := Lib.hid CP
  have HT := Lib.hid ht
  clear ht
  go_enter Tryd.func32, Tryd.ntmps32
  go_wp2_with (first
    | (go_at_call 50; ((with_reducible refine (CC.out _).mono ?_); rintro E w1 ⟨rfl, hb1⟩; have T2 := Lib.hid (two_new hb1); have B1 := Lib.hid (below_new hb1); clear hb1))
    | (go_at_call 51; ((with_reducible refine (CT.out _ (HT.out.later B1.out)).mono ?_); rintro E w2 ⟨rfl, hb2⟩; have T2 := Lib.hid (T2.out.stay hb2); have B2 := Lib.hid (Below.then_ B1.out hb2); clear hb2))
    | (go_at_call 51; ((with_reducible refine (CB.out _ (HT.out.later B2.out)).mono ?_); rintro E w3 ⟨rfl, hb3⟩; have T2 := Lib.hid (T2.out.stay hb3); have B3 := Lib.hid (Below.then_ B2.out hb3); have c0 := T2.out.c0; have c1 := T2.out.c1; have f0 := T2.out.f0; have f1 := T2.out.f1; have lt := T2.out.lt; clear hb3))
    | (go_at_call 52; ((with_reducible refine (CP.out _).mono ?_); rintro E w' ⟨rfl, rfl⟩)))
  refine bodyPost_ret (v := .tuple #[.agg #[.int .i64 0, .int .i64 0], .int .i64 5]) (by simp [results, Tryd.results32, go_sem, c0, c1]) rfl ?_
  exact ⟨rfl, (B3.out.setCell (Nat.le_refl _) _).setCell (Nat.le_refl _) _⟩
set_option maxRecDepth 100000 in
set_option maxHeartbeats 8000000 in
theorem parse_2n (s t v : ByteArray) (n e d : Int) (hp : Bool) (w : World)
    (CC : ∀ w, Calls Tryd.prog 50 #[.string s, .string ⟨#[47]⟩] w fun E w' => E = .returned (.tuple #[.string t, .string v, .bool false]) ∧ Below w.heap.size w w')
    (CT : ∀ w, Tab2 w → Calls Tryd.prog 51 #[.string t] w fun E w' => E = .returned (.tuple #[.int .i64 n, .int .i64 e]) ∧ Below w.heap.size w w')
    (CB : ∀ w, Tab2 w → Calls Tryd.prog 51 #[.string ⟨#[49]⟩] w fun E w' => E = .returned (.tuple #[.int .i64 d, .int .i64 5]) ∧ Below w.heap.size w w')
    (CP : ∀ w, Calls Tryd.prog 52 #[.string ⟨#[49]⟩, .string ⟨#[45]⟩] w fun E w' => E = .returned (.bool hp) ∧ w' = w)
    (ht : Tab2 w)  (he : ¬ e = 5) :
    Calls Tryd.prog 32 #[.string s] w (tRes w (0, 0, 5)) := by
  have he2 : (e == 5) = false := by simp [he]
  have CC := Lib.hid CC
  have CT := Lib.hid CT
  have CB := Lib.hid CB
  have CP := Lib.hid CP
  have HT := Lib.hid ht
  clear ht
  go_enter Tryd.func32, Tryd.ntmps32
  go_wp2_with (first
    | (go_at_call 50; ((with_reducible refine (CC.out _).mono ?_); rintro E w1 ⟨rfl, hb1⟩; have T2 := Lib.hid (two_new hb1); have B1 := Lib.hid (below_new hb1); clear hb1))
    | (go_at_call 51; ((with_reducible refine (CT.out _ (HT.out.later B1.out)).mono ?_); rintro E w2 ⟨rfl, hb2⟩; have T2 := Lib.hid (T2.out.stay hb2); have B2 := Lib.hid (Below.then_ B1.out hb2); clear hb2))
    | (go_at_call 51; ((with_reducible refine (CB.out _ (HT.out.later B2.out)).mono ?_); rintro E w3 ⟨rfl, hb3⟩; have T2 := Lib.hid (T2.out.stay hb3); have B3 := Lib.hid (Below.then_ B2.out hb3); have c0 := T2.out.c0; have c1 := T2.out.c1; have f0 := T2.out.f0; have f1 := T2.out.f1; have lt := T2.out.lt; clear hb3))
    | (go_at_call 52; ((with_reducible refine (CP.out _).mono ?_); rintro E w' ⟨rfl, rfl⟩)))
  refine bodyPost_ret (v := .tuple #[.agg #[.int .i64 0, .int .i64 0], .int .i64 5]) (by simp [results, Tryd.results32, go_sem, c0, c1]) rfl ?_
  exact ⟨rfl, (B3.out.setCell (Nat.le_refl _) _).setCell (Nat.le_refl _) _⟩
set_option maxRecDepth 100000 in
set_option maxHeartbeats 8000000 in
theorem parse_3y (s t u : ByteArray) (n e d g : Int) (w : World)
    (CC : ∀ w, Calls Tryd.prog 50 #[.string s, .string ⟨#[47]⟩] w fun E w' => E = .returned (.tuple #[.string t, .string u, .bool true]) ∧ Below w.heap.size w w')
    (CT : ∀ w, Tab2 w → Calls Tryd.prog 51 #[.string t] w fun E w' => E = .returned (.tuple #[.int .i64 n, .int .i64 e]) ∧ Below w.heap.size w w')
    (CB : ∀ w, Tab2 w → Calls Tryd.prog 51 #[.string u] w fun E w' => E = .returned (.tuple #[.int .i64 d, .int .i64 g]) ∧ Below w.heap.size w w')
    (CP : ∀ w, Calls Tryd.prog 52 #[.string u, .string ⟨#[45]⟩] w fun E w' => E = .returned (.bool true) ∧ w' = w)
    (ht : Tab2 w) (he : ¬ e = 5) (hg : ¬ g = 5) :
    Calls Tryd.prog 32 #[.string s] w (tRes w (0, 0, 5)) := by
  have he2 : (e == 5) = false := by simp [he]
  have hg2 : (g == 5) = false := by simp [hg]
  have CC := Lib.hid CC
  have CT := Lib.hid CT
  have CB := Lib.hid CB
  have CP := Lib.hid CP
  have HT := Lib.hid ht
  clear ht
  go_enter Tryd.func32, Tryd.ntmps32
  go_wp2_with (first
    | (go_at_call 50; ((with_reducible refine (CC.out _).mono ?_); rintro E w1 ⟨rfl, hb1⟩; have T2 := Lib.hid (two_new hb1); have B1 := Lib.hid (below_new hb1); clear hb1))
    | (go_at_call 51; ((with_reducible refine (CT.out _ (HT.out.later B1.out)).mono ?_); rintro E w2 ⟨rfl, hb2⟩; have T2 := Lib.hid (T2.out.stay hb2); have B2 := Lib.hid (Below.then_ B1.out hb2); clear hb2))
    | (go_at_call 51; ((with_reducible refine (CB.out _ (HT.out.later B2.out)).mono ?_); rintro E w3 ⟨rfl, hb3⟩; have T2 := Lib.hid (T2.out.stay hb3); have B3 := Lib.hid (Below.then_ B2.out hb3); have c0 := T2.out.c0; have c1 := T2.out.c1; have f0 := T2.out.f0; have f1 := T2.out.f1; have lt := T2.out.lt; clear hb3))
    | (go_at_call 52; ((with_reducible refine (CP.out _).mono ?_); rintro E w' ⟨rfl, rfl⟩)))
  refine bodyPost_ret (v := .tuple #[.agg #[.int .i64 0, .int .i64 0], .int .i64 5]) (by simp [results, Tryd.results32, go_sem, c0, c1]) rfl ?_
  exact ⟨rfl, (B3.out.setCell (Nat.le_refl _) _).setCell (Nat.le_refl _) _⟩
set_option maxRecDepth 100000 in
set_option maxHeartbeats 8000000 in
theorem parse_3n (s t v : ByteArray) (n e d g : Int) (w : World)
    (CC : ∀ w, Calls Tryd.prog 50 #[.string s, .string ⟨#[47]⟩] w fun E w' => E = .returned (.tuple #[.string t, .string v, .bool false]) ∧ Below w.heap.size w w')
    (CT : ∀ w, Tab2 w → Calls Tryd.prog 51 #[.string t] w fun E w' => E = .returned (.tuple #[.int .i64 n, .int .i64 e]) ∧ Below w.heap.size w w')
    (CB : ∀ w, Tab2 w → Calls Tryd.prog 51 #[.string ⟨#[49]⟩] w fun E w' => E = .returned (.tuple #[.int .i64 d, .int .i64 g]) ∧ Below w.heap.size w w')
    (CP : ∀ w, Calls Tryd.prog 52 #[.string ⟨#[49]⟩, .string ⟨#[45]⟩] w fun E w' => E = .returned (.bool true) ∧ w' = w)
    (ht : Tab2 w)  (he : ¬ e = 5) (hg : ¬ g = 5) :
    Calls Tryd.prog 32 #[.string s] w (tRes w (0, 0, 5)) := by
  have he2 : (e == 5) = false := by simp [he]
  have hg2 : (g == 5) = false := by simp [hg]
  have CC := Lib.hid CC
  have CT := Lib.hid CT
  have CB := Lib.hid CB
  have CP := Lib.hid CP
  have HT := Lib.hid ht
  clear ht
  go_enter Tryd.func32, Tryd.ntmps32
  go_wp2_with (first
    | (go_at_call 50; ((with_reducible refine (CC.out _).mono ?_); rintro E w1 ⟨rfl, hb1⟩; have T2 := Lib.hid (two_new hb1); have B1 := Lib.hid (below_new hb1); clear hb1))
    | (go_at_call 51; ((with_reducible refine (CT.out _ (HT.out.later B1.out)).mono ?_); rintro E w2 ⟨rfl, hb2⟩; have T2 := Lib.hid (T2.out.stay hb2); have B2 := Lib.hid (Below.then_ B1.out hb2); clear hb2))
    | (go_at_call 51; ((with_reducible refine (CB.out _ (HT.out.later B2.out)).mono ?_); rintro E w3 ⟨rfl, hb3⟩; have T2 := Lib.hid (T2.out.stay hb3); have B3 := Lib.hid (Below.then_ B2.out hb3); have c0 := T2.out.c0; have c1 := T2.out.c1; have f0 := T2.out.f0; have f1 := T2.out.f1; have lt := T2.out.lt; clear hb3))
    | (go_at_call 52; ((with_reducible refine (CP.out _).mono ?_); rintro E w' ⟨rfl, rfl⟩)))
  refine bodyPost_ret (v := .tuple #[.agg #[.int .i64 0, .int .i64 0], .int .i64 5]) (by simp [results, Tryd.results32, go_sem, c0, c1]) rfl ?_
  exact ⟨rfl, (B3.out.setCell (Nat.le_refl _) _).setCell (Nat.le_refl _) _⟩
set_option maxRecDepth 100000 in
set_option maxHeartbeats 8000000 in
theorem parse_4y (s t u : ByteArray) (n e d g : Int) (w : World)
    (CC : ∀ w, Calls Tryd.prog 50 #[.string s, .string ⟨#[47]⟩] w fun E w' => E = .returned (.tuple #[.string t, .string u, .bool true]) ∧ Below w.heap.size w w')
    (CT : ∀ w, Tab2 w → Calls Tryd.prog 51 #[.string t] w fun E w' => E = .returned (.tuple #[.int .i64 n, .int .i64 e]) ∧ Below w.heap.size w w')
    (CB : ∀ w, Tab2 w → Calls Tryd.prog 51 #[.string u] w fun E w' => E = .returned (.tuple #[.int .i64 d, .int .i64 g]) ∧ Below w.heap.size w w')
    (CP : ∀ w, Calls Tryd.prog 52 #[.string u, .string ⟨#[45]⟩] w fun E w' => E = .returned (.bool false) ∧ w' = w)
    (ht : Tab2 w) (he : ¬ e = 5) (hg : ¬ g = 5) (hz : ¬ e = 0) :
    Calls Tryd.prog 32 #[.string s] w (tRes w (0, 0, 3)) := by
  have he2 : (e == 5) = false := by simp [he]
  have hg2 : (g == 5) = false := by simp [hg]
  have hz2 : (e != 0) = true := by simp [hz]
  have CC := Lib.hid CC
  have CT := Lib.hid CT
  have CB := Lib.hid CB
  have CP := Lib.hid CP
  have HT := Lib.hid ht
  clear ht
  go_enter Tryd.func32, Tryd.ntmps32
  go_wp2_with (first
    | (go_at_call 50; ((with_reducible refine (CC.out _).mono ?_); rintro E w1 ⟨rfl, hb1⟩; have T2 := Lib.hid (two_new hb1); have B1 := Lib.hid (below_new hb1); clear hb1))
    | (go_at_call 51; ((with_reducible refine (CT.out _ (HT.out.later B1.out)).mono ?_); rintro E w2 ⟨rfl, hb2⟩; have T2 := Lib.hid (T2.out.stay hb2); have B2 := Lib.hid (Below.then_ B1.out hb2); clear hb2))
    | (go_at_call 51; ((with_reducible refine (CB.out _ (HT.out.later B2.out)).mono ?_); rintro E w3 ⟨rfl, hb3⟩; have T2 := Lib.hid (T2.out.stay hb3); have B3 := Lib.hid (Below.then_ B2.out hb3); have c0 := T2.out.c0; have c1 := T2.out.c1; have f0 := T2.out.f0; have f1 := T2.out.f1; have lt := T2.out.lt; clear hb3))
    | (go_at_call 52; ((with_reducible refine (CP.out _).mono ?_); rintro E w' ⟨rfl, rfl⟩)))
  refine bodyPost_ret (v := .tuple #[.agg #[.int .i64 0, .int .i64 0], .int .i64 3]) (by simp [results, Tryd.results32, go_sem, c0, c1]) rfl ?_
  exact ⟨rfl, (B3.out.setCell (Nat.le_refl _) _).setCell (Nat.le_refl _) _⟩
set_option maxRecDepth 100000 in
set_option maxHeartbeats 8000000 in
theorem parse_4n (s t v : ByteArray) (n e d g : Int) (w : World)
    (CC : ∀ w, Calls Tryd.prog 50 #[.string s, .string ⟨#[47]⟩] w fun E w' => E = .returned (.tuple #[.string t, .string v, .bool false]) ∧ Below w.heap.size w w')
    (CT : ∀ w, Tab2 w → Calls Tryd.prog 51 #[.string t] w fun E w' => E = .returned (.tuple #[.int .i64 n, .int .i64 e]) ∧ Below w.heap.size w w')
    (CB : ∀ w, Tab2 w → Calls Tryd.prog 51 #[.string ⟨#[49]⟩] w fun E w' => E = .returned (.tuple #[.int .i64 d, .int .i64 g]) ∧ Below w.heap.size w w')
    (CP : ∀ w, Calls Tryd.prog 52 #[.string ⟨#[49]⟩, .string ⟨#[45]⟩] w fun E w' => E = .returned (.bool false) ∧ w' = w)
    (ht : Tab2 w)  (he : ¬ e = 5) (hg : ¬ g = 5) (hz : ¬ e = 0) :
    Calls Tryd.prog 32 #[.string s] w (tRes w (0, 0, 3)) := by
  have he2 : (e == 5) = false := by simp [he]
  have hg2 : (g == 5) = false := by simp [hg]
  have hz2 : (e != 0) = true := by simp [hz]
  have CC := Lib.hid CC
  have CT := Lib.hid CT
  have CB := Lib.hid CB
  have CP := Lib.hid CP
  have HT := Lib.hid ht
  clear ht
  go_enter Tryd.func32, Tryd.ntmps32
  go_wp2_with (first
    | (go_at_call 50; ((with_reducible refine (CC.out _).mono ?_); rintro E w1 ⟨rfl, hb1⟩; have T2 := Lib.hid (two_new hb1); have B1 := Lib.hid (below_new hb1); clear hb1))
    | (go_at_call 51; ((with_reducible refine (CT.out _ (HT.out.later B1.out)).mono ?_); rintro E w2 ⟨rfl, hb2⟩; have T2 := Lib.hid (T2.out.stay hb2); have B2 := Lib.hid (Below.then_ B1.out hb2); clear hb2))
    | (go_at_call 51; ((with_reducible refine (CB.out _ (HT.out.later B2.out)).mono ?_); rintro E w3 ⟨rfl, hb3⟩; have T2 := Lib.hid (T2.out.stay hb3); have B3 := Lib.hid (Below.then_ B2.out hb3); have c0 := T2.out.c0; have c1 := T2.out.c1; have f0 := T2.out.f0; have f1 := T2.out.f1; have lt := T2.out.lt; clear hb3))
    | (go_at_call 52; ((with_reducible refine (CP.out _).mono ?_); rintro E w' ⟨rfl, rfl⟩)))
  refine bodyPost_ret (v := .tuple #[.agg #[.int .i64 0, .int .i64 0], .int .i64 3]) (by simp [results, Tryd.results32, go_sem, c0, c1]) rfl ?_
  exact ⟨rfl, (B3.out.setCell (Nat.le_refl _) _).setCell (Nat.le_refl _) _⟩
set_option maxRecDepth 100000 in
set_option maxHeartbeats 8000000 in
theorem parse_5y (s t u : ByteArray) (n d g : Int) (w : World)
    (CC : ∀ w, Calls Tryd.prog 50 #[.string s, .string ⟨#[47]⟩] w fun E w' => E = .returned (.tuple #[.string t, .string u, .bool true]) ∧ Below w.heap.size w w')
    (CT : ∀ w, Tab2 w → Calls Tryd.prog 51 #[.string t] w fun E w' => E = .returned (.tuple #[.int .i64 n, .int .i64 0]) ∧ Below w.heap.size w w')
    (CB : ∀ w, Tab2 w → Calls Tryd.prog 51 #[.string u] w fun E w' => E = .returned (.tuple #[.int .i64 d, .int .i64 g]) ∧ Below w.heap.size w w')
    (CP : ∀ w, Calls Tryd.prog 52 #[.string u, .string ⟨#[45]⟩] w fun E w' => E = .returned (.bool false) ∧ w' = w)
    (ht : Tab2 w) (hg : ¬ g = 5) (hz : ¬ g = 0) :
    Calls Tryd.prog 32 #[.string s] w (tRes w (0, 0, 3)) := by
  have hg2 : (g == 5) = false := by simp [hg]
  have hz2 : (g != 0) = true := by simp [hz]
  have CC := Lib.hid CC
  have CT := Lib.hid CT
  have CB := Lib.hid CB
  have CP := Lib.hid CP
  have HT := Lib.hid ht
  clear ht
  go_enter Tryd.func32, Tryd.ntmps32
  go_wp2_with (first
    | (go_at_call 50; ((with_reducible refine (CC.out _).mono ?_); rintro E w1 ⟨rfl, hb1⟩; have T2 := Lib.hid (two_new hb1); have B1 := Lib.hid (below_new hb1); clear hb1))
    | (go_at_call 51; ((with_reducible refine (CT.out _ (HT.out.later B1.out)).mono ?_); rintro E w2 ⟨rfl, hb2⟩; have T2 := Lib.hid (T2.out.stay hb2); have B2 := Lib.hid (Below.then_ B1.out hb2); clear hb2))
    | (go_at_call 51; ((with_reducible refine (CB.out _ (HT.out.later B2.out)).mono ?_); rintro E w3 ⟨rfl, hb3⟩; have T2 := Lib.hid (T2.out.stay hb3); have B3 := Lib.hid (Below.then_ B2.out hb3); have c0 := T2.out.c0; have c1 := T2.out.c1; have f0 := T2.out.f0; have f1 := T2.out.f1; have lt := T2.out.lt; clear hb3))
    | (go_at_call 52; ((with_reducible refine (CP.out _).mono ?_); rintro E w' ⟨rfl, rfl⟩)))
  refine bodyPost_ret (v := .tuple #[.agg #[.int .i64 0, .int .i64 0], .int .i64 3]) (by simp [results, Tryd.results32, go_sem, c0, c1]) rfl ?_
  exact ⟨rfl, (B3.out.setCell (Nat.le_refl _) _).setCell (Nat.le_refl _) _⟩
set_option maxRecDepth 100000 in
set_option maxHeartbeats 8000000 in
theorem parse_5n (s t v : ByteArray) (n d g : Int) (w : World)
    (CC : ∀ w, Calls Tryd.prog 50 #[.string s, .string ⟨#[47]⟩] w fun E w' => E = .returned (.tuple #[.string t, .string v, .bool false]) ∧ Below w.heap.size w w')
    (CT : ∀ w, Tab2 w → Calls Tryd.prog 51 #[.string t] w fun E w' => E = .returned (.tuple #[.int .i64 n, .int .i64 0]) ∧ Below w.heap.size w w')
    (CB : ∀ w, Tab2 w → Calls Tryd.prog 51 #[.string ⟨#[49]⟩] w fun E w' => E = .returned (.tuple #[.int .i64 d, .int .i64 g]) ∧ Below w.heap.size w w')
    (CP : ∀ w, Calls Tryd.prog 52 #[.string ⟨#[49]⟩, .string ⟨#[45]⟩] w fun E w' => E = .returned (.bool false) ∧ w' = w)
    (ht : Tab2 w)  (hg : ¬ g = 5) (hz : ¬ g = 0) :
    Calls Tryd.prog 32 #[.string s] w (tRes w (0, 0, 3)) := by
  have hg2 : (g == 5) = false := by simp [hg]
  have hz2 : (g != 0) = true := by simp [hz]
  have CC := Lib.hid CC
  have CT := Lib.hid CT
  have CB := Lib.hid CB
  have CP := Lib.hid CP
  have HT := Lib.hid ht
  clear ht
  go_enter Tryd.func32, Tryd.ntmps32
  go_wp2_with (first
    | (go_at_call 50; ((with_reducible refine (CC.out _).mono ?_); rintro E w1 ⟨rfl, hb1⟩; have T2 := Lib.hid (two_new hb1); have B1 := Lib.hid (below_new hb1); clear hb1))
    | (go_at_call 51; ((with_reducible refine (CT.out _ (HT.out.later B1.out)).mono ?_); rintro E w2 ⟨rfl, hb2⟩; have T2 := Lib.hid (T2.out.stay hb2); have B2 := Lib.hid (Below.then_ B1.out hb2); clear hb2))
    | (go_at_call 51; ((with_reducible refine (CB.out _ (HT.out.later B2.out)).mono ?_); rintro E w3 ⟨rfl, hb3⟩; have T2 := Lib.hid (T2.out.stay hb3); have B3 := Lib.hid (Below.then_ B2.out hb3); have c0 := T2.out.c0; have c1 := T2.out.c1; have f0 := T2.out.f0; have f1 := T2.out.f1; have lt := T2.out.lt; clear hb3))
    | (go_at_call 52; ((with_reducible refine (CP.out _).mono ?_); rintro E w' ⟨rfl, rfl⟩)))
  refine bodyPost_ret (v := .tuple #[.agg #[.int .i64 0, .int .i64 0], .int .i64 3]) (by simp [results, Tryd.results32, go_sem, c0, c1]) rfl ?_
  exact ⟨rfl, (B3.out.setCell (Nat.le_refl _) _).setCell (Nat.le_refl _) _⟩
set_option maxRecDepth 100000 in
set_option maxHeartbeats 8000000 in
theorem parse_6y (s t u : ByteArray) (n d : Int) (w : World) (hn : i64 n) (hd : i64 d)
    (CC : ∀ w, Calls Tryd.prog 50 #[.string s, .string ⟨#[47]⟩] w fun E w' => E = .returned (.tuple #[.string t, .string u, .bool true]) ∧ Below w.heap.size w w')
    (CT : ∀ w, Tab2 w → Calls Tryd.prog 51 #[.string t] w fun E w' => E = .returned (.tuple #[.int .i64 n, .int .i64 0]) ∧ Below w.heap.size w w')
    (CB : ∀ w, Tab2 w → Calls Tryd.prog 51 #[.string u] w fun E w' => E = .returned (.tuple #[.int .i64 d, .int .i64 0]) ∧ Below w.heap.size w w')
    (CP : ∀ w, Calls Tryd.prog 52 #[.string u, .string ⟨#[45]⟩] w fun E w' => E = .returned (.bool false) ∧ w' = w)
    (ht : Tab2 w) (hf : fmtS n d = s.data.toList) :
    Calls Tryd.prog 32 #[.string s] w (tRes w (n, d, 0)) := by
  have CC := Lib.hid CC
  have CT := Lib.hid CT
  have CB := Lib.hid CB
  have CP := Lib.hid CP
  have HT := Lib.hid ht
  clear ht
  obtain ⟨F, hF⟩ : ∃ F, bs (fmtS n d) = F := ⟨_, rfl⟩
  have FM : ∀ w, Tab w → Calls Tryd.prog 30 #[rv n d] w fun E w' => E = .returned (.string F) ∧ Below w.heap.size w w' := fun w h => by
    have q := formatCode n d w hn.1 hn.2 hd.1 hd.2 h
    unfold tStr at q
    rw [hF] at q
    exact q
  have FM := Lib.hid FM
  have hb : (F.toList == s.toList) = true := by
    rw [← hF, Lib.toList_data, Lib.toList_data]
    simpa using hf
  clear hf hF
  go_enter Tryd.func32, Tryd.ntmps32
  go_wp2_with (first
    | (go_at_call 50; ((with_reducible refine (CC.out _).mono ?_); rintro E w1 ⟨rfl, hb1⟩; have T2 := Lib.hid (two_new hb1); have B1 := Lib.hid (below_new hb1); clear hb1))
    | (go_at_call 51; ((with_reducible refine (CT.out _ (HT.out.later B1.out)).mono ?_); rintro E w2 ⟨rfl, hb2⟩; have T2 := Lib.hid (T2.out.stay hb2); have B2 := Lib.hid (Below.then_ B1.out hb2); clear hb2))
    | (go_at_call 51; ((with_reducible refine (CB.out _ (HT.out.later B2.out)).mono ?_); rintro E w3 ⟨rfl, hb3⟩; have T2 := Lib.hid (T2.out.stay hb3); have B3 := Lib.hid (Below.then_ B2.out hb3); have c0 := T2.out.c0; have c1 := T2.out.c1; have f0 := T2.out.f0; have f1 := T2.out.f1; have lt := T2.out.lt; clear hb3))
    | (go_at_call 52; ((with_reducible refine (CP.out _).mono ?_); rintro E w' ⟨rfl, rfl⟩))
    | (go_at_call 30; ((with_reducible refine (FM.out _ ((HT.out.later B3.out).tab.later ((Below.refl _ _).alloc (Nat.le_refl _) _))).mono ?_); rintro E w4 ⟨rfl, hb4⟩; have T2 := Lib.hid ((T2.out.alloc _).stay hb4); have T11 := Lib.hid (two_new hb4); have B4 := Lib.hid (Below.then_ B3.out (below_new hb4)); clear c0 c1 f0 f1 lt; have c0 := T2.out.c0; have c1 := T2.out.c1; have f0 := T2.out.f0; have f1 := T2.out.f1; have lt := T2.out.lt; have k0 := T11.out.c0; have k1 := T11.out.c1; clear hb4)))
  refine bodyPost_ret (v := .tuple #[.agg #[.int .i64 n, .int .i64 d], .int .i64 0]) (by simp [results, Tryd.results32, go_sem, c0, c1]) rfl ?_
  exact ⟨rfl, (B4.out.setCell (Nat.le_refl _) _).setCell (Nat.le_refl _) _⟩
set_option maxRecDepth 100000 in
set_option maxHeartbeats 8000000 in
theorem parse_6n (s t v : ByteArray) (n d : Int) (w : World) (hn : i64 n) (hd : i64 d)
    (CC : ∀ w, Calls Tryd.prog 50 #[.string s, .string ⟨#[47]⟩] w fun E w' => E = .returned (.tuple #[.string t, .string v, .bool false]) ∧ Below w.heap.size w w')
    (CT : ∀ w, Tab2 w → Calls Tryd.prog 51 #[.string t] w fun E w' => E = .returned (.tuple #[.int .i64 n, .int .i64 0]) ∧ Below w.heap.size w w')
    (CB : ∀ w, Tab2 w → Calls Tryd.prog 51 #[.string ⟨#[49]⟩] w fun E w' => E = .returned (.tuple #[.int .i64 d, .int .i64 0]) ∧ Below w.heap.size w w')
    (CP : ∀ w, Calls Tryd.prog 52 #[.string ⟨#[49]⟩, .string ⟨#[45]⟩] w fun E w' => E = .returned (.bool false) ∧ w' = w)
    (ht : Tab2 w)  (hf : fmtS n d = s.data.toList) :
    Calls Tryd.prog 32 #[.string s] w (tRes w (n, d, 0)) := by
  have CC := Lib.hid CC
  have CT := Lib.hid CT
  have CB := Lib.hid CB
  have CP := Lib.hid CP
  have HT := Lib.hid ht
  clear ht
  obtain ⟨F, hF⟩ : ∃ F, bs (fmtS n d) = F := ⟨_, rfl⟩
  have FM : ∀ w, Tab w → Calls Tryd.prog 30 #[rv n d] w fun E w' => E = .returned (.string F) ∧ Below w.heap.size w w' := fun w h => by
    have q := formatCode n d w hn.1 hn.2 hd.1 hd.2 h
    unfold tStr at q
    rw [hF] at q
    exact q
  have FM := Lib.hid FM
  have hb : (F.toList == s.toList) = true := by
    rw [← hF, Lib.toList_data, Lib.toList_data]
    simpa using hf
  clear hf hF
  go_enter Tryd.func32, Tryd.ntmps32
  go_wp2_with (first
    | (go_at_call 50; ((with_reducible refine (CC.out _).mono ?_); rintro E w1 ⟨rfl, hb1⟩; have T2 := Lib.hid (two_new hb1); have B1 := Lib.hid (below_new hb1); clear hb1))
    | (go_at_call 51; ((with_reducible refine (CT.out _ (HT.out.later B1.out)).mono ?_); rintro E w2 ⟨rfl, hb2⟩; have T2 := Lib.hid (T2.out.stay hb2); have B2 := Lib.hid (Below.then_ B1.out hb2); clear hb2))
    | (go_at_call 51; ((with_reducible refine (CB.out _ (HT.out.later B2.out)).mono ?_); rintro E w3 ⟨rfl, hb3⟩; have T2 := Lib.hid (T2.out.stay hb3); have B3 := Lib.hid (Below.then_ B2.out hb3); have c0 := T2.out.c0; have c1 := T2.out.c1; have f0 := T2.out.f0; have f1 := T2.out.f1; have lt := T2.out.lt; clear hb3))
    | (go_at_call 52; ((with_reducible refine (CP.out _).mono ?_); rintro E w' ⟨rfl, rfl⟩))
    | (go_at_call 30; ((with_reducible refine (FM.out _ ((HT.out.later B3.out).tab.later ((Below.refl _ _).alloc (Nat.le_refl _) _))).mono ?_); rintro E w4 ⟨rfl, hb4⟩; have T2 := Lib.hid ((T2.out.alloc _).stay hb4); have T11 := Lib.hid (two_new hb4); have B4 := Lib.hid (Below.then_ B3.out (below_new hb4)); clear c0 c1 f0 f1 lt; have c0 := T2.out.c0; have c1 := T2.out.c1; have f0 := T2.out.f0; have f1 := T2.out.f1; have lt := T2.out.lt; have k0 := T11.out.c0; have k1 := T11.out.c1; clear hb4)))
  refine bodyPost_ret (v := .tuple #[.agg #[.int .i64 n, .int .i64 d], .int .i64 0]) (by simp [results, Tryd.results32, go_sem, c0, c1]) rfl ?_
  exact ⟨rfl, (B4.out.setCell (Nat.le_refl _) _).setCell (Nat.le_refl _) _⟩
set_option maxRecDepth 100000 in
set_option maxHeartbeats 8000000 in
theorem parse_7y (s t u : ByteArray) (n d : Int) (w : World) (hn : i64 n) (hd : i64 d)
    (CC : ∀ w, Calls Tryd.prog 50 #[.string s, .string ⟨#[47]⟩] w fun E w' => E = .returned (.tuple #[.string t, .string u, .bool true]) ∧ Below w.heap.size w w')
    (CT : ∀ w, Tab2 w → Calls Tryd.prog 51 #[.string t] w fun E w' => E = .returned (.tuple #[.int .i64 n, .int .i64 0]) ∧ Below w.heap.size w w')
    (CB : ∀ w, Tab2 w → Calls Tryd.prog 51 #[.string u] w fun E w' => E = .returned (.tuple #[.int .i64 d, .int .i64 0]) ∧ Below w.heap.size w w')
    (CP : ∀ w, Calls Tryd.prog 52 #[.string u, .string ⟨#[45]⟩] w fun E w' => E = .returned (.bool false) ∧ w' = w)
    (ht : Tab2 w) (hf : ¬ fmtS n d = s.data.toList) :
    Calls Tryd.prog 32 #[.string s] w (tRes w (0, 0, 5)) := by
  have CC := Lib.hid CC
  have CT := Lib.hid CT
  have CB := Lib.hid CB
  have CP := Lib.hid CP
  have HT := Lib.hid ht
  clear ht
  obtain ⟨F, hF⟩ : ∃ F, bs (fmtS n d) = F := ⟨_, rfl⟩
  have FM : ∀ w, Tab w → Calls Tryd.prog 30 #[rv n d] w fun E w' => E = .returned (.string F) ∧ Below w.heap.size w w' := fun w h => by
    have q := formatCode n d w hn.1 hn.2 hd.1 hd.2 h
    unfold tStr at q
    rw [hF] at q
    exact q
  have FM := Lib.hid FM
  have hb : (F.toList == s.toList) = false := by
    rw [← hF, Lib.toList_data, Lib.toList_data]
    simpa using hf
  clear hf hF
  go_enter Tryd.func32, Tryd.ntmps32
  go_wp2_with (first
    | (go_at_call 50; ((with_reducible refine (CC.out _).mono ?_); rintro E w1 ⟨rfl, hb1⟩; have T2 := Lib.hid (two_new hb1); have B1 := Lib.hid (below_new hb1); clear hb1))
    | (go_at_call 51; ((with_reducible refine (CT.out _ (HT.out.later B1.out)).mono ?_); rintro E w2 ⟨rfl, hb2⟩; have T2 := Lib.hid (T2.out.stay hb2); have B2 := Lib.hid (Below.then_ B1.out hb2); clear hb2))
    | (go_at_call 51; ((with_reducible refine (CB.out _ (HT.out.later B2.out)).mono ?_); rintro E w3 ⟨rfl, hb3⟩; have T2 := Lib.hid (T2.out.stay hb3); have B3 := Lib.hid (Below.then_ B2.out hb3); have c0 := T2.out.c0; have c1 := T2.out.c1; have f0 := T2.out.f0; have f1 := T2.out.f1; have lt := T2.out.lt; clear hb3))
    | (go_at_call 52; ((with_reducible refine (CP.out _).mono ?_); rintro E w' ⟨rfl, rfl⟩))
    | (go_at_call 30; ((with_reducible refine (FM.out _ ((HT.out.later B3.out).tab.later ((Below.refl _ _).alloc (Nat.le_refl _) _))).mono ?_); rintro E w4 ⟨rfl, hb4⟩; have T2 := Lib.hid ((T2.out.alloc _).stay hb4); have T11 := Lib.hid (two_new hb4); have B4 := Lib.hid (Below.then_ B3.out (below_new hb4)); clear c0 c1 f0 f1 lt; have c0 := T2.out.c0; have c1 := T2.out.c1; have f0 := T2.out.f0; have f1 := T2.out.f1; have lt := T2.out.lt; have k0 := T11.out.c0; have k1 := T11.out.c1; clear hb4)))
  refine bodyPost_ret (v := .tuple #[.agg #[.int .i64 0, .int .i64 0], .int .i64 5]) (by simp [results, Tryd.results32, go_sem, c0, c1]) rfl ?_
  exact ⟨rfl, (B4.out.setCell (Nat.le_refl _) _).setCell (Nat.le_refl _) _⟩
set_option maxRecDepth 100000 in
set_option maxHeartbeats 8000000 in
theorem parse_7n (s t v : ByteArray) (n d : Int) (w : World) (hn : i64 n) (hd : i64 d)
    (CC : ∀ w, Calls Tryd.prog 50 #[.string s, .string ⟨#[47]⟩] w fun E w' => E = .returned (.tuple #[.string t, .string v, .bool false]) ∧ Below w.heap.size w w')
    (CT : ∀ w, Tab2 w → Calls Tryd.prog 51 #[.string t] w fun E w' => E = .returned (.tuple #[.int .i64 n, .int .i64 0]) ∧ Below w.heap.size w w')
    (CB : ∀ w, Tab2 w → Calls Tryd.prog 51 #[.string ⟨#[49]⟩] w fun E w' => E = .returned (.tuple #[.int .i64 d, .int .i64 0]) ∧ Below w.heap.size w w')
    (CP : ∀ w, Calls Tryd.prog 52 #[.string ⟨#[49]⟩, .string ⟨#[45]⟩] w fun E w' => E = .returned (.bool false) ∧ w' = w)
    (ht : Tab2 w)  (hf : ¬ fmtS n d = s.data.toList) :
    Calls Tryd.prog 32 #[.string s] w (tRes w (0, 0, 5)) := by
  have CC := Lib.hid CC
  have CT := Lib.hid CT
  have CB := Lib.hid CB
  have CP := Lib.hid CP
  have HT := Lib.hid ht
  clear ht
  obtain ⟨F, hF⟩ : ∃ F, bs (fmtS n d) = F := ⟨_, rfl⟩
  have FM : ∀ w, Tab w → Calls Tryd.prog 30 #[rv n d] w fun E w' => E = .returned (.string F) ∧ Below w.heap.size w w' := fun w h => by
    have q := formatCode n d w hn.1 hn.2 hd.1 hd.2 h
    unfold tStr at q
    rw [hF] at q
    exact q
  have FM := Lib.hid FM
  have hb : (F.toList == s.toList) = false := by
    rw [← hF, Lib.toList_data, Lib.toList_data]
    simpa using hf
  clear hf hF
  go_enter Tryd.func32, Tryd.ntmps32
  go_wp2_with (first
    | (go_at_call 50; ((with_reducible refine (CC.out _).mono ?_); rintro E w1 ⟨rfl, hb1⟩; have T2 := Lib.hid (two_new hb1); have B1 := Lib.hid (below_new hb1); clear hb1))
    | (go_at_call 51; ((with_reducible refine (CT.out _ (HT.out.later B1.out)).mono ?_); rintro E w2 ⟨rfl, hb2⟩; have T2 := Lib.hid (T2.out.stay hb2); have B2 := Lib.hid (Below.then_ B1.out hb2); clear hb2))
    | (go_at_call 51; ((with_reducible refine (CB.out _ (HT.out.later B2.out)).mono ?_); rintro E w3 ⟨rfl, hb3⟩; have T2 := Lib.hid (T2.out.stay hb3); have B3 := Lib.hid (Below.then_ B2.out hb3); have c0 := T2.out.c0; have c1 := T2.out.c1; have f0 := T2.out.f0; have f1 := T2.out.f1; have lt := T2.out.lt; clear hb3))
    | (go_at_call 52; ((with_reducible refine (CP.out _).mono ?_); rintro E w' ⟨rfl, rfl⟩))
    | (go_at_call 30; ((with_reducible refine (FM.out _ ((HT.out.later B3.out).tab.later ((Below.refl _ _).alloc (Nat.le_refl _) _))).mono ?_); rintro E w4 ⟨rfl, hb4⟩; have T2 := Lib.hid ((T2.out.alloc _).stay hb4); have T11 := Lib.hid (two_new hb4); have B4 := Lib.hid (Below.then_ B3.out (below_new hb4)); clear c0 c1 f0 f1 lt; have c0 := T2.out.c0; have c1 := T2.out.c1; have f0 := T2.out.f0; have f1 := T2.out.f1; have lt := T2.out.lt; have k0 := T11.out.c0; have k1 := T11.out.c1; clear hb4)))
  refine bodyPost_ret (v := .tuple #[.agg #[.int .i64 0, .int .i64 0], .int .i64 5]) (by simp [results, Tryd.results32, go_sem, c0, c1]) rfl ?_
  exact ⟨rfl, (B4.out.setCell (Nat.le_refl _) _).setCell (Nat.le_refl _) _⟩
end Go.Proofs.YtjighmmfaedgbaaDoor.RatW
