/-
  The law PackRoundTrips, walked.
-/
import Derived.Test.YtpfnameeoadbkaaDoorPackForms
import Derived.Test.YtpfnameeoadbkaaDoorPackCanon
import Derived.Lib.QuietBelow
namespace Go.Proofs.YtpfnameeoadbkaaDoor.PackW
open Go Go.Sort Go.RowKit Go.Proofs.YtpfnameeoadbkaaDoor.NumM Go.Proofs.YtpfnameeoadbkaaDoor.PackM

/-- The call's own copy of the argument, in block b. -/
def BoxF (b : Nat) (f : FormV) (w : World) : Prop :=
  b < w.heap.size ∧ w.cell? ⟨b, 0, none⟩ = some (.string f.before) ∧ w.cell? ⟨b, 1, none⟩ = some (.string f.behind) ∧ w.cell? ⟨b, 2, none⟩ = some (.int .i64 f.n) ∧ w.cell? ⟨b, 3, none⟩ = some f.l ∧ w.cell? ⟨b, 4, none⟩ = some (.int .u16 f.at')
theorem BoxF.later {b : Nat} {f : FormV} {w w' : World} (h : BoxF b f w) (hb : Below w.heap.size w w') : BoxF b f w' := by
  obtain ⟨h0, h1, h2, h3, h4, h5⟩ := h
  exact ⟨Nat.lt_of_lt_of_le h0 hb.size, (hb.cell (p := ⟨b, 0, none⟩) h0).trans h1, (hb.cell (p := ⟨b, 1, none⟩) h0).trans h2, (hb.cell (p := ⟨b, 2, none⟩) h0).trans h3, (hb.cell (p := ⟨b, 3, none⟩) h0).trans h4, (hb.cell (p := ⟨b, 4, none⟩) h0).trans h5⟩
theorem box_new (f : FormV) (w : World) : BoxF w.heap.size f (w.alloc (.cells #[.string f.before, .string f.behind, .int .i64 f.n, f.l, .int .u16 f.at'] 41)) :=
  ⟨by rw [alloc_size]; omega, alloc_cell _ _ _ _ _ rfl, alloc_cell _ _ _ _ _ rfl, alloc_cell _ _ _ _ _ rfl, alloc_cell _ _ _ _ _ rfl, alloc_cell _ _ _ _ _ rfl⟩
/-- What holds in every world of the call: the listed variables, the old memory, the copy, the cut list. -/
structure Env (w0 : World) (f : FormV) (z : Value) (zs : List (List UInt8)) (w : World) : Prop where
  good : Good w0 w
  box : BoxF w0.heap.size f w
  strs : StrsAt w z zs
theorem Env.later {w0 : World} {f : FormV} {z : Value} {zs : List (List UInt8)} {w w' : World} (h : Env w0 f z zs w) (hb : Below w.heap.size w w') : Env w0 f z zs w' := ⟨h.good.step hb, h.box.later hb, h.strs.later hb⟩
/-- The same, the cells laid open. -/
theorem Env.cells {w0 : World} {f : FormV} {z : Value} {zs : List (List UInt8)} {w : World} (h : Env w0 f z zs w) :
    w.cell? ⟨w0.heap.size, 0, none⟩ = some (.string f.before) ∧ w.cell? ⟨w0.heap.size, 1, none⟩ = some (.string f.behind) ∧ w.cell? ⟨w0.heap.size, 2, none⟩ = some (.int .i64 f.n) ∧ w.cell? ⟨w0.heap.size, 4, none⟩ = some (.int .u16 f.at') ∧ Env w0 f z zs w :=
  ⟨h.box.2.1, h.box.2.2.1, h.box.2.2.2.1, h.box.2.2.2.2.2, h⟩
/-- What is taken back from the string that holds a text, a number and a list, with something before and behind. -/
theorem rt_facts {S bf bh : ByteArray} {n : Int} {zs : List (List UInt8)} (h0 : -9223372036854775808 ≤ n) (h1 : n ≤ 9223372036854775807) (hb : bf.size ≤ 1048576) (hz : ∀ y ∈ zs, y.length ≤ 1048576) (hn : zs.length ≤ 30)
    (hS : bf ++ bs (textP bf.data.toList) ++ bs (numP n) ++ bs (listP zs) ++ bh = S) :
    tx S bf.size = (bf.data.toList, (textP bf.data.toList).length, 0) ∧ nx S (bf.size + (textP bf.data.toList).length) = (n, (numP n).length, 0) ∧
      lx S (bf.size + (textP bf.data.toList).length + (numP n).length) zs.length = (zs, bf.size + (textP bf.data.toList).length + (numP n).length + (listP zs).length, 0) ∧
      S.size = bf.size + (textP bf.data.toList).length + (numP n).length + (listP zs).length + bh.size := by
  have e : S.data.toList = bf.data.toList ++ (textP bf.data.toList ++ (numP n ++ (listP zs ++ bh.data.toList))) := by rw [← hS]; simp
  have d1 : S.data.toList.drop bf.size = textP bf.data.toList ++ (numP n ++ (listP zs ++ bh.data.toList)) := by rw [e, ← len_data bf, List.drop_left]
  have d2 : S.data.toList.drop (bf.size + (textP bf.data.toList).length) = numP n ++ (listP zs ++ bh.data.toList) := by rw [← List.drop_drop, d1, List.drop_left]
  have d3 : S.data.toList.drop (bf.size + (textP bf.data.toList).length + (numP n).length) = listP zs ++ bh.data.toList := by rw [← List.drop_drop, d2, List.drop_left]
  refine ⟨?_, ?_, ?_, ?_⟩
  · unfold tx
    rw [d1]
    exact textL_back (by rw [len_data]; omega) _
  · unfold nx
    rw [d2]
    exact numL_back h0 h1 _
  · unfold lx
    rw [d3]
    exact listL_back (fun x hx => by have := hz x hx; omega) (by omega) _ _ (Int.le_refl _)
  · have := congrArg List.length e
    simp only [List.length_append, len_data] at this
    omega
theorem textP_len {l : List UInt8} (h : l.length ≤ 1048576) : (textP l).length ≤ 1048597 := by
  unfold textP
  have := itoa_len (n := (l.length : Int)) (by omega) (by omega)
  rw [List.length_append, List.length_cons]; omega
theorem numP_len {n : Int} (h0 : -9223372036854775808 ≤ n) (h1 : n ≤ 9223372036854775807) : (numP n).length ≤ 21 := by
  unfold numP
  have := itoa_len h0 h1
  rw [List.length_append]; simp; omega
theorem bs_size (l : List UInt8) : (bs l).size = l.length := by rw [← len_data]
/-- TakeText, TakeNumber, TakeList where what they take is known. -/
theorem takeText_at (S : ByteArray) (k : Nat) (b : ByteArray) (c i : Nat) (w : World) (hs : S.size ≤ 140737488351232) (hk : k ≤ S.size) (ht : Tab w) (h : tx S k = (b.data.toList, c, 0)) (hi : k + c = i) :
    Calls Tryd.prog 18 #[.string S, .int .i64 k] w fun e w' => e = .returned (.tuple #[.string b, .int .i64 i, .int .i64 0]) ∧ Below w.heap.size w w' := by
  have r := takeText_in S k w hs hk ht
  unfold tText txO at r
  rw [h] at r
  subst hi
  exact r
theorem takeNum_at (S : ByteArray) (k : Nat) (n : Int) (c i : Nat) (w : World) (hs : S.size ≤ 140737488351232) (hk : k ≤ S.size) (ht : Tab w) (h : nx S k = (n, c, 0)) (hi : k + c = i) :
    Calls Tryd.prog 20 #[.string S, .int .i64 k] w fun e w' => e = .returned (.tuple #[.int .i64 n, .int .i64 i, .int .i64 0]) ∧ Below w.heap.size w w' := by
  have r := takeNum_in S k w hs hk ht
  unfold tNum nxO at r
  rw [h] at r
  subst hi
  exact r
theorem takeList_at (S : ByteArray) (k most : Nat) (zs : List (List UInt8)) (c : Nat) (w : World) (hs : S.size ≤ 140737488351232) (hk : k ≤ S.size) (hm : most ≤ 30) (ht : Tab w) (h : lx S k most = (zs, c, 0)) :
    Calls Tryd.prog 22 #[.string S, .int .i64 k, .int .i64 most] w fun e w' => ∃ v, e = .returned (.tuple #[v, .int .i64 c, .int .i64 0]) ∧ StrsAt w' v zs ∧ Below w.heap.size w w' := by
  have r := takeList_in S k most w hs hk (by omega) (by omega) (.inr (by omega)) ht
  unfold tList lxO at r
  rw [h] at r
  exact r
theorem number_q (n : Int) (w : World) (h0 : -9223372036854775808 ≤ n) (h1 : n ≤ 9223372036854775807) (h : Tab w) (d : Nat) (os : Array Obj) :
    Calls Tryd.prog 13 #[.int .i64 n] (grow (redrawn w d) os) fun e w'' => e = .returned (.string (bs (numP n))) ∧ ∃ p : Regrown, w'' = grow (redrawn w p.d) p.os :=
  Calls.regrown_of (number_any n _ h0 h1 (h.later (below_regrown w d os)))
theorem text_q (s : ByteArray) (w : World) (hs : s.size ≤ 140737488351232) (h : Tab w) (d : Nat) (os : Array Obj) :
    Calls Tryd.prog 11 #[.string s] (grow (redrawn w d) os) fun e w'' => e = .returned (.string (bs (textP s.data.toList))) ∧ ∃ p : Regrown, w'' = grow (redrawn w p.d) p.os :=
  Calls.regrown_of (text_any s _ hs (h.later (below_regrown w d os)))
theorem list_q (w : World) (v : Value) (ys : List (List UInt8)) (hv : StrsAt w v ys) (hsz : ∀ y ∈ ys, y.length ≤ 140737488351232) (hn : ys.length ≤ 1000000) (hl : (listP ys).length ≤ 281474976710656) (h : Tab w) (d : Nat) (os : Array Obj) :
    Calls Tryd.prog 15 #[v] (grow (redrawn w d) os) fun e w'' => e = .returned (.string (bs (listP ys))) ∧ ∃ p : Regrown, w'' = grow (redrawn w p.d) p.os :=
  Calls.regrown_of (list_any _ v ys (hv.later (below_regrown w d os)) hsz hn hl (h.later (below_regrown w d os)))
set_option maxHeartbeats 1000000 in
theorem rt_any (f : FormV) (ys : List (List UInt8)) (w : World) (ok : f.Ok w ys 1048576) (ht : Tab w) :
    Calls Tryd.prog 7 #[f.val] w fun e w' => e = .returned (.bool true) ∧ Below w.heap.size w w' := by
  have OK := Lib.hid ok
  have G1 : Hid (Good w (w.alloc (.cells #[.string f.before, .string f.behind, .int .i64 f.n, f.l, .int .u16 f.at'] 41))) := Lib.hid ((Good.refl ht).alloc _)
  have B1 := Lib.hid (box_new f w)
  have z0 := take30 ok.each
  obtain ⟨zs, hzs⟩ : ∃ zs, ys.take 30 = zs := ⟨_, rfl⟩
  rw [hzs] at z0
  have Z := Lib.hid z0
  have ZS := Lib.hid hzs
  clear ok ht z0 hzs
  obtain ⟨bf, bh, n, l, a⟩ := f
  unfold FormV.val
  go_enter Tryd.func7, Tryd.ntmps7
  go_wp2_with (first
    | (go_at_call 10; refine (cut_any _ l ys (OK.out.strs.later (G1.out.bel)) (by have := OK.out.count; omega)).mono ?_; rintro e wc ⟨z, rfl, hz, rfl⟩; rw [ZS.out] at hz; obtain ⟨az, cz, rfl, -⟩ := hz.is; have E1 : Hid (Env w ⟨bf, bh, n, l, a⟩ (.slice az zs.length cz) zs _) := Lib.hid ⟨G1.out, B1.out, hz⟩; clear hz)
    | (go_at_call 11; refine (text_any bf _ (by have h : bf.size ≤ 1048576 := OK.out.before; omega) E1.out.good.tab).mono ?_; rintro e w2 ⟨rfl, hb2⟩; have E2 : Hid (Env w ⟨bf, bh, n, l, a⟩ (.slice az zs.length cz) zs w2) := Lib.hid (E1.out.later hb2))
    | fail)
  have h0 : -9223372036854775808 ≤ n := OK.out.n0
  have h1 : n ≤ 9223372036854775807 := OK.out.n1
  have sb : bf.size ≤ 1048576 := OK.out.before
  have sh : bh.size ≤ 1048576 := OK.out.behind
  have lt : (textP bf.data.toList).length ≤ 1048597 := textP_len (by rw [len_data]; exact sb)
  have ln : (numP n).length ≤ 21 := numP_len h0 h1
  have ll : (listP zs).length ≤ 33554432 := Z.out.2.1
  have lz : zs.length ≤ 30 := Z.out.1
  obtain ⟨T, hT⟩ : ∃ T, textP bf.data.toList = T := ⟨_, rfl⟩
  obtain ⟨Nn, hN⟩ : ∃ Nn, numP n = Nn := ⟨_, rfl⟩
  obtain ⟨L, hL⟩ : ∃ L, listP zs = L := ⟨_, rfl⟩
  obtain ⟨S, hS⟩ : ∃ S, bf ++ bs T ++ bs Nn ++ bs L ++ bh = S := ⟨_, rfl⟩
  have k0 := cell_regrown E2.out.cells.1
  have k1 := cell_regrown E2.out.cells.2.1
  have k2 := cell_regrown E2.out.cells.2.2.1
  have cN := number_q n w2 h0 h1 E2.out.good.tab
  have cL := list_q w2 (.slice az zs.length cz) zs E2.out.strs (fun y hy => by have := Z.out.2.2 y hy; omega) (by omega) (by omega) E2.out.good.tab
  have FX := rt_facts (zs := zs) (bh := bh) (S := S) h0 h1 sb Z.out.2.2 lz (by rw [hT, hN, hL]; exact hS)
  rw [hN] at cN
  rw [hL] at cL
  rw [hT, hN, hL] at FX
  rw [hT] at lt
  rw [hN] at ln
  rw [hL] at ll
  rw [hT]
  obtain ⟨i1, e1⟩ : ∃ i1, bf.size + T.length = i1 := ⟨_, rfl⟩
  obtain ⟨i2, e2⟩ : ∃ i2, i1 + Nn.length = i2 := ⟨_, rfl⟩
  obtain ⟨i3, e3⟩ : ∃ i3, i2 + L.length = i3 := ⟨_, rfl⟩
  rw [e1, e2, e3] at FX
  have hSz := FX.2.2.2
  have n1 : ¬ 9223372036854775807 < bf.size + T.length := by omega
  have n2 : ¬ 9223372036854775807 < bf.size + T.length + Nn.length := by omega
  have n3 : ¬ 9223372036854775807 < bf.size + T.length + Nn.length + L.length := by omega
  have n4 : ¬ 9223372036854775807 < bf.size + T.length + Nn.length + L.length + bh.size := by omega
  have hs3 : S.size ≤ 140737488351232 := by omega
  have m1 : bf.size ≤ S.size := by omega
  have m2 : i1 ≤ S.size := by omega
  have m3 : i2 ≤ S.size := by omega
  have q1 : ((i1 : Int) == (bf.size : Int) + (T.length : Int)) = true := by simp; omega
  have q2 : ((i3 : Int) == (S.size : Int) - (bh.size : Int)) = true := by simp; omega
  have FXH := Lib.hid FX
  have EE := Lib.hid (And.intro e1 (And.intro e2 e3))
  clear FX hT hN hL hSz e1 e2 e3
  refine wp_region_quiet_below (by kernel_rfl) (by kernel_rfl) ?_
  repeat (first | go_big_quiet_step (first | exact cN _ _ | exact cL _ _) | quiet_step (first | exact cN _ _ | exact cL _ _))
  refine wpQuiet_nil ?_
  intro w3 hw'
  obtain ⟨pq, hw''⟩ := hw'
  have E3 : Hid (Env w ⟨bf, bh, n, l, a⟩ (.slice az zs.length cz) zs w3) := Lib.hid (by rw [hw'']; exact E2.out.later (below_regrown _ _ _))
  clear hw'' k0 k1 k2 cN cL n1 n2 n3 n4 hS
  obtain ⟨x0, x1, x2, _, _⟩ := E3.out.cells
  go_wp2_with (first
    | (go_at_call 18; refine (takeText_at S bf.size bf T.length i1 _ hs3 m1 E3.out.good.tab FXH.out.1 EE.out.1).mono ?_; rintro e w4 ⟨rfl, hb4⟩; have E4 := Lib.hid (E3.out.later hb4); obtain ⟨y0, y1, y2, _, _⟩ := E4.out.cells)
    | (go_at_call 20; refine (takeNum_at S i1 n Nn.length i2 _ hs3 m2 E4.out.good.tab FXH.out.2.1 EE.out.2.1).mono ?_; rintro e w5 ⟨rfl, hb5⟩; have E5 := Lib.hid (E4.out.later hb5); obtain ⟨y3, y4, y5, _, _⟩ := E5.out.cells)
    | (go_at_call 22; refine (takeList_at S i2 zs.length zs i3 _ hs3 m3 lz E5.out.good.tab FXH.out.2.2.1).mono ?_; rintro e w6 ⟨v6, rfl, hv6, hb6⟩; have HV := Lib.hid hv6; clear hv6; have E6 := Lib.hid (E5.out.later hb6); obtain ⟨y6, y7, y8, _, _⟩ := E6.out.cells)
    | (go_at_call 24; refine (same_any w6 v6 _ zs HV.out E6.out.strs (by omega)).mono ?_; rintro e w7 ⟨rfl, hb7⟩; have E7 := Lib.hid (E6.out.later hb7); obtain ⟨y9, y10, y11, _, _⟩ := E7.out.cells)
    | (go_at_call 17; refine (awake_any _ E7.out.good.tab).mono ?_; rintro e w8 ⟨rfl, hb8⟩; have E8 := Lib.hid (E7.out.later hb8))
    | fail)
  go_ret
  exact ⟨rfl, E8.out.good.bel⟩
end Go.Proofs.YtpfnameeoadbkaaDoor.PackW
