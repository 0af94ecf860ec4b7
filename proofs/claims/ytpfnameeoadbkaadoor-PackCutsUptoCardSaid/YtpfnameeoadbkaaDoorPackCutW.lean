/-
  The law PackCuts, walked.
-/
import Derived.Test.YtpfnameeoadbkaaDoorPackRT
namespace Go.Proofs.YtpfnameeoadbkaaDoor.PackW
open Go Go.Sort Go.RowKit Go.Proofs.YtpfnameeoadbkaaDoor.NumM Go.Proofs.YtpfnameeoadbkaaDoor.PackM

theorem ext0 (T : List UInt8) (r : Nat) : ((bs T).extract 0 r).data.toList = T.take r := by rw [ext_data]; simp
theorem cutText_at (T : List UInt8) (r : Nat) (w : World) (hs : T.length ≤ 140737488351232) (ht : Tab w) (h : (textL (T.take r)).2.2 = 6) :
    Calls Tryd.prog 18 #[.string ((bs T).extract 0 r), .int .i64 0] w fun e w' => e = .returned (.tuple #[.string ⟨#[]⟩, .int .i64 0, .int .i64 6]) ∧ Below w.heap.size w w' := by
  have q := takeText_in ((bs T).extract 0 r) 0 w (by rw [← len_data, ext0, List.length_take]; omega) (Nat.zero_le _) ht
  have e : tx ((bs T).extract 0 r) 0 = ([], 0, 6) := by
    unfold tx
    rw [ext0, List.drop_zero, textL_none _ (by rw [h]; decide), h]
  unfold tText txO at q
  rw [e] at q
  exact q
theorem cutNum_at (T : List UInt8) (r : Nat) (w : World) (hs : T.length ≤ 140737488351232) (ht : Tab w) (h : numL (T.take r) = (0, 0, 6)) :
    Calls Tryd.prog 20 #[.string ((bs T).extract 0 r), .int .i64 0] w fun e w' => e = .returned (.tuple #[.int .i64 0, .int .i64 0, .int .i64 6]) ∧ Below w.heap.size w w' := by
  have q := takeNum_in ((bs T).extract 0 r) 0 w (by rw [← len_data, ext0, List.length_take]; omega) (Nat.zero_le _) ht
  have e : nx ((bs T).extract 0 r) 0 = (0, 0, 6) := by
    unfold nx
    rw [ext0, List.drop_zero, h]
  unfold tNum nxO at q
  rw [e] at q
  exact q
theorem cutList_at (T : List UInt8) (r most : Nat) (w : World) (hs : T.length ≤ 140737488351232) (hm : most ≤ 30) (ht : Tab w) (h : (listL (T.take r) most 0).2.2 = 6) :
    Calls Tryd.prog 22 #[.string ((bs T).extract 0 r), .int .i64 0, .int .i64 most] w fun e w' => ∃ v, e = .returned (.tuple #[v, .int .i64 0, .int .i64 6]) ∧ Below w.heap.size w w' := by
  have q := takeList_in ((bs T).extract 0 r) 0 most w (by rw [← len_data, ext0, List.length_take]; omega) (Nat.zero_le _) (by omega) (by omega) (.inr (by omega)) ht
  have e : (lx ((bs T).extract 0 r) 0 most).2.2 = 6 := by
    unfold lx
    rw [ext0, List.drop_zero]
    exact h
  unfold tList lxO at q
  rw [e, if_neg (by decide)] at q
  exact q.mono fun _ _ ⟨v, he, _, hb⟩ => ⟨v, he, hb⟩
theorem numP_pos (n : Int) : 1 ≤ (numP n).length := by unfold numP; rw [List.length_append]; simp
theorem listP_pos (xs : List (List UInt8)) : 1 ≤ (listP xs).length := by
  have := numP_pos xs.length
  unfold listP
  rw [List.length_append]; omega
set_option maxHeartbeats 1000000 in
theorem cuts_any (f : FormV) (ys : List (List UInt8)) (w : World) (ok : f.Ok w ys 1048576) (ht : Tab w) :
    Calls Tryd.prog 9 #[f.val] w fun e w' => e = .returned (.bool true) ∧ Below w.heap.size w w' := by
  have OK := Lib.hid ok
  have G1 : Hid (Good w (w.alloc (.cells #[.string f.before, .string f.behind, .int .i64 f.n, f.l, .int .u16 f.at'] 41))) := Lib.hid ((Good.refl ht).alloc _)
  have B1 := Lib.hid (box_new f w)
  have z0 := take30 ok.each
  obtain ⟨zs, hzs⟩ : ∃ zs, ys.take 30 = zs := ⟨_, rfl⟩
  rw [hzs] at z0
  have Z := Lib.hid z0
  have ZS := Lib.hid hzs
  clear ok ht z0 hzs
  obtain ⟨bf, bh, n, l, a⟩ := f
  obtain ⟨A, rfl⟩ : ∃ A : Nat, a = A := ⟨a.toNat, by have h : 0 ≤ a := OK.out.a0; omega⟩
  unfold FormV.val
  go_enter Tryd.func9, Tryd.ntmps9
  go_wp2_with (first
    | (go_at_call 10; refine (cut_any _ l ys (OK.out.strs.later (G1.out.bel)) (by have := OK.out.count; omega)).mono ?_; rintro e wc ⟨z, rfl, hz, rfl⟩; rw [ZS.out] at hz; obtain ⟨az, cz, rfl, -⟩ := hz.is; have E1 : Hid (Env w ⟨bf, bh, n, l, (A : Int)⟩ (.slice az zs.length cz) zs _) := Lib.hid ⟨G1.out, B1.out, hz⟩; clear hz)
    | fail)
  have h0 : -9223372036854775808 ≤ n := OK.out.n0
  have h1 : n ≤ 9223372036854775807 := OK.out.n1
  have hA : (A : Int) ≤ 65535 := OK.out.a1
  have sb : bf.size ≤ 1048576 := OK.out.before
  have lt : (textP bf.data.toList).length ≤ 1048597 := textP_len (by rw [len_data]; exact sb)
  have ln : (numP n).length ≤ 21 := numP_len h0 h1
  have ll : (listP zs).length ≤ 33554432 := Z.out.2.1
  have lz : zs.length ≤ 30 := Z.out.1
  have pt : 1 ≤ (textP bf.data.toList).length := by have := textP_two bf.data.toList; omega
  have pn := numP_pos n
  have pl := listP_pos zs
  have f1 := textL_cut (t := bf.data.toList) (by rw [len_data]; omega) (k := A % (textP bf.data.toList).length) (Nat.mod_lt _ pt)
  have f2 := numL_cut n (k := A % (numP n).length) (Nat.mod_lt _ pn)
  have f3 := listL_cut (xs := zs) (fun x hx => by have := Z.out.2.2 x hx; omega) (by omega) (most := zs.length) (Int.le_refl _) 0 (k := A % (listP zs).length) (Nat.mod_lt _ pl)
  obtain ⟨T, hT⟩ : ∃ T, textP bf.data.toList = T := ⟨_, rfl⟩
  obtain ⟨Nn, hN⟩ : ∃ Nn, numP n = Nn := ⟨_, rfl⟩
  obtain ⟨L, hL⟩ : ∃ L, listP zs = L := ⟨_, rfl⟩
  have k0 := cell_regrown E1.out.cells.1
  have k2 := cell_regrown E1.out.cells.2.2.1
  have cT := text_q bf _ (by omega) E1.out.good.tab
  have cN := number_q n _ h0 h1 E1.out.good.tab
  have cL := list_q _ (.slice az zs.length cz) zs E1.out.strs (fun y hy => by have := Z.out.2.2 y hy; omega) (by omega) (by omega) E1.out.good.tab
  rw [hT] at cT lt pt f1
  rw [hN] at cN ln pn f2
  rw [hL] at cL ll pl f3
  have F1 := Lib.hid f1
  have F2 := Lib.hid f2
  have F3 := Lib.hid f3
  clear f1 f2 f3 hT hN hL
  refine wp_region_quiet_below (by kernel_rfl) (by kernel_rfl) ?_
  repeat (first | go_big_quiet_step (first | exact cT _ _ | exact cN _ _ | exact cL _ _) | quiet_step (first | exact cT _ _ | exact cN _ _ | exact cL _ _))
  refine wpQuiet_nil ?_
  intro w3 hw'
  obtain ⟨pq, hw''⟩ := hw'
  have E3 : Hid (Env w ⟨bf, bh, n, l, (A : Int)⟩ (.slice az zs.length cz) zs w3) := Lib.hid (by rw [hw'']; exact E1.out.later (below_regrown _ _ _))
  clear hw'' k0 k2 cT cN cL
  obtain ⟨x0, x1, x2, x4, _⟩ := E3.out.cells
  have u1 : A % T.length ≤ T.length := Nat.le_of_lt (Nat.mod_lt _ pt)
  have u2 : (A : Int) % (T.length : Int) ≤ (T.length : Int) := by rw [← Int.natCast_emod]; omega
  have u3 : 0 ≤ (A : Int) % (T.length : Int) := by rw [← Int.natCast_emod]; omega
  have v1 : A % Nn.length ≤ Nn.length := Nat.le_of_lt (Nat.mod_lt _ pn)
  have v2 : (A : Int) % (Nn.length : Int) ≤ (Nn.length : Int) := by rw [← Int.natCast_emod]; omega
  have v3 : 0 ≤ (A : Int) % (Nn.length : Int) := by rw [← Int.natCast_emod]; omega
  have s1 : A % L.length ≤ L.length := Nat.le_of_lt (Nat.mod_lt _ pl)
  have s2 : (A : Int) % (L.length : Int) ≤ (L.length : Int) := by rw [← Int.natCast_emod]; omega
  have s3 : 0 ≤ (A : Int) % (L.length : Int) := by rw [← Int.natCast_emod]; omega
  have z1 : ((T.length : Int) == 0) = false := by rw [beq_eq_false_iff_ne]; omega
  have z2 : ((Nn.length : Int) == 0) = false := by rw [beq_eq_false_iff_ne]; omega
  have z3 : ((L.length : Int) == 0) = false := by rw [beq_eq_false_iff_ne]; omega
  have y1 : ¬ T = [] := by intro h; rw [h] at pt; simp at pt
  have y2 : ¬ Nn = [] := by intro h; rw [h] at pn; simp at pn
  have y3 : ¬ L = [] := by intro h; rw [h] at pl; simp at pl
  go_wp2_with (first
    | (go_at_call 18; refine (cutText_at T (A % T.length) _ (by omega) E3.out.good.tab F1.out).mono ?_; rintro e w4 ⟨rfl, hb4⟩; have E4 := Lib.hid (E3.out.later hb4))
    | (go_at_call 20; refine (cutNum_at Nn (A % Nn.length) _ (by omega) E4.out.good.tab F2.out).mono ?_; rintro e w5 ⟨rfl, hb5⟩; have E5 := Lib.hid (E4.out.later hb5))
    | (go_at_call 22; refine (cutList_at L (A % L.length) zs.length _ (by omega) lz E5.out.good.tab F3.out).mono ?_; rintro e w6 ⟨v6, rfl, hb6⟩; have E6 := Lib.hid (E5.out.later hb6))
    | (go_at_call 17; refine (awake_any _ E6.out.good.tab).mono ?_; rintro e w8 ⟨rfl, hb8⟩; have E8 := Lib.hid (E6.out.later hb8))
    | fail)
  go_ret
  exact ⟨rfl, E8.out.good.bel⟩
end Go.Proofs.YtpfnameeoadbkaaDoor.PackW
