/-
  What the reference's Join and Same return.
-/
import Derived.Test.YtphmikjoecnmaaaDoorLexRefW
import Derived.Test.YtphmikjoecnmaaaDoorLexJoin
namespace Go.Proofs.YtphmikjoecnmaaaDoor.LexW
open Go Go.RowKit Go.Proofs.YtphmikjoecnmaaaDoor.NumM Go.Proofs.YtphmikjoecnmaaaDoor.LexM

theorem joinT_snoc (l : List Tk) (t : Tk) : joinT (l ++ [t]) = if l = [] then t.text else joinT l ++ 32 :: t.text := by
  induction l with
  | nil => rfl
  | cons u r ih =>
    rw [if_neg (by simp)]
    cases r with
    | nil => rfl
    | cons u2 r =>
      rw [if_neg (by simp)] at ih
      have e1 : joinT ((u :: u2 :: r) ++ [t]) = u.text ++ 32 :: joinT ((u2 :: r) ++ [t]) := rfl
      have e2 : joinT (u :: u2 :: r) = u.text ++ 32 :: joinT (u2 :: r) := rfl
      rw [e1, e2, ih]; simp
theorem joinT_take {l : List Tk} {k : Nat} {t : Tk} (h : l[k]? = some t) : joinT (l.take (k + 1)) = if k = 0 then t.text else joinT (l.take k) ++ 32 :: t.text := by
  obtain ⟨hk, he⟩ := List.getElem?_eq_some_iff.1 h
  rw [List.take_succ_eq_append_getElem hk, he, joinT_snoc]
  by_cases h0 : k = 0
  · subst h0; simp
  · rw [if_neg h0, if_neg]
    intro e
    have := congrArg List.length e
    rw [List.length_take, List.length_nil] at this
    omega
set_option maxRecDepth 100000 in
set_option maxHeartbeats 8000000 in
theorem joinRef_any (l : List Tk) (v : Value) (w : World) (h : ToksAt w v l) (hn : l.length ≤ 1000) (hM : ∀ t ∈ l, t.text.length ≤ 1000) (hI : ∀ t ∈ l, -9223372036854775808 ≤ t.n ∧ t.n ≤ 9223372036854775807) :
    Calls Tryd.prog 20 #[v] w (tStr w (joinS l)) := by
  obtain ⟨p, cap, rfl, hcap, hx⟩ := h
  have HX := Lib.hid hx
  have HMx := Lib.hid hM
  have HIx := Lib.hid hI
  clear hx hM hI
  obtain ⟨n, hnn⟩ : ∃ n, l.length = n := ⟨_, rfl⟩
  rw [hnn] at hcap hn ⊢
  have HN := Lib.hid hnn
  clear hnn
  go_enter Tryd.func20, Tryd.ntmps20
  go_wp2
  go_loopw [4, 5] (fun s i wr => ∃ (k : Nat) (B : ByteArray), k ≤ n ∧ i = .int .i64 k ∧ s = .string B ∧ B.size ≤ k * 1001 ∧ Hid (B.data.toList = joinT (l.take k)) ∧ Hid (Below w.heap.size w wr) ∧ Hid ((l.take k).all validS = true)) (fun _ i _ => n - (intOf i).toNat)
  case atStart => exact ⟨0, ⟨#[]⟩, Nat.zero_le _, rfl, rfl, Nat.le_refl _, Lib.hid rfl, Lib.hid (Below.refl _ _), Lib.hid rfl⟩
  case round =>
    obtain ⟨k, B, hk, rfl, rfl, hB, BT, BW, VA⟩ := hrel
    by_cases hlt : k < n
    · obtain ⟨b, off, rfl, hbs, hcell⟩ := HX.out (by rw [HN.out]; omega)
      obtain ⟨t, htk⟩ : ∃ t, l[k]? = some t := ⟨_, List.getElem?_eq_getElem (by rw [HN.out]; exact hlt)⟩
      obtain ⟨q0, q1, q2, q3⟩ := hcell k t htk
      have ca0 : wr.cell? ⟨b, off + k * 4, none⟩ = some (.int .i64 t.kind) := by rw [BW.out.cell hbs]; exact q0
      have ca1 : wr.cell? ⟨b, off + k * 4 + 1, none⟩ = some (.int .i64 t.n) := by rw [BW.out.cell hbs]; exact q1
      have ca2 : wr.cell? ⟨b, off + k * 4 + 2, none⟩ = some (.string (bs t.text)) := by rw [BW.out.cell hbs]; exact q2
      have ca3 : wr.cell? ⟨b, off + k * 4 + 3, none⟩ = some (.int .i64 t.line) := by rw [BW.out.cell hbs]; exact q3
      have hlen : t.text.length ≤ 1000 := HMx.out t (List.mem_of_getElem? htk)
      have hti := HIx.out t (List.mem_of_getElem? htk)
      have VC : ∀ W, Calls Tryd.prog 35 #[tv t.kind t.n (bs t.text) t.line] W fun e w' => e = .returned (.bool (validS t)) ∧ Below W.heap.size W w' := fun W => by
        have q := validRef_any t.kind t.n t.line (bs t.text) W hti.1 hti.2 (by rw [← len_data]; exact hlen)
        have e : validR ⟨t.kind, t.n, (bs t.text).data.toList, t.line⟩ = validS t := validR_eq t
        rw [e] at q
        exact q
      have HTK := Lib.hid htk
      have hbw : b < wr.heap.size := Nat.lt_of_lt_of_le hbs BW.out.size
      clear hcell q0 q1 q2 q3 htk hti
      cases hv : validS t
      · have EE := Lib.hid (not_all HTK.out hv)
        rw [hv] at VC
        have VC := Lib.hid VC
        clear hv
        obtain ⟨kd, nn, y, ln, e0, e1, e2, e3⟩ : ∃ kd nn y ln, t.kind = kd ∧ t.n = nn ∧ bs t.text = y ∧ t.line = ln := ⟨_, _, _, _, rfl, rfl, rfl, rfl⟩
        rw [e0] at ca0 VC
        rw [e1] at ca1 VC
        rw [e2] at ca2 VC
        rw [e3] at ca3 VC
        clear e0 e1 e2 e3
        go_wp2_with (go_at_call 35; ((with_reducible refine (VC.out _).mono ?_); rintro e w1 ⟨rfl, hb⟩; have BW1 := Lib.hid (BW.out.trans (hb.mono BW.out.size)); clear hb))
        go_ret2
        exact tStr_mk EE.out BW1.out
      · have VA2 := Lib.hid (take_all VA.out HTK.out hv)
        have JT := joinT_take HTK.out
        rw [hv] at VC
        have VC := Lib.hid VC
        clear hv
        obtain ⟨kd, nn, y, ln, e0, e1, e2, e3⟩ : ∃ kd nn y ln, t.kind = kd ∧ t.n = nn ∧ bs t.text = y ∧ t.line = ln := ⟨_, _, _, _, rfl, rfl, rfl, rfl⟩
        have hyd : t.text = y.data.toList := by rw [← e2]
        have hys : y.size ≤ 1000 := by rw [← len_data, ← hyd]; exact hlen
        rw [e0] at ca0 VC
        rw [e1] at ca1 VC
        rw [e2] at ca2 VC
        rw [e3] at ca3 VC
        rw [hyd, ← BT.out] at JT
        clear e0 e1 e2 e3 hyd hlen
        have hBb : B.size ≤ 1001000 := by omega
        have t1 : ¬ 9223372036854775807 < B.size + (⟨#[32]⟩ : ByteArray).size := by show ¬ 9223372036854775807 < B.size + 1; omega
        have t2 : ¬ 9223372036854775807 < B.size + 1 := by omega
        have t3 : ¬ 9223372036854775807 < (B ++ (⟨#[32]⟩ : ByteArray)).size + y.size := by rw [ByteArray.size_append]; show ¬ 9223372036854775807 < B.size + 1 + y.size; omega
        have t4 : ¬ 9223372036854775807 < B.size + 1 + y.size := by omega
        have t5 : ¬ 9223372036854775807 < B.size + (⟨#[32]⟩ : ByteArray).size + y.size := by show ¬ 9223372036854775807 < B.size + 1 + y.size; omega
        have t6 : ¬ 9223372036854775807 < B.size + y.size := by omega
        by_cases hk0 : k = 0
        · have JT2 : Hid ((B ++ y).data.toList = joinT (l.take (k + 1))) := Lib.hid (by
            rw [JT, if_pos hk0]
            have : B.data.toList = [] := by rw [BT.out, hk0]; rfl
            simp [this])
          have hsz : (B ++ y).size ≤ (k + 1) * 1001 := by rw [ByteArray.size_append]; omega
          have c0 : decide (0 < k) = false := by simp; omega
          have c0' : ¬ (0 : Int) < (k : Int) := by omega
          clear JT hk0
          go_wp2_with (go_at_call 35; ((with_reducible refine (VC.out _).mono ?_); rintro e w1 ⟨rfl, hb⟩; have BW1 := Lib.hid (BW.out.trans (hb.mono BW.out.size)); have ca2' := (hb.cell (p := ⟨b, off + k * 4 + 2, none⟩) hbw).trans ca2; clear hb ca0 ca1 ca2 ca3))
          go_roundw
          case rel => exact ⟨k + 1, _, by omega, by go_num, rfl, hsz, JT2, BW1, VA2⟩
          case measure => simp [intOf]; omega
        · have JT2 : Hid ((B ++ (⟨#[32]⟩ : ByteArray) ++ y).data.toList = joinT (l.take (k + 1))) := Lib.hid (by
            rw [JT, if_neg hk0]
            simp)
          have hsz : (B ++ (⟨#[32]⟩ : ByteArray) ++ y).size ≤ (k + 1) * 1001 := by rw [ByteArray.size_append, ByteArray.size_append]; show B.size + 1 + y.size ≤ _; omega
          have c0 : decide (0 < k) = true := by simp; omega
          have c0' : (0 : Int) < (k : Int) := by omega
          clear JT hk0
          go_wp2_with (go_at_call 35; ((with_reducible refine (VC.out _).mono ?_); rintro e w1 ⟨rfl, hb⟩; have BW1 := Lib.hid (BW.out.trans (hb.mono BW.out.size)); have ca2' := (hb.cell (p := ⟨b, off + k * 4 + 2, none⟩) hbw).trans ca2; clear hb ca0 ca1 ca2 ca3))
          go_roundw
          case rel => exact ⟨k + 1, _, by omega, by go_num, rfl, hsz, JT2, BW1, VA2⟩
          case measure => simp [intOf]; omega
    · obtain rfl : n = k := by omega
      have EJ : Hid (joinS l = (B.data.toList, 0)) := Lib.hid (by
        have h1 := VA.out
        have h2 := BT.out
        rw [List.take_of_length_le (by rw [HN.out]; exact Nat.le_refl _)] at h1 h2
        unfold joinS; rw [h1, h2]; rfl)
      go_wp2
      go_ret2
      exact tStr_mk EJ.out BW.out
theorem tkEq_refl (k n : Int) (x : ByteArray) (l : Int) : tkEq k n x l k n x l = true := tkEq_iff.2 ⟨rfl, rfl, rfl, rfl⟩
set_option maxRecDepth 100000 in
set_option maxHeartbeats 4000000 in
theorem same_any (l : List Tk) (va vb : Value) (w : World) (ha : ToksAt w va l) (hb : ToksAt w vb l) (hn : l.length ≤ 20000) :
    Calls Tryd.prog 12 #[va, vb] w (tBool true w) := by
  obtain ⟨p, cap, rfl, hcap, hx⟩ := ha
  obtain ⟨p2, cap2, rfl, hcap2, hx2⟩ := hb
  have HX := Lib.hid hx
  have HX2 := Lib.hid hx2
  clear hx hx2
  obtain ⟨n, hnn⟩ : ∃ n, l.length = n := ⟨_, rfl⟩
  rw [hnn] at hcap hcap2 hn ⊢
  have HN := Lib.hid hnn
  clear hnn
  go_enter Tryd.func12, Tryd.ntmps12
  go_wp2
  go_loopw [5] (fun i wr => ∃ k : Nat, k ≤ n ∧ i = .int .i64 k ∧ Hid (Below w.heap.size w wr)) (fun i _ => n - (intOf i).toNat)
  case atStart => exact ⟨0, Nat.zero_le _, rfl, Lib.hid (Below.refl _ _)⟩
  case round =>
    obtain ⟨k, hk, rfl, BW⟩ := hrel
    by_cases hlt : k < n
    · obtain ⟨b, off, rfl, hbs, hcell⟩ := HX.out (by rw [HN.out]; omega)
      obtain ⟨b2, off2, rfl, hbs2, hcell2⟩ := HX2.out (by rw [HN.out]; omega)
      obtain ⟨t, htk⟩ : ∃ t, l[k]? = some t := ⟨_, List.getElem?_eq_getElem (by rw [HN.out]; exact hlt)⟩
      obtain ⟨q0, q1, q2, q3⟩ := hcell k t htk
      obtain ⟨r0, r1, r2, r3⟩ := hcell2 k t htk
      rw [← BW.out.cell hbs] at q0 q1 q2 q3
      rw [← BW.out.cell hbs2] at r0 r1 r2 r3
      clear hcell hcell2 htk
      obtain ⟨kd, nn, y, ln, e0, e1, e2, e3⟩ : ∃ kd nn y ln, t.kind = kd ∧ t.n = nn ∧ bs t.text = y ∧ t.line = ln := ⟨_, _, _, _, rfl, rfl, rfl, rfl⟩
      rw [e0] at q0 r0
      rw [e1] at q1 r1
      rw [e2] at q2 r2
      rw [e3] at q3 r3
      clear e0 e1 e2 e3
      go_wp2
      go_quiet (fail)
      go_wp2
      go_roundw
      case rel => exact ⟨k + 1, by omega, by go_num, Lib.hid (below_dN BW.out _)⟩
      case measure => simp [intOf]; omega
    · go_wp2
      go_ret
      exact tBool_mk rfl BW.out
end Go.Proofs.YtphmikjoecnmaaaDoor.LexW
