/-
  Laws that the card uses; no conditions beside those that each states (LexParse).
-/
import Derived.Test.YtpejflgdehioaaaGreatDoorNumShelf
import Derived.Lib.SmallJoins
import Derived.Test.YtpejflgdehioaaaGreatDoorT01
namespace Go.Proofs.YtpejflgdehioaaaGreatDoor.PackW
open Go Go.RowKit Go.Proofs.YtpejflgdehioaaaGreatDoor.NumM
theorem take_snoc (s : ByteArray) (k : Nat) (h : k < s.size) : s.data.toList.take (k + 1) = s.data.toList.take k ++ [s[k]] := by
  rw [List.take_succ_eq_append_getElem (by simpa using h)]; rfl
theorem trim_any (s : ByteArray) (w : World) :
    Calls Tryz.prog 212 #[.string s, .string ⟨#[45]⟩] w fun e w' => ∃ d : ByteArray, e = .returned (.string d) ∧ d.data.toList = tl s.data.toList ∧ w = w' :=
  (Tryz.strings_TrimPrefix s ⟨#[45]⟩ w).mono fun _ _ ⟨he, hw⟩ => ⟨_, he, by rw [← trim_eq], hw.symm⟩
theorem ret2 {a b c d : Int} (h : (a, b) = (c, d)) : Ending.returned (.tuple #[.int .i64 a, .int .i64 b]) = Ending.returned (.tuple #[.int .i64 c, .int .i64 d]) := by
  cases h; rfl
theorem retb {a b : Bool} (h : a = b) : Ending.returned (.bool a) = .returned (.bool b) := by rw [h]
def parsed (l : List UInt8) (w : World) (e : Ending) (w' : World) : Prop := e = .returned (.tuple #[.int .i64 (parseS l).1, .int .i64 (parseS l).2]) ∧ Below w.heap.size w w'
set_option maxHeartbeats 400000 in
theorem parseCode_yes (s : ByteArray) (w : World) (hs : s.size ≤ 140737488351232) (tp : TypeId) (p : Value) (hvar : w.var? Tryz.prog "strconv.ErrRange" = some #[.iface tp p]) (hdec : isDec s.data.toList = true) :
    Calls Tryz.prog 206 #[.string s] w (parsed s.data.toList w) := by
  have parts := isDec_parts hdec; have p1 := Lib.hid parts.1; have p2 := Lib.hid parts.2.1; have p3 := Lib.hid parts.2.2; have HV := Lib.hid hvar; have HDEC := Lib.hid hdec; clear parts hvar hdec
  go_enter Tryz.func206, Tryz.ntmps206
  go_wp2
  go_step3
  go_wp2_with (go_at_call 212; refine (trim_any _ _).mono ?_; rintro e w' ⟨d, rfl, hd, rfl⟩)
  have HD := Lib.hid hd; clear hd; have hl1 : d.size ≤ s.size := by
    have := tl_length s.data.toList; rw [← HD.out] at this
    simpa using this
  have hl2 : 0 < d.size := by
    have := p2.out; rw [← HD.out] at this; have h : 0 < d.data.toList.length := List.length_pos_iff.2 this
    simpa using h
  go_step3
  go_wp2; go_loop [5, 6, 18, 25] (fun i _ _ _ => ∃ k : Nat, k ≤ d.size ∧ i = .int .i64 k) (fun i _ _ _ => d.size - (intOf i).toNat)
  case atStart => exact ⟨0, Nat.zero_le _, rfl⟩
  case round =>
    obtain ⟨k, hk, rfl⟩ := hrel; by_cases hlt : k < d.size
    · have g := dgt_at HD.out p1.out hlt; have g3 : (48 : Int) ≤ (d[k].toNat : Int) := (by omega); have g4 : (d[k].toNat : Int) ≤ 57 := (by omega); clear g; by_cases c0 : d[k].toNat = 48
      · by_cases k0 : k = 0
        · subst k0; have hz : (!s.toList == [48]) = false := str_no (p3.out (by rw [head_at HD.out hlt, show d[0] = 48 from by rw [← UInt8.toNat_inj, c0]; rfl])); have c1 : ((d[0].toNat : Int) == 48) = true := (by simp; omega); clear c0; go_wp2; go_round
          case rel => exact ⟨1, by omega, rfl⟩
          case measure => simp [intOf]; omega
        · have k1 : ((k : Int) == 0) = false := (by simpa using k0); have c1 : ((d[k].toNat : Int) == 48) = true := (by simp; omega); clear c0; go_wp2; go_round
          case rel => exact ⟨k + 1, by omega, by go_num⟩
          case measure => simp [intOf]; omega
      · have c1 : ((d[k].toNat : Int) == 48) = false := (by simp; omega); clear c0; go_wp2; go_round
        case rel => exact ⟨k + 1, by omega, by go_num⟩
        case measure => simp [intOf]; omega
    · have k1 : ((k : Int) == 0) = false := (by simp; omega); by_cases g : okI (valS s.data.toList) = true
      · go_wp2_with (go_at_call 197; refine (Tryz.strconv_Atoi_ok _ (by omega) (valS s.data.toList) (by rw [atoi_eq HDEC.out, if_pos g]) _).mono ?_; rintro e w' ⟨rfl, hw⟩)
        go_ret2; exact ⟨ret2 (by rw [parseS, HDEC.out, if_pos rfl, lim_ok g]), by rcases hw with rfl | ⟨t, rfl⟩; exact Below.refl _ _; exact Joins.below_bytesWorld _ _ _ _ (Nat.le_refl _)⟩
      · have g' : okI (valS s.data.toList) = false := (by simpa using g); clear g; go_wp2_with (go_at_call 197; refine (Tryz.strconv_Atoi_range_var _ (by omega) (by rw [atoi_eq HDEC.out, g']; rfl) tp p _ HV.out).mono ?_; rintro e w' ⟨N, rfl, -, -, hw⟩)
        go_ret2; exact ⟨ret2 (by rw [parseS, HDEC.out, if_pos rfl, lim_no g']), hw⟩
set_option maxHeartbeats 400000 in
theorem parseCode_no (s : ByteArray) (w : World) (hs : s.size ≤ 140737488351232) (hdec : isDec s.data.toList = false) :
    Calls Tryz.prog 206 #[.string s] w (parsed s.data.toList w) := by
  have fin : ∀ W : World, W = w → parsed s.data.toList w (.returned (.tuple #[.int .i64 0, .int .i64 5])) W := by
    rintro W rfl; exact ⟨by rw [parseS, hdec]; rfl, Below.refl _ _⟩
  have FIN := Lib.hid fin; have HDEC := Lib.hid hdec; clear fin hdec
  go_enter Tryz.func206, Tryz.ntmps206
  go_wp2
  go_step3
  go_wp2_with (go_at_call 212; refine (trim_any _ _).mono ?_; rintro e w' ⟨d, rfl, hd, rfl⟩)
  have HD := Lib.hid hd; clear hd; have hl1 : d.size ≤ s.size := by
    have := tl_length s.data.toList; rw [← HD.out] at this
    simpa using this
  go_step3
  go_wp2; go_loop [5, 6, 18, 25] (fun i _ _ _ => ∃ k : Nat, k ≤ d.size ∧ i = .int .i64 k ∧ (d.data.toList.take k).all dgt = true ∧ (1 ≤ k → ¬ (d.data.toList.head? = some 48 ∧ s.data.toList ≠ [48]))) (fun i _ _ _ => d.size - (intOf i).toNat)
  case atStart => exact ⟨0, Nat.zero_le _, rfl, by simp, by omega⟩
  case round =>
    obtain ⟨k, hk, rfl, ha, hb⟩ := hrel; have HA := Lib.hid ha; have HB := Lib.hid hb; clear ha hb; by_cases hlt : k < d.size
    · by_cases g : dgt d[k] = true
      · have g2 := dgt_iff.1 g; have g3 : (48 : Int) ≤ (d[k].toNat : Int) := (by omega); have g4 : (d[k].toNat : Int) ≤ 57 := (by omega); have G := Lib.hid g; clear g g2; have HA1 : Hid ((d.data.toList.take (k + 1)).all dgt = true) := Lib.hid (by rw [take_snoc d k hlt, List.all_append, HA.out]; simp [G.out]); by_cases c0 : d[k].toNat = 48
        · by_cases k0 : k = 0
          · subst k0; have c1 : ((d[0].toNat : Int) == 48) = true := (by simp; omega); have C0 := Lib.hid c0; clear c0; by_cases hs48 : s.data.toList = [48]
            · have hz : (!s.toList == [48]) = false := str_no hs48; have HS := Lib.hid hs48; clear hs48; go_wp2; go_round
              case rel => exact ⟨1, by omega, rfl, HA1.out, fun _ x => x.2 HS.out⟩
              case measure => simp [intOf]; omega
            · have hz : (!s.toList == [48]) = true := str_yes hs48; clear hs48; go_wp2; go_ret2; exact FIN.out _ rfl
          · have k1 : ((k : Int) == 0) = false := (by simpa using k0); have c1 : ((d[k].toNat : Int) == 48) = true := (by simp; omega); clear c0; go_wp2; go_round
            case rel => exact ⟨k + 1, by omega, by go_num, HA1.out, fun _ => HB.out (by omega)⟩
            case measure => simp [intOf]; omega
        · have c1 : ((d[k].toNat : Int) == 48) = false := (by simp; omega); have C0 := Lib.hid c0; clear c0; go_wp2; go_round
          case rel => exact ⟨k + 1, by omega, by go_num, HA1.out, fun _ x => (by
            by_cases k0 : k = 0
            · subst k0; have e := x.1; rw [HD.out, head_at HD.out hlt] at e; exact C0.out (by rw [Option.some.inj e]; rfl)
            · exact HB.out (by omega) x)⟩
          case measure => simp [intOf]; omega
      · have g2 : (d[k].toNat : Int) < 48 ∨ 57 < (d[k].toNat : Int) := by
          rw [dgt_iff] at g; omega
        clear g; by_cases k0 : k = 0
        · subst k0; rcases g2 with g2 | g2
          all_goals
            go_wp2; go_ret2; exact FIN.out _ rfl
        · have k1 : ((k : Int) == 0) = false := (by simpa using k0); rcases g2 with g2 | g2
          all_goals
            go_wp2; go_ret2; exact FIN.out _ rfl
    · have k0 : k = 0 := by
        apply Classical.byContradiction; intro x; have e := HA.out; rw [show k = d.size by omega, List.take_of_length_le (by simp), HD.out] at e; have b := HB.out (by omega); rw [HD.out] at b; have hne : tl s.data.toList ≠ [] := by
          rw [← HD.out]; intro y; have h0 : d.data.toList.length = d.size := (by simp); rw [y] at h0; simp at h0; omega
        have c := isDec_of e hne b; rw [HDEC.out] at c; cases c
      subst k0; go_wp2; go_ret2; exact FIN.out _ rfl
theorem parseCode_any (s : ByteArray) (w : World) (hs : s.size ≤ 140737488351232) (tp : TypeId) (p : Value) (hvar : w.var? Tryz.prog "strconv.ErrRange" = some #[.iface tp p]) :
    Calls Tryz.prog 206 #[.string s] w (parsed s.data.toList w) := by
  cases h : isDec s.data.toList
  · exact parseCode_no s w hs h
  · exact parseCode_yes s w hs tp p hvar h
end Go.Proofs.YtpejflgdehioaaaGreatDoor.PackW
