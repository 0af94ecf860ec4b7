/-
  Signals in memory; what the code's variable, element and sum return.
-/
import Derived.Test.YtdiackcefojfkaaGreatDoorExFault
import Derived.Test.YtdiackcefojfkaaGreatDoorExVal
import Derived.Test.YtdiackcefojfkaaGreatDoorExWordC
import Derived.LoopTactic
namespace Go.Proofs.YtdiackcefojfkaaGreatDoor.ExW
open Go Go.RowKit Go.Proofs.YtdiackcefojfkaaGreatDoor.NumM Go.Proofs.YtdiackcefojfkaaGreatDoor.LexW Go.Proofs.YtdiackcefojfkaaGreatDoor.LexM Go.Proofs.YtdiackcefojfkaaGreatDoor.ExM

/-- The value is a slice of these signals. -/
def SigsAt (w : World) (v : Value) (env : Env) : Prop :=
  ∃ p cap, v = .slice p env.length cap ∧ env.length ≤ 140737488351232 ∧ env.length ≤ cap ∧ (0 < env.length → ∃ b off, p = some ⟨b, off, none⟩ ∧ b < w.heap.size ∧ ∀ i x, env[i]? = some x →
    w.cell? ⟨b, off + i * 2, none⟩ = some (.string x.1) ∧ w.cell? ⟨b, off + i * 2 + 1, none⟩ = some (.int .i64 x.2))
theorem SigsAt.later {w w' : World} {v : Value} {env : Env} (h : SigsAt w v env) (hb : Below w.heap.size w w') : SigsAt w' v env := by
  obtain ⟨p, cap, rfl, hl, hc, hx⟩ := h
  refine ⟨p, cap, rfl, hl, hc, fun h0 => ?_⟩
  obtain ⟨b, off, hp, hbs, hcell⟩ := hx h0
  refine ⟨b, off, hp, Nat.lt_of_lt_of_le hbs hb.size, fun i t hi => ?_⟩
  rw [hb.cell hbs, hb.cell hbs]
  exact hcell i t hi
theorem SigsAt.nil (w : World) : SigsAt w (.slice none 0 0) [] := ⟨none, 0, rfl, by simp, by simp, fun h => by simp at h⟩
def tIB (n : Int) (b : Bool) (w : World) (e : Ending) (w' : World) : Prop := e = .returned (.tuple #[.int .i64 n, .bool b]) ∧ Below w.heap.size w w'
theorem tIB_mk {a n : Int} {x b : Bool} {w w' : World} (h : a = n) (g : x = b) (hb : Below w.heap.size w w') : tIB n b w (.returned (.tuple #[.int .i64 a, .bool x])) w' := by subst h; subst g; exact ⟨rfl, hb⟩
theorem find_drop {env : Env} {k : Nat} {x : ByteArray × Int} {s : ByteArray} (h : env[k]? = some x) : findS (env.drop k) s = if x.1.data.toList = s.data.toList then some (x.2 % 65536) else findS (env.drop (k + 1)) s := by
  obtain ⟨hk, he⟩ := List.getElem?_eq_some_iff.1 h
  rw [List.drop_eq_getElem_cons hk, he]
  obtain ⟨a, v⟩ := x
  rw [findS]
theorem fnd_some {env : Env} {s : ByteArray} {v : Int} (h : findS env s = some v) : fnd env s = v ∧ hasN env s = true := by unfold fnd hasN; rw [h]; exact ⟨rfl, rfl⟩
theorem fnd_none {env : Env} {s : ByteArray} (h : findS env s = none) : fnd env s = 0 ∧ hasN env s = false := by unfold fnd hasN; rw [h]; exact ⟨rfl, rfl⟩
set_option maxRecDepth 100000 in
set_option maxHeartbeats 2000000 in
theorem variable_any (env : Env) (v : Value) (s : ByteArray) (w : World) (h : SigsAt w v env) :
    Calls Tryz.prog 66 #[v, .string s] w (tIB (fnd env s) (hasN env s) w) := by
  obtain ⟨p, cap, rfl, hl, hcap, hx⟩ := h
  have HX := Lib.hid hx
  clear hx hcap
  obtain ⟨n, hnn⟩ : ∃ n, env.length = n := ⟨_, rfl⟩
  have HN := Lib.hid hnn
  rw [hnn] at hl ⊢
  clear hnn
  have WC : Hid (∀ a W, Calls Tryz.prog 85 #[.int .i64 a] W fun e w' => e = .returned (.int .i64 (a % 65536)) ∧ W = w') := Lib.hid fun a W => WordW.wrapCode a W
  have HB0 := Lib.hid (Below.refl w.heap.size w)
  go_enter Tryz.func66, Tryz.ntmps66
  go_wp2
  go_loopw [10] (fun i wr => ∃ k : Nat, k ≤ n ∧ i = .int .i64 k ∧ Hid (findS env s = findS (env.drop k) s) ∧ Hid (Below w.heap.size w wr)) (fun i _ => n - (intOf i).toNat)
  case atStart => exact ⟨0, Nat.zero_le _, rfl, Lib.hid rfl, HB0⟩
  case round =>
    obtain ⟨k, hk, rfl, FD, BW⟩ := hrel
    by_cases hlt : k < n
    · obtain ⟨b, off, rfl, hbs, hcell⟩ := HX.out (by rw [HN.out]; omega)
      obtain ⟨x, hxk⟩ : ∃ x, env[k]? = some x := ⟨_, List.getElem?_eq_getElem (by rw [HN.out]; exact hlt)⟩
      obtain ⟨q0, q1⟩ := hcell k x hxk
      have ca0 : wr.cell? ⟨b, off + k * 2, none⟩ = some (.string x.1) := by rw [BW.out.cell hbs]; exact q0
      have ca1 : wr.cell? ⟨b, off + k * 2 + 1, none⟩ = some (.int .i64 x.2) := by rw [BW.out.cell hbs]; exact q1
      have FK := Lib.hid (find_drop (s := s) hxk)
      have HB1 : Hid (Below w.heap.size w (wr.alloc (.cells #[.string x.1, .int .i64 x.2] 47))) := Lib.hid (BW.out.alloc BW.out.size _)
      obtain ⟨y, u⟩ := x
      simp only at ca0 ca1
      clear hcell q0 q1 hxk
      by_cases e : y.data.toList = s.data.toList
      · have e1 : (y.toList == s.toList) = true := by rw [Lib.toList_data, Lib.toList_data, e]; simp
        have EE := Lib.hid (fnd_some (env := env) (s := s) (v := u % 65536) (by rw [FD.out, FK.out, if_pos e]))
        clear e
        go_wp2_with (go_at_call 85; ((with_reducible refine (WC.out _ _).mono ?_); rintro e w1 ⟨rfl, rfl⟩))
        go_ret2
        exact tIB_mk EE.out.1.symm EE.out.2.symm HB1.out
      · have e1 : (y.toList == s.toList) = false := by rw [Lib.toList_data, Lib.toList_data]; simpa using e
        have FD2 : Hid (findS env s = findS (env.drop (k + 1)) s) := Lib.hid (by rw [FD.out, FK.out, if_neg e])
        clear e
        go_wp2
        go_roundw
        case rel => exact ⟨k + 1, by omega, by go_num, FD2, HB1⟩
        case measure => simp [intOf]; omega
    · have EE := Lib.hid (fnd_none (env := env) (s := s) (by rw [FD.out, List.drop_of_length_le (by rw [HN.out]; omega)]; rfl))
      go_wp2
      go_ret2
      exact tIB_mk EE.out.1.symm EE.out.2.symm BW.out
theorem elm_data (a : ByteArray) (i : Nat) : (elmN a i).data.toList = a.data.toList ++ [91, UInt8.ofNat (48 + i), 93] := rfl
theorem elm_cat (a d : ByteArray) (i : Nat) (h : d.data.toList = [UInt8.ofNat (48 + i)]) : ((a ++ ⟨#[91]⟩) ++ d) ++ ⟨#[93]⟩ = elmN a i := by
  apply bs_inj
  rw [elm_data]
  simp [ByteArray.data_append, h]
set_option maxRecDepth 100000 in
set_option maxHeartbeats 2000000 in
theorem element_any (env : Env) (v : Value) (a : ByteArray) (i : Int) (w : World) (h : SigsAt w v env) (ha : a.size ≤ 100) (hi : 0 ≤ i) :
    Calls Tryz.prog 67 #[v, .string a, .int .i64 i] w (tIB (elS env a i) (decide (i ≤ 7) && hasN env (elmN a i.toNat)) w) := by
  by_cases hb : 8 ≤ i
  · have EE : Hid (elS env a i = 0 ∧ (decide (i ≤ 7) && hasN env (elmN a i.toNat)) = false) := Lib.hid ⟨if_neg (by omega), by rw [decide_eq_false (by omega)]; rfl⟩
    obtain ⟨p, cap, rfl, _⟩ := h
    go_enter Tryz.func67, Tryz.ntmps67
    go_wp2
    go_ret2
    exact tIB_mk EE.out.1.symm EE.out.2.symm (Below.refl _ _)
  · obtain ⟨k, rfl⟩ := Int.eq_ofNat_of_zero_le hi
    have hk : k < 10 := by omega
    have EE : Hid (elS env a (k : Int) = fnd env (elmN a k) ∧ (decide ((k : Int) ≤ 7) && hasN env (elmN a (k : Int).toNat)) = hasN env (elmN a k)) := Lib.hid ⟨by unfold elS; rw [if_pos (by omega)]; rfl, by rw [decide_eq_true (by omega)]; rfl⟩
    have VC := Lib.hid (variable_any env v (elmN a k) w h)
    have IC := fun W => Tryz.strconv_Itoa_small k (by omega) W
    rw [Lib.decDigits_one hk] at IC
    have HC := Lib.hid (elm_cat a ⟨#[UInt8.ofNat (48 + k)]⟩ k rfl)
    have IC := Lib.hid IC
    obtain ⟨d, hd⟩ : ∃ d : ByteArray, (⟨#[UInt8.ofNat (48 + k)]⟩ : ByteArray) = d := ⟨_, rfl⟩
    have hds : d.size = 1 := by rw [← hd]; rfl
    rw [hd] at HC
    have hd' : (⟨[UInt8.ofNat (48 + k)].toArray⟩ : ByteArray) = d := hd
    rw [hd'] at IC
    have hds2 : d.size ≤ 1 := by omega
    clear hd hd' hds h hi
    obtain ⟨x, hx⟩ : ∃ x, elmN a k = x := ⟨_, rfl⟩
    rw [hx] at HC VC EE
    clear hx
    go_enter Tryz.func67, Tryz.ntmps67
    go_wp2_with (first
      | (go_at_call 86; ((with_reducible refine (IC.out _).mono ?_); rintro e w1 ⟨rfl, hw⟩; subst hw))
      | (go_at_call 66; rw [HC.out]; ((with_reducible refine VC.out.mono ?_); rintro e w1 ⟨rfl, hb⟩; have HB1 := Lib.hid hb; clear hb)))
    go_ret2
    exact tIB_mk EE.out.1.symm EE.out.2.symm HB1.out
theorem addS_eq (env : Env) (a : ByteArray) (k : Nat) : sumK env a (k + 1) = (sumK env a k + elS env a k) % 65536 := rfl
set_option maxRecDepth 100000 in
set_option maxHeartbeats 2000000 in
theorem sum_any (env : Env) (v : Value) (a : ByteArray) (w : World) (h : SigsAt w v env) (ha : a.size ≤ 100) :
    Calls Tryz.prog 68 #[v, .string a] w (tInt (sumK env a 8) w) := by
  have HS := Lib.hid h
  have AC : Hid (∀ x y W, Calls Tryz.prog 87 #[.int .i64 x, .int .i64 y] W fun e w' => e = .returned (.int .i64 ((x + y) % 65536)) ∧ W = w') := Lib.hid fun x y W => WordW.addCode x y W
  have HB0 := Lib.hid (Below.refl w.heap.size w)
  obtain ⟨p, cap, hv, _⟩ := h
  subst hv
  go_enter Tryz.func68, Tryz.ntmps68
  go_wp2
  go_loopw [5, 9] (fun t i wr => ∃ k : Nat, k ≤ 8 ∧ i = .int .i64 k ∧ t = .int .i64 (sumK env a k) ∧ Hid (Below w.heap.size w wr)) (fun _ i _ => 8 - (intOf i).toNat)
  case atStart => exact ⟨0, Nat.zero_le _, rfl, rfl, HB0⟩
  case round =>
    obtain ⟨k, hk, rfl, rfl, BW⟩ := hrel
    by_cases hlt : k < 8
    · have EC := Lib.hid (element_any env _ a (k : Int) wr (HS.out.later BW.out) ha (by omega))
      have NX := Lib.hid (addS_eq env a k)
      have hlt' : (k : Int) < 8 := by omega
      generalize (decide ((k : Int) ≤ 7) && hasN env (elmN a (k : Int).toNat)) = q at *
      generalize elS env a (k : Int) = y at *
      generalize sumK env a k = z at *
      go_wp2_with (first
        | (go_at_call 67; ((with_reducible refine EC.out.mono ?_); rintro e w1 ⟨rfl, hb⟩; have HB1 := Lib.hid (BW.out.trans (hb.mono BW.out.size)); clear hb))
        | (go_at_call 87; ((with_reducible refine (AC.out _ _ _).mono ?_); rintro e w1 ⟨rfl, rfl⟩)))
      go_roundw
      case rel => exact ⟨k + 1, by omega, by go_num, by rw [NX.out], HB1⟩
      case measure => simp [intOf]; omega
    · have hk8 : k = 8 := by omega
      subst hk8
      go_wp2
      go_ret
      exact tInt_mk rfl BW.out
end Go.Proofs.YtdiackcefojfkaaGreatDoor.ExW
