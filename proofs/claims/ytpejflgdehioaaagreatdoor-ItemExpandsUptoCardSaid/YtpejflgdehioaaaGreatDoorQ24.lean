/-
  Laws that the card uses; no conditions beside those that each states (WordMath ExVal ExFold LexParse ExWordBits ExWordW ExSig ExComp ExValue ExEval ExWordR ExRefA).
-/
import Derived.Test.YtpejflgdehioaaaGreatDoorQ20
namespace Go.Proofs.YtpejflgdehioaaaGreatDoor.WordM
open Go
theorem bitN_le (x i : Nat) : bitN x i ≤ 1 := by unfold bitN; omega
theorem bitN_test (x i : Nat) : bitN x i = (x.testBit i).toNat := by unfold bitN; rw [Nat.toNat_testBit]
theorem sumN_le (n x : Nat) : sumN n x ≤ n := by
  induction n with
  | zero => simp [sumN]
  | succ n ih => have := bitN_le x n; simp only [sumN]; omega
theorem tmod_pos (n : Int) (h : ¬ n.tmod 65536 < 0) : n.tmod 65536 = n % 65536 := by
  rw [Int.tmod_eq_emod] at *
  split at h <;> rename_i hc
  · rw [if_pos hc]; omega
  · have : ((65536 : Int).natAbs : Int) = 65536 := rfl; omega
theorem tmod_neg (n : Int) (h : n.tmod 65536 < 0) : n.tmod 65536 + 65536 = n % 65536 := by
  rw [Int.tmod_eq_emod] at *
  split at h <;> rename_i hc
  · omega
  · rw [if_neg hc]; have : ((65536 : Int).natAbs : Int) = 65536 := rfl; omega
theorem tmod_range (n : Int) : -65536 < n.tmod 65536 ∧ n.tmod 65536 < 65536 :=
  ⟨by have := Int.lt_tmod_of_pos n (show (0 : Int) < 65536 by omega); omega, Int.tmod_lt_of_pos n (by omega)⟩
theorem mulmod (a b : Int) : (a % 65536) * (b % 65536) % 65536 = a * b % 65536 := (Int.mul_emod a b 65536).symm
theorem mulmod_l (a b : Int) : (a % 65536) * b % 65536 = a * b % 65536 := by
  rw [Int.mul_emod, Int.emod_emod_of_dvd _ (Int.dvd_refl _), ← Int.mul_emod]
theorem pow_bounds (n : Nat) (h : n ≤ 16) : 1 ≤ (2 : Int) ^ n ∧ (2 : Int) ^ n ≤ 65536 := by
  have a : 1 ≤ 2 ^ n := Nat.one_le_two_pow; have b : 2 ^ n ≤ 2 ^ 16 := Nat.pow_le_pow_right (by omega) h; have e : ((2 ^ n : Nat) : Int) = (2 : Int) ^ n := (by simp); rw [← e]; omega
theorem divNat (x : Int) (n : Nat) (h : 0 ≤ x) : x / 2 ^ n = ((x.toNat / 2 ^ n : Nat) : Int) := by
  obtain ⟨X, rfl⟩ := Int.eq_ofNat_of_zero_le h; simp
theorem div_bounds (x : Int) (n : Nat) (h0 : 0 ≤ x) (h1 : x < 65536) : 0 ≤ x / 2 ^ n ∧ x / 2 ^ n < 65536 := by
  rw [divNat x n h0]; have := Nat.div_le_self x.toNat (2 ^ n); generalize x.toNat / 2 ^ n = q at *
  omega
end Go.Proofs.YtpejflgdehioaaaGreatDoor.WordM
namespace Go.Proofs.YtpejflgdehioaaaGreatDoor.ExM
open Go Go.Proofs.YtpejflgdehioaaaGreatDoor.WordM Go.Proofs.YtpejflgdehioaaaGreatDoor.LexM
def asksB (o : Int) : Bool := decide (o = 1) || (isVr o || isAr o)
theorem ev_mk (env : Env) (o n : Int) (s : ByteArray) (ks : List Ex) : ev env (.mk o n s ks) = valS env o n s (evs env ks) := by rw [ev]
theorem evs_map (env : Env) (ks : List Ex) : evs env ks = ks.map (ev env) := by
  induction ks with
  | nil => rw [evs]; rfl
  | cons a r ih => rw [evs, ih]; rfl
theorem kn_mk (env : Env) (o n : Int) (s : ByteArray) (ks : List Ex) : kn env (.mk o n s ks) = (kns env ks && knwS env o s) := by rw [kn]
theorem kns_all (env : Env) (ks : List Ex) : kns env ks = ks.all (kn env) := by
  induction ks with
  | nil => rw [kns]; rfl
  | cons a r ih => rw [kns, ih]; rfl
theorem evs_len (env : Env) (ks : List Ex) : (evs env ks).length = ks.length := by rw [evs_map]; simp
def evalS (env : Env) (e : Ex) : Int × Int := if vld e = 0 then (if kn env e = true then (ev env e, 0) else (0, 7)) else (0, 1)
theorem tr_range (b : Bool) : 0 ≤ tr b ∧ tr b ≤ 65535 := by cases b <;> simp [tr]
theorem fnd_range (env : Env) (s : ByteArray) : 0 ≤ fnd env s ∧ fnd env s ≤ 65535 := by
  unfold fnd; induction env with
  | nil => simp [findS]
  | cons x r ih =>
    obtain ⟨a, v⟩ := x; unfold findS; split
    · simp only [Option.getD_some]; omega
    · exact ih
theorem elS_range (env : Env) (a : ByteArray) (i : Int) : 0 ≤ elS env a i ∧ elS env a i ≤ 65535 := by
  unfold elS; split
  · exact fnd_range _ _
  · omega
theorem sumK_range (env : Env) (a : ByteArray) (k : Nat) : 0 ≤ sumK env a k ∧ sumK env a k ≤ 65535 := by
  cases k with
  | zero => simp [sumK]
  | succ k => unfold sumK; omega
def Wd (l : List Int) : Prop := ∀ v ∈ l, 0 ≤ v ∧ v ≤ 65535
theorem ix_range {l : List Int} (h : Wd l) (i : Nat) : 0 ≤ ix l i ∧ ix l i ≤ 65535 := by
  unfold ix; by_cases g : i < l.length
  · rw [List.getD_eq_getElem?_getD, List.getElem?_eq_getElem g]; exact h _ (List.getElem_mem g)
  · rw [List.getD_eq_getElem?_getD, List.getElem?_eq_none (by omega)]; simp
theorem shlM_range (a n : Int) : 0 ≤ shlM a n ∧ shlM a n ≤ 65535 := by unfold shlM; split <;> omega
theorem shrM_range (a n : Int) : 0 ≤ shrM a n ∧ shrM a n ≤ 65535 := by
  unfold shrM; split
  · have h0 : 0 ≤ a % 65536 := (by omega); have h1 : a % 65536 ≤ 65535 := (by omega); have hp : (0 : Int) < 2 ^ n.toNat := Int.pow_pos (by omega); refine ⟨Int.ediv_nonneg h0 (by omega), Int.le_trans (Int.ediv_le_self _ h0) h1⟩
  · omega
theorem and_range {a b : Nat} (ha : a ≤ 65535) : a &&& b ≤ 65535 := Nat.le_trans Nat.and_le_left ha
theorem or_range {a b : Nat} (ha : a ≤ 65535) (hb : b ≤ 65535) : a ||| b ≤ 65535 := by
  have := Nat.or_lt_two_pow (n := 16) (x := a) (y := b) (by omega) (by omega); omega
theorem xor_range {a b : Nat} (ha : a ≤ 65535) (hb : b ≤ 65535) : a ^^^ b ≤ 65535 := by
  have := Nat.xor_lt_two_pow (n := 16) (x := a) (y := b) (by omega) (by omega); omega
theorem rng_ite {c : Prop} [Decidable c] {a b : Int} (ha : 0 ≤ a ∧ a ≤ 65535) (hb : 0 ≤ b ∧ b ≤ 65535) : 0 ≤ (if c then a else b) ∧ (if c then a else b) ≤ 65535 := by
  by_cases h : c
  · rw [if_pos h]; exact ha
  · rw [if_neg h]; exact hb
theorem opS_range {o : Int} {l : List Int} (h : Wd l) : 0 ≤ opS o l ∧ opS o l ≤ 65535 := by
  have h0 := ix_range h 0; have h1 := ix_range h 1; have h2 := ix_range h 2; have n0 : (ix l 0).toNat ≤ 65535 := (by omega); have n1 : (ix l 1).toNat ≤ 65535 := (by omega); unfold opS; refine rng_ite (tr_range _) (rng_ite (by omega) (rng_ite (by omega) (rng_ite ?_ (rng_ite (by omega) (rng_ite (by omega) (rng_ite (by omega) (rng_ite (shlM_range _ _) (rng_ite (shrM_range _ _) (rng_ite ?_ (rng_ite ?_ (rng_ite ?_ (rng_ite (tr_range _) (rng_ite (tr_range _) (rng_ite (tr_range _) (rng_ite (tr_range _) (rng_ite (tr_range _) (rng_ite (tr_range _) (rng_ite (tr_range _) (rng_ite (rng_ite h2 h1) (tr_range _))))))))))))))))))))
  · have := sumN_le 16 (wordN (ix l 0)); unfold onesM; omega
  · have := and_range (b := (ix l 1).toNat) n0; omega
  · have := or_range n0 n1; omega
  · have := xor_range n0 n1; omega
theorem flt_one {l : Nat} {n : Int} {s : ByteArray} {k : Nat} (h : fltS ⟨l, 1, n, s, k⟩ = 0) : 0 ≤ n ∧ n ≤ 65535 := by
  unfold fltS at h; split at h
  · omega
  · rename_i hb; simp [badA, greatS] at hb; omega
theorem ev_range (env : Env) (e : Ex) (h : Ok e) : 0 ≤ ev env e ∧ ev env e ≤ 65535 := by
  induction e using Ex.ind with
  | h o n s ks ih =>
    rw [ok_mk] at h; rw [ev_mk]; have hw : Wd (evs env ks) := fun v hv => by
      rw [evs_map] at hv; obtain ⟨a, ha, rfl⟩ := List.mem_map.1 hv; exact ih a ha (h.2 a ha)
    unfold valS; split
    · rename_i ho; subst ho; exact flt_one h.1
    · split
      · exact fnd_range _ _
      · split
        · exact elS_range _ _ _
        · split
          · exact sumK_range _ _ _
          · exact opS_range hw
theorem evs_range (env : Env) (ks : List Ex) (h : ∀ a ∈ ks, Ok a) : Wd (evs env ks) := fun v hv => by
  rw [evs_map] at hv; obtain ⟨a, ha, rfl⟩ := List.mem_map.1 hv; exact ev_range env a (h a ha)
theorem asks_no {o : Int} (h : asksB o = false) : o ≠ 1 ∧ o ≠ 2 ∧ o ≠ 3 ∧ o ≠ 24 := by
  unfold asksB isVr isAr at h; simp only [Bool.or_eq_false_iff, decide_eq_false_iff_not] at h; exact ⟨h.1, h.2.1, h.2.2.1, h.2.2.2⟩
theorem valS_comp {env : Env} {o n : Int} {s : ByteArray} {l : List Int} (h : asksB o = false) : valS env o n s l = opS o l ∧ knwS env o s = true := by
  obtain ⟨h1, h2, h3, h4⟩ := asks_no h; exact ⟨by unfold valS; rw [if_neg h1, if_neg h2, if_neg h3, if_neg h4], by unfold knwS; rw [if_neg h2, if_neg (by omega)]⟩
end Go.Proofs.YtpejflgdehioaaaGreatDoor.ExM
namespace Go.Proofs.YtpejflgdehioaaaGreatDoor.PackW
open Go Go.RowKit Go.Proofs.YtpejflgdehioaaaGreatDoor.NumM
theorem ret1 {k : IntKind} {a b : Int} (h : a = b) : Ending.returned (.int k a) = .returned (.int k b) := by rw [h]
end Go.Proofs.YtpejflgdehioaaaGreatDoor.PackW
namespace Go.Proofs.YtpejflgdehioaaaGreatDoor.WordW
open Go Go.RowKit Go.Proofs.YtpejflgdehioaaaGreatDoor.WordM
theorem ret1 {k : IntKind} {a b : Int} (h : a = b) : Ending.returned (.int k a) = .returned (.int k b) := by rw [h]
def shlS (a n : Int) : Int := if 0 ≤ n ∧ n ≤ 15 then a * 2 ^ n.toNat % 65536 else 0
def shrS (a n : Int) : Int := if 0 ≤ n ∧ n ≤ 15 then a % 65536 / 2 ^ n.toNat else 0
def bitS (a n : Int) : Int := if 0 ≤ n ∧ n ≤ 15 then (bitN (wordN a) n.toNat : Int) else 0
def onesS (a : Int) : Int := (sumN 16 (wordN a) : Int)
theorem inside {n : Int} {l h : Int} (hn : l ≤ n ∧ n ≤ h) : (decide (n < l) || decide (h < n)) = false := by
  have g1 : ¬ n < l := (by omega); have g2 : ¬ h < n := (by omega); simp [g1, g2]
end Go.Proofs.YtpejflgdehioaaaGreatDoor.WordW
namespace Go.Proofs.YtpejflgdehioaaaGreatDoor.ExW
open Go Go.RowKit Go.Proofs.YtpejflgdehioaaaGreatDoor.NumM Go.Proofs.YtpejflgdehioaaaGreatDoor.LexW Go.Proofs.YtpejflgdehioaaaGreatDoor.LexM Go.Proofs.YtpejflgdehioaaaGreatDoor.ExM
theorem find_drop {env : Env} {k : Nat} {x : ByteArray × Int} {s : ByteArray} (h : env[k]? = some x) : findS (env.drop k) s = if x.1.data.toList = s.data.toList then some (x.2 % 65536) else findS (env.drop (k + 1)) s := by
  obtain ⟨hk, he⟩ := List.getElem?_eq_some_iff.1 h; rw [List.drop_eq_getElem_cons hk, he]; obtain ⟨a, v⟩ := x; rw [findS]
theorem fnd_some {env : Env} {s : ByteArray} {v : Int} (h : findS env s = some v) : fnd env s = v ∧ hasN env s = true := by unfold fnd hasN; rw [h]; exact ⟨rfl, rfl⟩
theorem fnd_none {env : Env} {s : ByteArray} (h : findS env s = none) : fnd env s = 0 ∧ hasN env s = false := by unfold fnd hasN; rw [h]; exact ⟨rfl, rfl⟩
theorem addS_eq (env : Env) (a : ByteArray) (k : Nat) : sumK env a (k + 1) = (sumK env a k + elS env a k) % 65536 := rfl
theorem ins_drop {n : Int} {l : List Int} {k : Nat} {a b : Int} (ha : l[k]? = some a) (hb : l[k + 1]? = some b) : insB n (l.drop k) = ((decide (a ≤ n) && decide (n ≤ b)) || insB n (l.drop (k + 2))) := by
  obtain ⟨h1, e1⟩ := List.getElem?_eq_some_iff.1 ha; obtain ⟨h2, e2⟩ := List.getElem?_eq_some_iff.1 hb; rw [List.drop_eq_getElem_cons h1, List.drop_eq_getElem_cons h2, e1, e2, insB]
end Go.Proofs.YtpejflgdehioaaaGreatDoor.ExW
namespace Go.Proofs.YtpejflgdehioaaaGreatDoor.ExW
open Go Go.RowKit Go.«Sort» Go.Proofs.YtpejflgdehioaaaGreatDoor.NumM Go.Proofs.YtpejflgdehioaaaGreatDoor.LexW Go.Proofs.YtpejflgdehioaaaGreatDoor.LexM Go.Proofs.YtpejflgdehioaaaGreatDoor.ExM
theorem flt_zero {lv : Nat} {o n : Int} {s : ByteArray} {k : Nat} (h : fltS ⟨lv, o, n, s, k⟩ = 0) : badA ⟨lv, o, n, s, k⟩ = false ∧ badN ⟨lv, o, n, s, k⟩ = false := by
  unfold fltS at h; cases ha : badA ⟨lv, o, n, s, k⟩
  · rw [ha] at h; cases hb : badN ⟨lv, o, n, s, k⟩
    · exact ⟨rfl, rfl⟩
    · rw [hb] at h; simp at h
  · rw [ha] at h; simp at h
theorem flt_takes {lv : Nat} {o n : Int} {s : ByteArray} {k : Nat} (h : fltS ⟨lv, o, n, s, k⟩ = 0) : takesS o k = true := by
  have := (flt_zero h).1; unfold badA at this; cases ht : takesS o k
  · simp [ht] at this
  · rfl
theorem takes_op {o : Int} {k : Nat} (h : takesS o k = true) : 1 ≤ o ∧ o ≤ 25 := by
  by_cases g : 1 ≤ o ∧ o ≤ 25
  · exact g
  · exfalso; unfold takesS at h; rw [if_neg (by omega), ar_out g] at h; simp at h
theorem nm_size {l : List UInt8} (h : nmB l = true) : l.length ≤ 16 := by
  cases l with
  | nil => simp
  | cons a r =>
    unfold nmB at h; simp only [Bool.and_eq_true, decide_eq_true_eq] at h; simp; omega
theorem flt_name {lv : Nat} {o n : Int} {s : ByteArray} {k : Nat} (h : fltS ⟨lv, o, n, s, k⟩ = 0) (ho : o = 3 ∨ o = 24) : s.size ≤ 100 := by
  have h2 := (flt_zero h).2; unfold badN at h2; have ha : isAr o = true := (by unfold isAr; rcases ho with rfl | rfl <;> rfl); simp only [ha, Bool.true_and, Bool.or_eq_false_iff, Bool.not_eq_false'] at h2; have := nm_size h2.2; rw [len_data] at this; omega
end Go.Proofs.YtpejflgdehioaaaGreatDoor.ExW
namespace Go.Proofs.YtpejflgdehioaaaGreatDoor.ExW
open Go Go.RowKit Go.Proofs.YtpejflgdehioaaaGreatDoor.NumM Go.Proofs.YtpejflgdehioaaaGreatDoor.LexW Go.Proofs.YtpejflgdehioaaaGreatDoor.LexM Go.Proofs.YtpejflgdehioaaaGreatDoor.ExM
theorem kns_take {env : Env} {ks : List Ex} {k : Nat} {a : Ex} (h : ks[k]? = some a) : kns env (ks.take (k + 1)) = (kns env (ks.take k) && kn env a) := by
  obtain ⟨hk, he⟩ := List.getElem?_eq_some_iff.1 h; rw [kns_all, kns_all, List.take_succ_eq_append_getElem hk, List.all_append, he]; simp
def tEv (r : Int × Int) (w : World) (e : Ending) (w' : World) : Prop := e = .returned (.tuple #[.int .i64 r.1, .int .i64 r.2]) ∧ Below w.heap.size w w'
theorem tEv_mk {a f : Int} {r : Int × Int} {w w' : World} (h : r = (a, f)) (hb : Below w.heap.size w w') : tEv r w (.returned (.tuple #[.int .i64 a, .int .i64 f])) w' := by subst h; exact ⟨rfl, hb⟩
end Go.Proofs.YtpejflgdehioaaaGreatDoor.ExW
namespace Go.Proofs.YtpejflgdehioaaaGreatDoor.WordW
open Go Go.RowKit Go.Proofs.YtpejflgdehioaaaGreatDoor.WordM
theorem refWrap (a : Int) (w : World) (_a0 : -9223372036854775808 ≤ a) (_a1 : a ≤ 9223372036854775807) :
    Calls Tryz.prog 178 #[.int .i64 a] w fun e w' => e = .returned (.int .i64 (a % 65536)) ∧ w = w' := by
  have hr := tmod_range a; by_cases h : a.tmod 65536 < 0
  · have e := tmod_neg a h
    go_enter Tryz.func178, Tryz.ntmps178
    go_wp2; go_ret; refine ⟨ret1 ?_, rfl⟩; rw [← e]; first | omega | (unfold wrap64; omega)
  · have e := tmod_pos a h
    go_enter Tryz.func178, Tryz.ntmps178
    go_wp2; go_ret; exact ⟨ret1 (by first | exact e | rfl), rfl⟩
theorem refAdd (a b : Int) (w : World) (a0 : -9223372036854775808 ≤ a) (a1 : a ≤ 9223372036854775807) (b0 : -9223372036854775808 ≤ b) (b1 : b ≤ 9223372036854775807) :
    Calls Tryz.prog 160 #[.int .i64 a, .int .i64 b] w fun e w' => e = .returned (.int .i64 ((a + b) % 65536)) ∧ w = w' := by
  have he : wrap64 (a % 65536 + b % 65536) = a % 65536 + b % 65536 := by unfold wrap64; omega
  go_enter Tryz.func160, Tryz.ntmps160
  go_wp2_with (go_at_call 178; refine (refWrap _ _ (by omega) (by omega)).mono ?_; rintro e w' ⟨rfl, rfl⟩)
  go_ret; exact ⟨ret1 (by omega), rfl⟩
theorem refSub (a b : Int) (w : World) (a0 : -9223372036854775808 ≤ a) (a1 : a ≤ 9223372036854775807) (b0 : -9223372036854775808 ≤ b) (b1 : b ≤ 9223372036854775807) :
    Calls Tryz.prog 183 #[.int .i64 a, .int .i64 b] w fun e w' => e = .returned (.int .i64 ((a - b) % 65536)) ∧ w = w' := by
  have he : wrap64 (a % 65536 - b % 65536) = a % 65536 - b % 65536 := by unfold wrap64; omega
  go_enter Tryz.func183, Tryz.ntmps183
  go_wp2_with (go_at_call 178; refine (refWrap _ _ (by omega) (by omega)).mono ?_; rintro e w' ⟨rfl, rfl⟩)
  go_ret; exact ⟨ret1 (by omega), rfl⟩
theorem refMul (a b : Int) (w : World) (a0 : -9223372036854775808 ≤ a) (a1 : a ≤ 9223372036854775807) (b0 : -9223372036854775808 ≤ b) (b1 : b ≤ 9223372036854775807) :
    Calls Tryz.prog 184 #[.int .i64 a, .int .i64 b] w fun e w' => e = .returned (.int .i64 (a * b % 65536)) ∧ w = w' := by
  have hm0 := Int.mul_nonneg (show 0 ≤ a % 65536 by omega) (show 0 ≤ b % 65536 by omega); have hm1 : a % 65536 * (b % 65536) ≤ 65535 * 65535 := Int.mul_le_mul (by omega) (by omega) (by omega) (by omega); have he : wrap64 (a % 65536 * (b % 65536)) = a % 65536 * (b % 65536) := by unfold wrap64; omega
  go_enter Tryz.func184, Tryz.ntmps184
  go_wp2_with (go_at_call 178; refine (refWrap _ _ (by omega) (by omega)).mono ?_; rintro e w' ⟨rfl, rfl⟩)
  go_ret; exact ⟨ret1 (by exact mulmod a b), rfl⟩
theorem refNeg (a : Int) (w : World) (a0 : -9223372036854775808 ≤ a) (a1 : a ≤ 9223372036854775807) :
    Calls Tryz.prog 181 #[.int .i64 a] w fun e w' => e = .returned (.int .i64 (-a % 65536)) ∧ w = w' := by
  have he : wrap64 (-(a % 65536)) = -(a % 65536) := by unfold wrap64; omega
  go_enter Tryz.func181, Tryz.ntmps181
  go_wp2_with (go_at_call 178; refine (refWrap _ _ (by omega) (by omega)).mono ?_; rintro e w' ⟨rfl, rfl⟩)
  go_ret; exact ⟨ret1 (by omega), rfl⟩
theorem refInv (a : Int) (w : World) (a0 : -9223372036854775808 ≤ a) (a1 : a ≤ 9223372036854775807) :
    Calls Tryz.prog 180 #[.int .i64 a] w fun e w' => e = .returned (.int .i64 (65535 - a % 65536)) ∧ w = w' := by
  have he : wrap64 (65535 - a % 65536) = 65535 - a % 65536 := by unfold wrap64; omega
  go_enter Tryz.func180, Tryz.ntmps180
  go_wp2_with (go_at_call 178; refine (refWrap _ _ (by omega) (by omega)).mono ?_; rintro e w' ⟨rfl, rfl⟩)
  go_ret; exact ⟨rfl, rfl⟩
theorem refPower (n : Int) (w : World) (h0 : 0 ≤ n) (h1 : n ≤ 16) :
    Calls Tryz.prog 203 #[.int .i64 n] w fun e w' => e = .returned (.int .i64 (2 ^ n.toNat)) ∧ w = w' := by
  go_enter Tryz.func203, Tryz.ntmps203
  go_wp2; go_loop [3, 4] (fun p i => ∃ k : Nat, (k : Int) ≤ n ∧ i = .int .i64 k ∧ p = .int .i64 (2 ^ k)) (fun _ i => (n - intOf i).toNat)
  case atStart => exact ⟨0, by omega, rfl, rfl⟩
  case round =>
    obtain ⟨k, hk, rfl, rfl⟩ := hrel; have hb := pow_bounds k (by omega); have hb0 := hb.1; have hb1 := hb.2; clear hb; by_cases hlt : (k : Int) < n
    · have he : wrap64 (2 * 2 ^ k) = 2 ^ (k + 1) := (by rw [Int.pow_succ, Int.mul_comm]; unfold wrap64; omega); go_wp2; go_round
      case rel => exact ⟨k + 1, by omega, by go_num, by first | rfl | rw [Int.pow_succ, Int.mul_comm]⟩
      case measure => simp [intOf]; omega
    · have hkn : n.toNat = k := (by omega); go_wp2; go_ret; exact ⟨ret1 (by first | rfl | rw [hkn]), rfl⟩
theorem refShl (a n : Int) (w : World) (a0 : -9223372036854775808 ≤ a) (a1 : a ≤ 9223372036854775807) :
    Calls Tryz.prog 188 #[.int .i64 a, .int .i64 n] w fun e w' => e = .returned (.int .i64 (shlS a n)) ∧ w = w' := by
  unfold shlS; by_cases h : 0 ≤ n ∧ n ≤ 15
  · rw [if_pos h]; have ht := inside h; obtain ⟨h0, h1⟩ := h; have hb := pow_bounds n.toNat (by omega); have hm0 := Int.mul_nonneg (show 0 ≤ a % 65536 by omega) (show (0 : Int) ≤ 2 ^ n.toNat by omega); have hm1 : a % 65536 * 2 ^ n.toNat ≤ 65535 * 65536 := Int.mul_le_mul (by omega) hb.2 (by omega) (by omega); have he : wrap64 (a % 65536 * 2 ^ n.toNat) = a % 65536 * 2 ^ n.toNat := (by unfold wrap64; omega); clear hb
    go_enter Tryz.func188, Tryz.ntmps188
    go_wp2_with (first | (go_at_call 178; refine (refWrap _ _ (by omega) (by omega)).mono ?_; rintro e w' ⟨rfl, rfl⟩) | (go_at_call 203; refine (refPower _ _ (by omega) (by omega)).mono ?_; rintro e w' ⟨rfl, rfl⟩))
    go_ret; exact ⟨ret1 (mulmod_l _ _), rfl⟩
  · rw [if_neg h]; by_cases h0 : n < 0
    · go_enter Tryz.func188, Tryz.ntmps188
      go_wp2; go_ret; exact ⟨rfl, rfl⟩
    · have h1 : 15 < n := by omega
      go_enter Tryz.func188, Tryz.ntmps188
      go_wp2; go_ret; exact ⟨rfl, rfl⟩
theorem refShr (a n : Int) (w : World) (a0 : -9223372036854775808 ≤ a) (a1 : a ≤ 9223372036854775807) :
    Calls Tryz.prog 189 #[.int .i64 a, .int .i64 n] w fun e w' => e = .returned (.int .i64 (shrS a n)) ∧ w = w' := by
  unfold shrS; by_cases h : 0 ≤ n ∧ n ≤ 15
  · rw [if_pos h]; have ht := inside h; obtain ⟨h0, h1⟩ := h; have hb := pow_bounds n.toNat (by omega); have hz : ((2 : Int) ^ n.toNat == 0) = false := beq_false_of_ne (by omega); have hd := div_bounds (a % 65536) n.toNat (by omega) (by omega); have he : (a % 65536).tdiv (2 ^ n.toNat) = a % 65536 / 2 ^ n.toNat := Int.tdiv_eq_ediv_of_nonneg (by omega)
    go_enter Tryz.func189, Tryz.ntmps189
    go_wp2_with (first | (go_at_call 178; refine (refWrap _ _ (by omega) (by omega)).mono ?_; rintro e w' ⟨rfl, rfl⟩) | (go_at_call 203; refine (refPower _ _ (by omega) (by omega)).mono ?_; rintro e w' ⟨rfl, rfl⟩))
    go_ret; exact ⟨rfl, rfl⟩
  · rw [if_neg h]; by_cases h0 : n < 0
    · go_enter Tryz.func189, Tryz.ntmps189
      go_wp2; go_ret; exact ⟨rfl, rfl⟩
    · have h1 : 15 < n := by omega
      go_enter Tryz.func189, Tryz.ntmps189
      go_wp2; go_ret; exact ⟨rfl, rfl⟩
theorem bit_of_shr (a n : Int) : (shrS a n).tmod 2 = bitS a n := by
  unfold shrS bitS; by_cases h : 0 ≤ n ∧ n ≤ 15
  · rw [if_pos h, if_pos h, divNat _ _ (by omega), Int.tmod_eq_emod_of_nonneg (Int.natCast_nonneg _)]; unfold bitN wordN; omega
  · rw [if_neg h, if_neg h]; rfl
theorem bitS_in (a : Int) (k : Nat) (h : k < 16) : bitS a k = (bitN (wordN a) k : Int) := by
  unfold bitS; rw [if_pos (by omega), Int.toNat_natCast]
theorem refBit (a n : Int) (w : World) (a0 : -9223372036854775808 ≤ a) (a1 : a ≤ 9223372036854775807) :
    Calls Tryz.prog 201 #[.int .i64 a, .int .i64 n] w fun e w' => e = .returned (.int .i64 (bitS a n)) ∧ w = w' := by
  have e := bit_of_shr a n; rw [← e]; clear e
  go_enter Tryz.func201, Tryz.ntmps201
  go_wp2_with (go_at_call 189; refine (refShr _ _ _ (by omega) (by omega)).mono ?_; rintro e w' ⟨rfl, rfl⟩)
  go_ret; exact ⟨rfl, rfl⟩
theorem refOnes (a : Int) (w : World) (a0 : -9223372036854775808 ≤ a) (a1 : a ≤ 9223372036854775807) :
    Calls Tryz.prog 182 #[.int .i64 a] w fun e w' => e = .returned (.int .i64 (onesS a)) ∧ w = w' := by
  unfold onesS
  go_enter Tryz.func182, Tryz.ntmps182
  go_wp2; go_loop [3, 4] (fun p i => ∃ k : Nat, k ≤ 16 ∧ i = .int .i64 k ∧ p = .int .i64 (sumN k (wordN a))) (fun _ i => (16 - intOf i).toNat)
  case atStart => exact ⟨0, by omega, rfl, rfl⟩
  case round =>
    obtain ⟨k, hk, rfl, rfl⟩ := hrel; by_cases hlt : k < 16
    · have hs := sumN_le k (wordN a); have hb := bitN_le (wordN a) k; have eb := bitS_in a k hlt; have he : wrap64 ((sumN k (wordN a) : Int) + bitS a k) = (sumN (k + 1) (wordN a) : Int) := (by rw [eb]; simp only [sumN]; unfold wrap64; omega); clear hs hb eb; have hlt' : (k : Int) < 16 := (by omega); go_wp2_with (go_at_call 201; refine (refBit _ _ _ (by omega) (by omega)).mono ?_; rintro e w' ⟨rfl, rfl⟩)
      go_round
      case rel => exact ⟨k + 1, by omega, by go_num, by rw [he]⟩
      case measure => simp [intOf]; omega
    · have hkn : k = 16 := (by omega); subst hkn; go_wp2; go_ret; exact ⟨rfl, rfl⟩
end Go.Proofs.YtpejflgdehioaaaGreatDoor.WordW
namespace Go.Proofs.YtpejflgdehioaaaGreatDoor.ExW
open Go Go.RowKit Go.Proofs.YtpejflgdehioaaaGreatDoor.NumM Go.Proofs.YtpejflgdehioaaaGreatDoor.LexW Go.Proofs.YtpejflgdehioaaaGreatDoor.LexM Go.Proofs.YtpejflgdehioaaaGreatDoor.ExM
theorem asks_any (o : Int) (w : World) : Calls Tryz.prog 110 #[.int .i64 o] w fun e w' => e = .returned (.bool (asksB o)) ∧ w = w' := by
  by_cases h : o = 1
  · subst h
    go_enter Tryz.func110, Tryz.ntmps110
    go_wp2; go_ret; exact ⟨rfl, rfl⟩
  · have h0 : (o == 1) = false := (by rw [beq_eq_false_iff_ne]; exact h); have EE : Hid (asksB o = (isVr o || isAr o)) := Lib.hid (by unfold asksB; rw [decide_eq_false h]; rfl); have NC := Lib.hid (named_any o w); clear h
    go_enter Tryz.func110, Tryz.ntmps110
    go_wp2_with (go_at_call 157; ((with_reducible refine NC.out.mono ?_); rintro e w1 ⟨rfl, rfl⟩))
    go_ret; exact ⟨retb (by rw [EE.out]), rfl⟩
set_option maxRecDepth 100000 in
set_option maxHeartbeats 2000000 in
theorem find_any (env : Env) (v : Value) (s : ByteArray) (w : World) (h : SigsAt w v env) (hr : ∀ x ∈ env, -9223372036854775808 ≤ x.2 ∧ x.2 ≤ 9223372036854775807) :
    Calls Tryz.prog 158 #[v, .string s] w fun e w' => e = .returned (.tuple #[.int .i64 (fnd env s), .bool (hasN env s)]) ∧ w = w' := by
  obtain ⟨p, cap, rfl, hl, hcap, hx⟩ := h; have HX := Lib.hid hx; have HR := Lib.hid hr; clear hx hcap hr; obtain ⟨n, hnn⟩ : ∃ n, env.length = n := ⟨_, rfl⟩; have HN := Lib.hid hnn; rw [hnn] at hl ⊢; clear hnn
  go_enter Tryz.func158, Tryz.ntmps158
  go_wp2; go_loop [6] (fun i => ∃ k : Nat, k ≤ n ∧ i = .int .i64 k ∧ Hid (findS env s = findS (env.drop k) s)) (fun i => n - (intOf i).toNat)
  case atStart => exact ⟨0, Nat.zero_le _, rfl, Lib.hid rfl⟩
  case round =>
    obtain ⟨k, hk, rfl, FD⟩ := hrel; by_cases hlt : k < n
    · obtain ⟨b, off, rfl, hbs, hcell⟩ := HX.out (by rw [HN.out]; omega); obtain ⟨x, hxk⟩ : ∃ x, env[k]? = some x := ⟨_, List.getElem?_eq_getElem (by rw [HN.out]; exact hlt)⟩; obtain ⟨ca0, ca1⟩ := hcell k x hxk; have FK := Lib.hid (find_drop (s := s) hxk); obtain ⟨r1, r2⟩ := HR.out x (List.mem_of_getElem? hxk); have WC := Lib.hid (WordW.refWrap x.2 w r1 r2); obtain ⟨y, u⟩ := x; simp only at ca0 ca1 r1 r2; clear hcell hxk; by_cases e : y.data.toList = s.data.toList
      · have e1 : (y.toList == s.toList) = true := (by rw [Lib.toList_data, Lib.toList_data, e]; simp); have EE := Lib.hid (fnd_some (env := env) (s := s) (v := u % 65536) (by rw [FD.out, FK.out, if_pos e])); clear e; go_wp2_with (go_at_call 178; ((with_reducible refine WC.out.mono ?_); rintro e w1 ⟨rfl, rfl⟩))
        go_ret2; exact ⟨by rw [EE.out.1, EE.out.2]; rfl, rfl⟩
      · have e1 : (y.toList == s.toList) = false := (by rw [Lib.toList_data, Lib.toList_data]; simpa using e); have FD2 : Hid (findS env s = findS (env.drop (k + 1)) s) := Lib.hid (by rw [FD.out, FK.out, if_neg e]); clear e; go_wp2; go_round
        case rel => exact ⟨k + 1, by omega, by go_num, FD2⟩
        case measure => simp [intOf]; omega
    · have EE := Lib.hid (fnd_none (env := env) (s := s) (by rw [FD.out, List.drop_of_length_le (by rw [HN.out]; omega)]; rfl)); go_wp2; go_ret2; exact ⟨by rw [EE.out.1, EE.out.2]; rfl, rfl⟩
set_option maxHeartbeats 2000000 in
theorem elR_any (env : Env) (v : Value) (a : ByteArray) (i : Int) (w : World) (h : SigsAt w v env) (hr : ∀ x ∈ env, -9223372036854775808 ≤ x.2 ∧ x.2 ≤ 9223372036854775807) (ha : a.size ≤ 100) (hi : 0 ≤ i) :
    Calls Tryz.prog 159 #[v, .string a, .int .i64 i] w fun e w' => e = .returned (.int .i64 (elS env a i)) ∧ w = w' := by
  by_cases hb : 8 ≤ i
  · have EE : Hid (elS env a i = 0) := Lib.hid (if_neg (by omega)); obtain ⟨p, cap, rfl, _⟩ := h
    go_enter Tryz.func159, Tryz.ntmps159
    go_wp2; go_ret; exact ⟨by rw [EE.out]; rfl, rfl⟩
  · obtain ⟨k, rfl⟩ := Int.eq_ofNat_of_zero_le hi; have hk : k ≤ 7 := (by omega); have EE : Hid (elS env a (k : Int) = fnd env (elmN a k)) := Lib.hid (by unfold elS; rw [if_pos (by omega)]; rfl); have FC := Lib.hid (find_any env v (elmN a k) w h hr); have EC := Lib.hid (elementR_any a k hk ha w); clear h hr hi
    go_enter Tryz.func159, Tryz.ntmps159
    go_wp2_with (first
      | (go_at_call 62; ((with_reducible refine EC.out.mono ?_); rintro e w1 ⟨rfl, rfl⟩))
      | (go_at_call 158; ((with_reducible refine FC.out.mono ?_); rintro e w1 ⟨rfl, rfl⟩)))
    go_ret; exact ⟨by rw [EE.out]; rfl, rfl⟩
end Go.Proofs.YtpejflgdehioaaaGreatDoor.ExW
