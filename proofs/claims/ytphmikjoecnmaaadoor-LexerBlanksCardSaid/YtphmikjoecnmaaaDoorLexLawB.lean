/-
  The walk of LexerBlanks.
-/
import Derived.Test.YtphmikjoecnmaaaDoorLexLawJ
namespace Go.Proofs.YtphmikjoecnmaaaDoor.LexW
open Go Go.RowKit Go.Proofs.YtphmikjoecnmaaaDoor.NumM Go.Proofs.YtphmikjoecnmaaaDoor.LexM

/-- The value is a slice of these bytes. -/
def BytesAt (w : World) (v : Value) (m : Nat) (g : Nat → Nat) : Prop :=
  ∃ p cap, v = .slice p m cap ∧ m ≤ cap ∧ (∀ i, i < m → g i ≤ 255) ∧ (0 < m → ∃ b off, p = some ⟨b, off, none⟩ ∧ b < w.heap.size ∧ ∀ i, i < m → w.cell? ⟨b, off + i, none⟩ = some (.int .u8 (g i)))
/-- The source so far: a tab, the first k texts, each with a gap behind it. -/
def Gaps (l : List Tk) (k : Nat) (B : ByteArray) : Prop := ∃ G : Nat → List UInt8, (∀ i, GapOk (G i)) ∧ B.data.toList = 9 :: blkN l G k
theorem gaps_start (l : List Tk) : Gaps l 0 ⟨#[9]⟩ := ⟨fun _ => [32], fun _ => gap4, rfl⟩
theorem gaps_next {l : List Tk} {k : Nat} {B y C : ByteArray} {t : Tk} {g : List UInt8} (h : Gaps l k B) (ht : l[k]? = some t) (hy : y.data.toList = t.text) (hC : C.data.toList = g) (hg : GapOk g) : Gaps l (k + 1) (B ++ y ++ C) := by
  obtain ⟨G, h1, h2⟩ := h
  refine ⟨fun i => if i = k then g else G i, fun i => ?_, ?_⟩
  · show GapOk (if i = k then g else G i)
    split
    · exact hg
    · exact h1 i
  · rw [blkN, blkN_congr l (G' := G) k (fun i hi => by show (if i = k then g else G i) = G i; rw [if_neg (by omega)]), txt_of ht]
    have e : (if k = k then g else G k) = g := if_pos rfl
    rw [e]
    have e2 : (B ++ y ++ C).data.toList = B.data.toList ++ y.data.toList ++ C.data.toList := by simp
    rw [e2, h2, hy, hC]
    simp
theorem same_text {P : List UInt8 → Prop} : ∀ {a b : List Tk}, SameT a b → (∀ t ∈ b, P t.text) → ∀ t ∈ a, P t.text
  | [], _, _, _, t, ht => by cases ht
  | _ :: _, [], h, _, _, _ => by cases h
  | x :: a, u :: b, h, hb, t, ht => by
    rcases List.mem_cons.1 ht with rfl | ht
    · rw [h.1.2.2]; exact hb u (by simp)
    · exact same_text h.2 (fun t ht => hb t (by simp [ht])) t ht
theorem blanks_awake (l : List Tk) (v vg : Value) (m : Nat) (g : Nat → Nat) (w : World) (h : ToksAt w v l) (hg : BytesAt w vg m g) (hbig : 20 < l.length ∨ 40 < m) (ht : Tab w) :
    Calls Tryd.prog 7 #[v, vg] w fun e w' => e = .returned (.bool true) ∧ Below w.heap.size w w' := by
  have HA := Lib.hid (awake_any w ht)
  obtain ⟨p, cap, rfl, hcap⟩ := h.open_ rfl
  obtain ⟨pg, capg, rfl, hcg, _, _⟩ := hg
  by_cases h1 : 20 < l.length
  · clear hbig
    go_enter Tryd.func7, Tryd.ntmps7
    go_wp2_with (go_at_call 9; ((with_reducible refine HA.out.mono ?_); rintro e w1 ⟨rfl, hb⟩))
    go_ret
    exact ⟨rfl, hb⟩
  · have h2 : 40 < m := by omega
    clear hbig
    go_enter Tryd.func7, Tryd.ntmps7
    go_wp2_with (go_at_call 9; ((with_reducible refine HA.out.mono ?_); rintro e w1 ⟨rfl, hb⟩))
    go_ret
    exact ⟨rfl, hb⟩
theorem five (n : Nat) : n % 5 = 0 ∨ n % 5 = 1 ∨ n % 5 = 2 ∨ n % 5 = 3 ∨ n % 5 = 4 := by omega
set_option maxRecDepth 100000 in
set_option maxHeartbeats 16000000 in
theorem lexerBlanks_any (l : List Tk) (v vg : Value) (m : Nat) (g : Nat → Nat) (w : World) (h : ToksAt w v l) (hg : BytesAt w vg m g) (hX : ∀ t ∈ l, t.text.length ≤ 9223372036854775807) (ht : Tab w) :
    Calls Tryd.prog 7 #[v, vg] w fun e w' => e = .returned (.bool true) ∧ Below w.heap.size w w' := by
  by_cases hbig : 20 < l.length ∨ 40 < m
  · exact blanks_awake l v vg m g w h hg hbig ht
  have HV := Lib.hid h
  have HT := Lib.hid ht
  have HXx := Lib.hid hX
  obtain ⟨p, cap, rfl, hcap⟩ := h.open_ rfl
  obtain ⟨pg, capg, rfl, hcg, hgb, hgx⟩ := hg
  have HGB := Lib.hid hgb
  have HGX := Lib.hid hgx
  clear ht hX h hgb hgx
  obtain ⟨n, hnn⟩ : ∃ n, l.length = n := ⟨_, rfl⟩
  rw [hnn] at hcap HV hbig ⊢
  have HN := Lib.hid hnn
  have hn20 : n ≤ 20 := by omega
  have hm40 : m ≤ 40 := by omega
  clear hnn hbig
  have AW : Hid (∀ W, Below w.heap.size w W → Calls Tryd.prog 9 #[] W fun e w' => e = .returned (.bool true) ∧ Below W.heap.size W w') := Lib.hid fun W hb => awake_any W (HT.out.later hb)
  have B0 := Lib.hid (Below.refl w.heap.size w)
  go_enter Tryd.func7, Tryd.ntmps7
  go_wp2
  go_loop [5, 6] (fun s i => ∃ (k : Nat) (B : ByteArray), k ≤ n ∧ i = .int .i64 k ∧ s = .string B ∧ B.size ≤ 1 + k * 52 ∧ Hid (Gaps l k B) ∧ Hid (∀ (j : Nat) (t : Tk), j < k → l[j]? = some t → t.text.length ≤ 40)) (fun _ i => n - (intOf i).toNat)
  case atStart => exact ⟨0, ⟨#[9]⟩, Nat.zero_le _, rfl, rfl, by decide, Lib.hid (gaps_start l), Lib.hid fun j t hj => by omega⟩
  case round =>
    obtain ⟨k, B, hk, rfl, rfl, hB, GA, SH⟩ := hrel
    by_cases hlt : k < n
    · obtain ⟨t, htk⟩ : ∃ t, l[k]? = some t := ⟨_, List.getElem?_eq_getElem (by rw [HN.out]; exact hlt)⟩
      obtain ⟨b, off, rfl, hbs, _, _, q2, _⟩ := HV.out.cell htk
      have hxt := HXx.out t (List.mem_of_getElem? htk)
      have HTK := Lib.hid htk
      have hbl := len_data (bs t.text)
      rw [data_bs] at hbl
      clear htk
      by_cases h40 : 40 < t.text.length
      · obtain ⟨y, hy⟩ : ∃ y, bs t.text = y := ⟨_, rfl⟩
        rw [hy] at q2 hbl
        have h40' : 40 < y.size := by omega
        clear hy hbl h40
        go_wp2_with (go_at_call 9; ((with_reducible refine (AW.out _ B0.out).mono ?_); rintro e w1 ⟨rfl, hb⟩; have B1 := Lib.hid (Below.then_ B0.out hb); clear hb))
        go_ret
        exact ⟨rfl, B1.out⟩
      · have SH2 : Hid (∀ (j : Nat) (u : Tk), j < k + 1 → l[j]? = some u → u.text.length ≤ 40) := Lib.hid fun j u hj hu => by
          by_cases hjk : j = k
          · subst hjk
            rw [HTK.out] at hu
            rw [← Option.some.inj hu]; omega
          · exact SH.out j u (by omega) hu
        obtain ⟨y, hy⟩ : ∃ y, bs t.text = y := ⟨_, rfl⟩
        have HYD : Hid (y.data.toList = t.text) := Lib.hid (by rw [← hy])
        rw [hy] at q2 hbl
        have h40' : y.size ≤ 40 := by omega
        clear hy hbl h40 hxt
        have hBb : B.size ≤ 1041 := by omega
        have t6 : ¬ 9223372036854775807 < B.size + y.size := by omega
        have GN : Hid (∀ (C : ByteArray) (gg : List UInt8), C.data.toList = gg → GapOk gg → Gaps l (k + 1) (B ++ y ++ C)) := Lib.hid fun C gg hC hg => gaps_next GA.out HTK.out HYD.out hC hg
        by_cases hkm : k < m
        · obtain ⟨b2, off2, rfl, hbs2, hc2⟩ := HGX.out (by omega)
          have cg := hc2 k hkm
          have hgk := HGB.out k hkm
          obtain ⟨gv, hgv⟩ : ∃ gv, g k = gv := ⟨_, rfl⟩
          rw [hgv] at cg hgk
          clear hc2 hgv
          rcases five gv with hmod | hmod | hmod | hmod | hmod
          · have c0 : (((gv : Nat) : Int) % 5 == 0) = true := by simp; omega
            have u1 : ¬ 9223372036854775807 < (B ++ y).size + (⟨#[32, 9, 32]⟩ : ByteArray).size := by rw [ByteArray.size_append]; show ¬ 9223372036854775807 < B.size + y.size + 3; omega
            have u2 : ¬ 9223372036854775807 < B.size + y.size + 3 := by omega
            have u3 : ¬ 9223372036854775807 < B.size + y.size + (⟨#[32, 9, 32]⟩ : ByteArray).size := by show ¬ 9223372036854775807 < B.size + y.size + 3; omega
            have hsz : (B ++ y ++ (⟨#[32, 9, 32]⟩ : ByteArray)).size ≤ 1 + (k + 1) * 52 := by rw [ByteArray.size_append, ByteArray.size_append]; show B.size + y.size + 3 ≤ _; omega
            clear hmod
            go_wp2
            go_round
            case rel => exact ⟨k + 1, _, by omega, by go_num, rfl, hsz, Lib.hid (GN.out ⟨#[32, 9, 32]⟩ [32, 9, 32] rfl gap0), SH2⟩
            case measure => simp [intOf]; omega
          · have c1 : (((gv : Nat) : Int) % 5 == 1) = true := by simp; omega
            have c0 : (((gv : Nat) : Int) % 5 == 0) = false := by simp; omega
            have u1 : ¬ 9223372036854775807 < (B ++ y).size + (⟨#[10, 10]⟩ : ByteArray).size := by rw [ByteArray.size_append]; show ¬ 9223372036854775807 < B.size + y.size + 2; omega
            have u2 : ¬ 9223372036854775807 < B.size + y.size + 2 := by omega
            have u3 : ¬ 9223372036854775807 < B.size + y.size + (⟨#[10, 10]⟩ : ByteArray).size := by show ¬ 9223372036854775807 < B.size + y.size + 2; omega
            have hsz : (B ++ y ++ (⟨#[10, 10]⟩ : ByteArray)).size ≤ 1 + (k + 1) * 52 := by rw [ByteArray.size_append, ByteArray.size_append]; show B.size + y.size + 2 ≤ _; omega
            clear hmod
            go_wp2
            go_round
            case rel => exact ⟨k + 1, _, by omega, by go_num, rfl, hsz, Lib.hid (GN.out ⟨#[10, 10]⟩ [10, 10] rfl gap1), SH2⟩
            case measure => simp [intOf]; omega
          · have c2 : (((gv : Nat) : Int) % 5 == 2) = true := by simp; omega
            have c0 : (((gv : Nat) : Int) % 5 == 0) = false := by simp; omega
            have c1 : (((gv : Nat) : Int) % 5 == 1) = false := by simp; omega
            have u1 : ¬ 9223372036854775807 < (B ++ y).size + (⟨#[32, 47, 47, 32, 120, 32, 123, 32, 34, 32, 64, 10]⟩ : ByteArray).size := by rw [ByteArray.size_append]; show ¬ 9223372036854775807 < B.size + y.size + 12; omega
            have u2 : ¬ 9223372036854775807 < B.size + y.size + 12 := by omega
            have u3 : ¬ 9223372036854775807 < B.size + y.size + (⟨#[32, 47, 47, 32, 120, 32, 123, 32, 34, 32, 64, 10]⟩ : ByteArray).size := by show ¬ 9223372036854775807 < B.size + y.size + 12; omega
            have hsz : (B ++ y ++ (⟨#[32, 47, 47, 32, 120, 32, 123, 32, 34, 32, 64, 10]⟩ : ByteArray)).size ≤ 1 + (k + 1) * 52 := by rw [ByteArray.size_append, ByteArray.size_append]; show B.size + y.size + 12 ≤ _; omega
            clear hmod
            go_wp2
            go_round
            case rel => exact ⟨k + 1, _, by omega, by go_num, rfl, hsz, Lib.hid (GN.out ⟨#[32, 47, 47, 32, 120, 32, 123, 32, 34, 32, 64, 10]⟩ [32, 47, 47, 32, 120, 32, 123, 32, 34, 32, 64, 10] rfl gap2), SH2⟩
            case measure => simp [intOf]; omega
          · have c3 : (((gv : Nat) : Int) % 5 == 3) = true := by simp; omega
            have c0 : (((gv : Nat) : Int) % 5 == 0) = false := by simp; omega
            have c1 : (((gv : Nat) : Int) % 5 == 1) = false := by simp; omega
            have c2 : (((gv : Nat) : Int) % 5 == 2) = false := by simp; omega
            have u1 : ¬ 9223372036854775807 < (B ++ y).size + (⟨#[10, 47, 47, 10, 32]⟩ : ByteArray).size := by rw [ByteArray.size_append]; show ¬ 9223372036854775807 < B.size + y.size + 5; omega
            have u2 : ¬ 9223372036854775807 < B.size + y.size + 5 := by omega
            have u3 : ¬ 9223372036854775807 < B.size + y.size + (⟨#[10, 47, 47, 10, 32]⟩ : ByteArray).size := by show ¬ 9223372036854775807 < B.size + y.size + 5; omega
            have hsz : (B ++ y ++ (⟨#[10, 47, 47, 10, 32]⟩ : ByteArray)).size ≤ 1 + (k + 1) * 52 := by rw [ByteArray.size_append, ByteArray.size_append]; show B.size + y.size + 5 ≤ _; omega
            clear hmod
            go_wp2
            go_round
            case rel => exact ⟨k + 1, _, by omega, by go_num, rfl, hsz, Lib.hid (GN.out ⟨#[10, 47, 47, 10, 32]⟩ [10, 47, 47, 10, 32] rfl gap3), SH2⟩
            case measure => simp [intOf]; omega
          · have c4 : (((gv : Nat) : Int) % 5 == 4) = true := by simp; omega
            have c0 : (((gv : Nat) : Int) % 5 == 0) = false := by simp; omega
            have c1 : (((gv : Nat) : Int) % 5 == 1) = false := by simp; omega
            have c2 : (((gv : Nat) : Int) % 5 == 2) = false := by simp; omega
            have c3 : (((gv : Nat) : Int) % 5 == 3) = false := by simp; omega
            have u1 : ¬ 9223372036854775807 < (B ++ y).size + (⟨#[32]⟩ : ByteArray).size := by rw [ByteArray.size_append]; show ¬ 9223372036854775807 < B.size + y.size + 1; omega
            have u2 : ¬ 9223372036854775807 < B.size + y.size + 1 := by omega
            have u3 : ¬ 9223372036854775807 < B.size + y.size + (⟨#[32]⟩ : ByteArray).size := by show ¬ 9223372036854775807 < B.size + y.size + 1; omega
            have hsz : (B ++ y ++ (⟨#[32]⟩ : ByteArray)).size ≤ 1 + (k + 1) * 52 := by rw [ByteArray.size_append, ByteArray.size_append]; show B.size + y.size + 1 ≤ _; omega
            clear hmod
            go_wp2
            go_round
            case rel => exact ⟨k + 1, _, by omega, by go_num, rfl, hsz, Lib.hid (GN.out ⟨#[32]⟩ [32] rfl gap4), SH2⟩
            case measure => simp [intOf]; omega
        · rcases five k with hmod | hmod | hmod | hmod | hmod
          · have c0 : (((k : Nat) : Int) % 5 == 0) = true := by simp; omega
            have u1 : ¬ 9223372036854775807 < (B ++ y).size + (⟨#[32, 9, 32]⟩ : ByteArray).size := by rw [ByteArray.size_append]; show ¬ 9223372036854775807 < B.size + y.size + 3; omega
            have u2 : ¬ 9223372036854775807 < B.size + y.size + 3 := by omega
            have u3 : ¬ 9223372036854775807 < B.size + y.size + (⟨#[32, 9, 32]⟩ : ByteArray).size := by show ¬ 9223372036854775807 < B.size + y.size + 3; omega
            have hsz : (B ++ y ++ (⟨#[32, 9, 32]⟩ : ByteArray)).size ≤ 1 + (k + 1) * 52 := by rw [ByteArray.size_append, ByteArray.size_append]; show B.size + y.size + 3 ≤ _; omega
            clear hmod
            go_wp2
            go_round
            case rel => exact ⟨k + 1, _, by omega, by go_num, rfl, hsz, Lib.hid (GN.out ⟨#[32, 9, 32]⟩ [32, 9, 32] rfl gap0), SH2⟩
            case measure => simp [intOf]; omega
          · have c1 : (((k : Nat) : Int) % 5 == 1) = true := by simp; omega
            have c0 : (((k : Nat) : Int) % 5 == 0) = false := by simp; omega
            have u1 : ¬ 9223372036854775807 < (B ++ y).size + (⟨#[10, 10]⟩ : ByteArray).size := by rw [ByteArray.size_append]; show ¬ 9223372036854775807 < B.size + y.size + 2; omega
            have u2 : ¬ 9223372036854775807 < B.size + y.size + 2 := by omega
            have u3 : ¬ 9223372036854775807 < B.size + y.size + (⟨#[10, 10]⟩ : ByteArray).size := by show ¬ 9223372036854775807 < B.size + y.size + 2; omega
            have hsz : (B ++ y ++ (⟨#[10, 10]⟩ : ByteArray)).size ≤ 1 + (k + 1) * 52 := by rw [ByteArray.size_append, ByteArray.size_append]; show B.size + y.size + 2 ≤ _; omega
            clear hmod
            go_wp2
            go_round
            case rel => exact ⟨k + 1, _, by omega, by go_num, rfl, hsz, Lib.hid (GN.out ⟨#[10, 10]⟩ [10, 10] rfl gap1), SH2⟩
            case measure => simp [intOf]; omega
          · have c2 : (((k : Nat) : Int) % 5 == 2) = true := by simp; omega
            have c0 : (((k : Nat) : Int) % 5 == 0) = false := by simp; omega
            have c1 : (((k : Nat) : Int) % 5 == 1) = false := by simp; omega
            have u1 : ¬ 9223372036854775807 < (B ++ y).size + (⟨#[32, 47, 47, 32, 120, 32, 123, 32, 34, 32, 64, 10]⟩ : ByteArray).size := by rw [ByteArray.size_append]; show ¬ 9223372036854775807 < B.size + y.size + 12; omega
            have u2 : ¬ 9223372036854775807 < B.size + y.size + 12 := by omega
            have u3 : ¬ 9223372036854775807 < B.size + y.size + (⟨#[32, 47, 47, 32, 120, 32, 123, 32, 34, 32, 64, 10]⟩ : ByteArray).size := by show ¬ 9223372036854775807 < B.size + y.size + 12; omega
            have hsz : (B ++ y ++ (⟨#[32, 47, 47, 32, 120, 32, 123, 32, 34, 32, 64, 10]⟩ : ByteArray)).size ≤ 1 + (k + 1) * 52 := by rw [ByteArray.size_append, ByteArray.size_append]; show B.size + y.size + 12 ≤ _; omega
            clear hmod
            go_wp2
            go_round
            case rel => exact ⟨k + 1, _, by omega, by go_num, rfl, hsz, Lib.hid (GN.out ⟨#[32, 47, 47, 32, 120, 32, 123, 32, 34, 32, 64, 10]⟩ [32, 47, 47, 32, 120, 32, 123, 32, 34, 32, 64, 10] rfl gap2), SH2⟩
            case measure => simp [intOf]; omega
          · have c3 : (((k : Nat) : Int) % 5 == 3) = true := by simp; omega
            have c0 : (((k : Nat) : Int) % 5 == 0) = false := by simp; omega
            have c1 : (((k : Nat) : Int) % 5 == 1) = false := by simp; omega
            have c2 : (((k : Nat) : Int) % 5 == 2) = false := by simp; omega
            have u1 : ¬ 9223372036854775807 < (B ++ y).size + (⟨#[10, 47, 47, 10, 32]⟩ : ByteArray).size := by rw [ByteArray.size_append]; show ¬ 9223372036854775807 < B.size + y.size + 5; omega
            have u2 : ¬ 9223372036854775807 < B.size + y.size + 5 := by omega
            have u3 : ¬ 9223372036854775807 < B.size + y.size + (⟨#[10, 47, 47, 10, 32]⟩ : ByteArray).size := by show ¬ 9223372036854775807 < B.size + y.size + 5; omega
            have hsz : (B ++ y ++ (⟨#[10, 47, 47, 10, 32]⟩ : ByteArray)).size ≤ 1 + (k + 1) * 52 := by rw [ByteArray.size_append, ByteArray.size_append]; show B.size + y.size + 5 ≤ _; omega
            clear hmod
            go_wp2
            go_round
            case rel => exact ⟨k + 1, _, by omega, by go_num, rfl, hsz, Lib.hid (GN.out ⟨#[10, 47, 47, 10, 32]⟩ [10, 47, 47, 10, 32] rfl gap3), SH2⟩
            case measure => simp [intOf]; omega
          · have c4 : (((k : Nat) : Int) % 5 == 4) = true := by simp; omega
            have c0 : (((k : Nat) : Int) % 5 == 0) = false := by simp; omega
            have c1 : (((k : Nat) : Int) % 5 == 1) = false := by simp; omega
            have c2 : (((k : Nat) : Int) % 5 == 2) = false := by simp; omega
            have c3 : (((k : Nat) : Int) % 5 == 3) = false := by simp; omega
            have u1 : ¬ 9223372036854775807 < (B ++ y).size + (⟨#[32]⟩ : ByteArray).size := by rw [ByteArray.size_append]; show ¬ 9223372036854775807 < B.size + y.size + 1; omega
            have u2 : ¬ 9223372036854775807 < B.size + y.size + 1 := by omega
            have u3 : ¬ 9223372036854775807 < B.size + y.size + (⟨#[32]⟩ : ByteArray).size := by show ¬ 9223372036854775807 < B.size + y.size + 1; omega
            have hsz : (B ++ y ++ (⟨#[32]⟩ : ByteArray)).size ≤ 1 + (k + 1) * 52 := by rw [ByteArray.size_append, ByteArray.size_append]; show B.size + y.size + 1 ≤ _; omega
            clear hmod
            go_wp2
            go_round
            case rel => exact ⟨k + 1, _, by omega, by go_num, rfl, hsz, Lib.hid (GN.out ⟨#[32]⟩ [32] rfl gap4), SH2⟩
            case measure => simp [intOf]; omega
    · have hs40 : ∀ t ∈ l, t.text.length ≤ 40 := fun t ht => by
        obtain ⟨j, hj, he⟩ := List.mem_iff_getElem.1 ht
        exact SH.out j t (by rw [HN.out] at hj; omega) (by rw [List.getElem?_eq_getElem hj, he])
      have J1 : Hid (∀ W, Below w.heap.size w W → Calls Tryd.prog 19 #[.slice p n cap] W (tStr W (joinS l))) := Lib.hid fun W hb => join_any l _ W (HV.out.later hb) (by rw [HN.out]; omega) (fun t ht => by have := hs40 t ht; omega) (HT.out.later hb)
      cases hv : l.all validS
      · rw [joinS_no hv] at J1
        unfold tStr at J1
        simp only at J1
        clear hv hs40
        go_wp2_with (first
          | (go_at_call 19; ((with_reducible refine (J1.out _ B0.out).mono ?_); rintro e w1 ⟨rfl, hb⟩; have B1 := Lib.hid (Below.then_ B0.out hb); clear hb))
          | (go_at_call 9; ((with_reducible refine (AW.out _ B1.out).mono ?_); rintro e w2 ⟨rfl, hb⟩; have B2 := Lib.hid (Below.then_ B1.out hb); clear hb)))
        go_ret
        exact ⟨rfl, B2.out⟩
      · obtain ⟨G, hG1, hG2⟩ := GA.out
        obtain ⟨ks, hks, hsame⟩ := lex_gaps (G := G) hv (fun i _ => hG1 i)
        have TS : tokS B.data.toList = (ks, 0, 0) := by
          rw [tokS_short (by omega), hG2, show k = l.length by rw [HN.out]; omega]; exact hks
        have TC := Lib.hid (fun W (hb : Below w.heap.size w W) => tokens_toks B W (HT.out.later hb) TS)
        have HL2 : Hid (ks.length = n) := Lib.hid ((same_len hsame).trans HN.out)
        have J2 : Hid (∀ W u, Below w.heap.size w W → ToksAt W u ks → Calls Tryd.prog 19 #[u] W (tStr W (joinS l))) := Lib.hid fun W u hb hu => by
          have q := join_any ks u W hu (by rw [HL2.out]; omega) (same_text (P := fun x => x.length ≤ 1000) hsame (fun t ht => by have := hs40 t ht; omega)) (HT.out.later hb)
          rw [same_join hsame] at q
          exact q
        rw [joinS_ok hv] at J1 J2
        unfold tStr at J1 J2
        simp only at J1 J2
        obtain ⟨y, hy⟩ : ∃ y, bs (joinT l) = y := ⟨_, rfl⟩
        rw [hy] at J1 J2
        clear hv hs40 hG1 hG2 hks hsame TS hy
        go_wp2_with (first
          | (go_at_call 19; ((with_reducible refine (J1.out _ B0.out).mono ?_); rintro e w1 ⟨rfl, hb⟩; have B1 := Lib.hid (Below.then_ B0.out hb); clear hb))
          | (go_at_call 10; ((with_reducible refine (TC.out _ B1.out).mono ?_); rintro e w2 ⟨u, rfl, hu, hb⟩; obtain ⟨p2, cap2, rfl, hcap2⟩ := hu.open_ HL2.out; have U2 := Lib.hid hu; have B2 := Lib.hid (Below.then_ B1.out hb); clear hu hb))
          | (go_at_call 19; ((with_reducible refine (J2.out _ _ B2.out U2.out).mono ?_); rintro e w3 ⟨rfl, hb⟩; have B3 := Lib.hid (Below.then_ B2.out hb); clear hb))
          | (go_at_call 9; ((with_reducible refine (AW.out _ B3.out).mono ?_); rintro e w4 ⟨rfl, hb⟩; have B4 := Lib.hid (Below.then_ B3.out hb); clear hb)))
        go_ret
        exact ⟨rfl, B4.out⟩
end Go.Proofs.YtphmikjoecnmaaaDoor.LexW
