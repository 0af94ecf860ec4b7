/-
  The law HashOpens, walked.
-/
import Derived.Test.YtejmhhijmglopaaHashSeal
import Derived.Test.YtejmhhijmglopaaHashLaws
import Derived.Laws.IdiomStrings
namespace Go.Proofs.Ytejmhhijmglopaa.HashW
open Go Go.RowKit Go.Proofs.Ytejmhhijmglopaa.HashM

/-! ### '[]byte(t)', one byte of it changed, 'string(b)' -/
def bCap (t : ByteArray) (w : World) : Nat := grownCap w t.size 0 5
/-- What '[]byte(t)' lays. -/
def bWorld (t : ByteArray) (w : World) : World :=
  w.drew.alloc (.cells (bytesRow t (bCap t w)) 5 ((bytesRow t (bCap t w)).size, (bytesRow t (bCap t w)).size + 1))
theorem bConv (t : ByteArray) (w : World) : (convert 9 38 (.string t)).run Try.prog w = .ok (.slice (some ⟨w.heap.size, 0, none⟩) t.size (bCap t w)) (bWorld t w) :=
  run_bytes_of_string w 9 38 5 t Try.underlying9 Try.underlying38 Try.underlying5
theorem bWorld_below (t : ByteArray) (w : World) : Below w.heap.size w (bWorld t w) := ((Below.refl _ _).drew).alloc (Nat.le_refl _) _
theorem bWorld_size (t : ByteArray) (w : World) : (bWorld t w).heap.size = w.heap.size + 1 := alloc_size _ _
theorem bBlock (t : ByteArray) (w : World) : (bWorld t w).heap[w.heap.size]? = some (.cells (bytesRow t (bCap t w)) 5 ((bytesRow t (bCap t w)).size, (bytesRow t (bCap t w)).size + 1)) := Go.Deep.blk_alloc_new _ _
theorem bCell (t : ByteArray) (w : World) (j : Nat) (h : j < t.size) : (bWorld t w).cell? ⟨w.heap.size, j, none⟩ = some (.int .u8 t[j].toNat) := by
  simp only [World.cell?, bBlock]
  unfold bytesRow
  rw [Array.getElem?_append_left (by simpa using h), Array.getElem?_map]
  have : t.data[j]? = some t[j] := by rw [Array.getElem?_eq_getElem (by exact h)]; rfl
  rw [this]; rfl
theorem bFree (t : ByteArray) (w : World) (j : Nat) (h : j < t.size) : (bWorld t w).frozen? ⟨w.heap.size, j, none⟩ = false := by
  simp only [World.frozen?, bBlock]
  have hs : t.size ≤ (bytesRow t (bCap t w)).size := by unfold bytesRow; simp
  simp
  omega
theorem getD_num (l : List UInt8) (j : Nat) (h : j < l.length) : (l.map (fun c => (c.toNat : Int))).getD j 0 = (l[j].toNat : Int) := by
  rw [List.getD_eq_getElem?_getD, List.getElem?_map, List.getElem?_eq_getElem h]; rfl
theorem bCell_set (t : ByteArray) (w : World) (i : Nat) (y : UInt8) (hi : i < t.size) (j : Nat) (h : j < t.size) :
    ((bWorld t w).setCell ⟨w.heap.size, i, none⟩ (.int .u8 y.toNat)).cell? ⟨w.heap.size, j, none⟩ = some (.int .u8 (((t.data.toList.set i y).map (fun c => (c.toNat : Int))).getD j 0)) := by
  have hl : j < (t.data.toList.set i y).length := by rw [List.length_set, len_data]; exact h
  rw [getD_num _ _ hl, List.getElem_set]
  by_cases e : i = j
  · subst e
    rw [if_pos rfl, World.cell?_setCell_same _ _ _ (bCell t w i hi)]
  · rw [if_neg e, World.cell?_setCell_other _ _ _ _ (by intro x; simp only [Addr.mk.injEq] at x; omega), bCell t w j h]; rfl
theorem bBack (t : ByteArray) (w : World) (i : Nat) (y : UInt8) (hi : i < t.size) (cap : Nat) :
    (convert 38 9 (.slice (some ⟨w.heap.size, 0, none⟩) t.size cap)).run Try.prog ((bWorld t w).setCell ⟨w.heap.size, i, none⟩ (.int .u8 y.toNat)) =
      .ok (.string (bs (t.data.toList.set i y))) ((bWorld t w).setCell ⟨w.heap.size, i, none⟩ (.int .u8 y.toNat)) := by
  have h := run_convert_bytes_arg (P := Try.prog) ((bWorld t w).setCell ⟨w.heap.size, i, none⟩ (.int .u8 y.toNat)) 38 5 Try.underlying38 Try.underlying5 w.heap.size 0 t.size cap ((t.data.toList.set i y).map (fun c => (c.toNat : Int)))
    (by rw [List.length_map, List.length_set, len_data]) (fun j hj => by rw [Nat.zero_add]; exact bCell_set t w i y hi j hj) 9 Try.underlying9
  have e : strOfNums ((t.data.toList.set i y).map (fun c => (c.toNat : Int))) = bs (t.data.toList.set i y) := by
    unfold strOfNums bs
    simp only [List.map_map, Function.comp_def, Int.toNat_natCast, UInt8.ofNat_toNat, List.map_id']
  rw [e] at h
  exact h
theorem xor8 (a b : UInt8) : bits .xor .u8 (a.toNat : Int) (b.toNat : Int) = ((a ^^^ b).toNat : Int) := by
  rw [u8_xor_nat _ _ (UInt8.toNat_lt a) (UInt8.toNat_lt b), UInt8.toNat_xor]
theorem xor8_ne (a c : UInt8) (h : ¬ c = 0) : ¬ a ^^^ c = a := by
  intro e
  apply h
  have e2 : a ^^^ c = a ^^^ 0 := by rw [e, UInt8.xor_zero]
  exact (UInt8.xor_right_inj _).1 e2
set_option maxHeartbeats 2000000 in
theorem opens_any (s : ByteArray) (n : Int) (c : UInt8) (w : World) (hs : s.size ≤ 140737488351232) (n0 : -9223372036854775808 ≤ n) (n1 : n ≤ 9223372036854775807) :
    Calls Try.prog 6 #[.string s, .int .i64 n, .int .u8 c.toNat] w fun e w' => e = .returned (.bool true) ∧ Below w.heap.size w w' := by
  by_cases h5 : (500 : Int) < s.size
  · go_enter Try.func6, Try.ntmps6
    go_wp2_with (go_at_call 9; refine (awake_any _).mono ?_; rintro e w3 ⟨rfl, hb3⟩)
    go_ret
    exact ⟨rfl, hb3⟩
  obtain ⟨t, ht⟩ : ∃ t, bs (sealL s.data.toList) = t := ⟨_, rfl⟩
  have hts : t.size = s.size + 9 := by rw [← ht, bs_size, sealL_len, len_data]
  have hne : ((t.size : Int) != (s.size : Int) + 9) = false := by rw [hts]; simp
  have hS := fun w => sealCode s w hs
  have hT := fun w => openCode t w (by omega)
  have ho := seal_opens s.data.toList
  rw [ht] at ho hS
  rw [ho.1, ho.2, bs_data] at hT
  have hU := fun w => openCode s w hs
  have HS := Lib.hid hS
  have HT := Lib.hid hT
  have HU := Lib.hid hU
  have HD := Lib.hid ht
  have t9 : 9 ≤ t.size := by omega
  have t5 : t.size ≤ 509 := by omega
  clear hS hT hU ho hts ht
  by_cases hE : opE s = 0
  · have hE' : (opE s == 0) = true := by rw [hE]; rfl
    obtain ⟨e1, e2, _⟩ := open_seals s hE
    have hV := fun w => sealCode (opS s) w (by rw [← len_data, e2, List.length_take, len_data]; omega)
    rw [e1] at hV
    have HV := Lib.hid hV
    clear hV e1 e2 hE
    by_cases hn : n < 0
    · go_enter Try.func6, Try.ntmps6
      go_wp2_with (first
            | (go_at_call 14; ((with_reducible refine (HS.out _).mono ?_); rintro e w1 ⟨rfl, hb1⟩))
            | (go_at_call 24; ((with_reducible refine (HT.out _).mono ?_); rintro e w' ⟨rfl, rfl⟩))
            | (go_at_call 24; ((with_reducible refine (HU.out _).mono ?_); rintro e w' ⟨rfl, rfl⟩))
            | (go_at_call 14; ((with_reducible refine (HV.out _).mono ?_); rintro e w2 ⟨rfl, hb2⟩))
            | (go_at_call 9; refine (awake_any _).mono ?_; rintro e w3 ⟨rfl, hb3⟩))
      go_ret
      have b2 := hb1.trans (hb2.mono hb1.size)
      exact ⟨rfl, b2.trans (hb3.mono b2.size)⟩
    · obtain ⟨k, rfl⟩ := Int.eq_ofNat_of_zero_le (show 0 ≤ n by omega)
      have k1 : k ≤ 9223372036854775807 := by omega
      clear hn n0 n1
      by_cases hc : c = 0
      · have hc0 : ((c.toNat : Int) == 0) = true := by rw [hc]; rfl
        clear hc
        go_enter Try.func6, Try.ntmps6
        go_wp2_with (first
              | (go_at_call 14; ((with_reducible refine (HS.out _).mono ?_); rintro e w1 ⟨rfl, hb1⟩))
              | (go_at_call 24; ((with_reducible refine (HT.out _).mono ?_); rintro e w' ⟨rfl, rfl⟩))
              | (go_at_call 24; ((with_reducible refine (HU.out _).mono ?_); rintro e w' ⟨rfl, rfl⟩))
              | (go_at_call 14; ((with_reducible refine (HV.out _).mono ?_); rintro e w2 ⟨rfl, hb2⟩))
              | (go_at_call 9; refine (awake_any _).mono ?_; rintro e w3 ⟨rfl, hb3⟩))
        go_ret
        have b2 := hb1.trans (hb2.mono hb1.size)
        exact ⟨rfl, b2.trans (hb3.mono b2.size)⟩
      · have hc0 : ((c.toNat : Int) == 0) = false := by
          have : ¬ c.toNat = 0 := fun x => hc (UInt8.toNat_inj.1 x)
          simp; omega
        obtain ⟨i, hi⟩ : ∃ i, k % t.size = i := ⟨_, rfl⟩
        have hit : i < t.size := by rw [← hi]; exact Nat.mod_lt _ (by omega)
        have m1 : ((k : Int).tmod (t.size : Int)) = (i : Int) := by rw [← hi]; exact Int.ofNat_tmod _ _
        have m2 : ((k : Int) % (t.size : Int)) = (i : Int) := by rw [← hi]; exact (Int.natCast_emod _ _).symm
        obtain ⟨y, hy⟩ : ∃ y, t[i] ^^^ c = y := ⟨_, rfl⟩
        have hx : bits .xor .u8 (t[i].toNat : Int) (c.toNat : Int) = (y.toNat : Int) := by rw [xor8, hy]
        have q1 := bConv t
        have q2 := fun w => bCell t w i hit
        have q3 := fun w => bFree t w i hit
        have q4 := fun w => bBack t w i y hit (bCap t w)
        obtain ⟨t2, ht2⟩ : ∃ t2, bs (t.data.toList.set i y) = t2 := ⟨_, rfl⟩
        have hne2 : ¬ opE t2 = 0 := by
          have hl : i < (sealL s.data.toList).length := by
            have := congrArg (fun b : ByteArray => b.size) HD.out
            simp only [bs_size] at this
            omega
          have h := changed s.data.toList i y hl (by
            intro x
            apply xor8_ne t[i] c hc
            have g : t[i]? = some y := by
              rw [← HD.out]
              show (sealL s.data.toList).toArray[i]? = some y
              rw [List.getElem?_toArray, List.getElem?_eq_getElem hl, ← x]
            rw [ByteArray.getElem?_lt' _ _ hit] at g
            rw [hy]
            exact (Option.some.inj g).symm)
          have e : t.data.toList = sealL s.data.toList := by rw [← HD.out]
          rw [← ht2, e]
          exact h
        rw [ht2] at q4
        have hO := fun w => openCode t2 w (by rw [← ht2, bs_size, List.length_set, len_data]; omega)
        rw [← opS_no rfl hne2] at hO
        obtain ⟨E, hEE⟩ : ∃ E, opE t2 = E := ⟨_, rfl⟩
        rw [hEE] at hO hne2
        have hE2 : (E != 0) = true := by simpa using hne2
        have HO := Lib.hid hO
        clear hO hne2 hEE ht2 hc hy hi
        go_enter Try.func6, Try.ntmps6
        go_wp2_with (first
              | (go_at_call 14; ((with_reducible refine (HS.out _).mono ?_); rintro e w1 ⟨rfl, hb1⟩))
              | (go_at_call 24; ((with_reducible refine (HT.out _).mono ?_); rintro e w' ⟨rfl, rfl⟩))
              | (go_at_call 24; ((with_reducible refine (HU.out _).mono ?_); rintro e w' ⟨rfl, rfl⟩))
              | (go_at_call 14; ((with_reducible refine (HV.out _).mono ?_); rintro e w2 ⟨rfl, hb2⟩))
              | (go_at_call 24; ((with_reducible refine (HO.out _).mono ?_); rintro e w' ⟨rfl, rfl⟩))
              | (go_at_call 9; refine (awake_any _).mono ?_; rintro e w3 ⟨rfl, hb3⟩))
        go_ret
        have b2 := hb1.trans (hb2.mono hb1.size)
        have b4 : Below w.heap.size w ((bWorld t w2).setCell ⟨w2.heap.size, i, none⟩ (.int .u8 y.toNat)) := b2.trans (((bWorld_below t w2).setCell (Nat.le_refl _) _).mono b2.size)
        exact ⟨rfl, b4.trans (hb3.mono b4.size)⟩
  · have hE' : (opE s == 0) = false := by simpa using hE
    clear hE
    by_cases hn : n < 0
    · go_enter Try.func6, Try.ntmps6
      go_wp2_with (first
            | (go_at_call 14; ((with_reducible refine (HS.out _).mono ?_); rintro e w1 ⟨rfl, hb1⟩))
            | (go_at_call 24; ((with_reducible refine (HT.out _).mono ?_); rintro e w' ⟨rfl, rfl⟩))
            | (go_at_call 24; ((with_reducible refine (HU.out _).mono ?_); rintro e w' ⟨rfl, rfl⟩))
            | (go_at_call 9; refine (awake_any _).mono ?_; rintro e w3 ⟨rfl, hb3⟩))
      go_ret
      exact ⟨rfl, hb1.trans (hb3.mono hb1.size)⟩
    · obtain ⟨k, rfl⟩ := Int.eq_ofNat_of_zero_le (show 0 ≤ n by omega)
      have k1 : k ≤ 9223372036854775807 := by omega
      clear hn n0 n1
      by_cases hc : c = 0
      · have hc0 : ((c.toNat : Int) == 0) = true := by rw [hc]; rfl
        clear hc
        go_enter Try.func6, Try.ntmps6
        go_wp2_with (first
              | (go_at_call 14; ((with_reducible refine (HS.out _).mono ?_); rintro e w1 ⟨rfl, hb1⟩))
              | (go_at_call 24; ((with_reducible refine (HT.out _).mono ?_); rintro e w' ⟨rfl, rfl⟩))
              | (go_at_call 24; ((with_reducible refine (HU.out _).mono ?_); rintro e w' ⟨rfl, rfl⟩))
              | (go_at_call 9; refine (awake_any _).mono ?_; rintro e w3 ⟨rfl, hb3⟩))
        go_ret
        exact ⟨rfl, hb1.trans (hb3.mono hb1.size)⟩
      · have hc0 : ((c.toNat : Int) == 0) = false := by
          have : ¬ c.toNat = 0 := fun x => hc (UInt8.toNat_inj.1 x)
          simp; omega
        obtain ⟨i, hi⟩ : ∃ i, k % t.size = i := ⟨_, rfl⟩
        have hit : i < t.size := by rw [← hi]; exact Nat.mod_lt _ (by omega)
        have m1 : ((k : Int).tmod (t.size : Int)) = (i : Int) := by rw [← hi]; exact Int.ofNat_tmod _ _
        have m2 : ((k : Int) % (t.size : Int)) = (i : Int) := by rw [← hi]; exact (Int.natCast_emod _ _).symm
        obtain ⟨y, hy⟩ : ∃ y, t[i] ^^^ c = y := ⟨_, rfl⟩
        have hx : bits .xor .u8 (t[i].toNat : Int) (c.toNat : Int) = (y.toNat : Int) := by rw [xor8, hy]
        have q1 := bConv t
        have q2 := fun w => bCell t w i hit
        have q3 := fun w => bFree t w i hit
        have q4 := fun w => bBack t w i y hit (bCap t w)
        obtain ⟨t2, ht2⟩ : ∃ t2, bs (t.data.toList.set i y) = t2 := ⟨_, rfl⟩
        have hne2 : ¬ opE t2 = 0 := by
          have hl : i < (sealL s.data.toList).length := by
            have := congrArg (fun b : ByteArray => b.size) HD.out
            simp only [bs_size] at this
            omega
          have h := changed s.data.toList i y hl (by
            intro x
            apply xor8_ne t[i] c hc
            have g : t[i]? = some y := by
              rw [← HD.out]
              show (sealL s.data.toList).toArray[i]? = some y
              rw [List.getElem?_toArray, List.getElem?_eq_getElem hl, ← x]
            rw [ByteArray.getElem?_lt' _ _ hit] at g
            rw [hy]
            exact (Option.some.inj g).symm)
          have e : t.data.toList = sealL s.data.toList := by rw [← HD.out]
          rw [← ht2, e]
          exact h
        rw [ht2] at q4
        have hO := fun w => openCode t2 w (by rw [← ht2, bs_size, List.length_set, len_data]; omega)
        rw [← opS_no rfl hne2] at hO
        obtain ⟨E, hEE⟩ : ∃ E, opE t2 = E := ⟨_, rfl⟩
        rw [hEE] at hO hne2
        have hE2 : (E != 0) = true := by simpa using hne2
        have HO := Lib.hid hO
        clear hO hne2 hEE ht2 hc hy hi
        go_enter Try.func6, Try.ntmps6
        go_wp2_with (first
              | (go_at_call 14; ((with_reducible refine (HS.out _).mono ?_); rintro e w1 ⟨rfl, hb1⟩))
              | (go_at_call 24; ((with_reducible refine (HT.out _).mono ?_); rintro e w' ⟨rfl, rfl⟩))
              | (go_at_call 24; ((with_reducible refine (HU.out _).mono ?_); rintro e w' ⟨rfl, rfl⟩))
              | (go_at_call 24; ((with_reducible refine (HO.out _).mono ?_); rintro e w' ⟨rfl, rfl⟩))
              | (go_at_call 9; refine (awake_any _).mono ?_; rintro e w3 ⟨rfl, hb3⟩))
        go_ret
        have b4 : Below w.heap.size w ((bWorld t w1).setCell ⟨w1.heap.size, i, none⟩ (.int .u8 y.toNat)) := hb1.trans (((bWorld_below t w1).setCell (Nat.le_refl _) _).mono hb1.size)
        exact ⟨rfl, b4.trans (hb3.mono b4.size)⟩
end Go.Proofs.Ytejmhhijmglopaa.HashW
