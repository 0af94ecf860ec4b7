/-
  What the reference's longest and read return.
-/
import Derived.Test.YtphmikjoecnmaaaDoorLexRefT
import Derived.Test.YtphmikjoecnmaaaDoorLexRefP
namespace Go.Proofs.YtphmikjoecnmaaaDoor.LexW
open Go Go.RowKit Go.Proofs.YtphmikjoecnmaaaDoor.NumM Go.Proofs.YtphmikjoecnmaaaDoor.LexM

theorem better_yes {l b m : List UInt8} (h : preB l m = true) (h2 : b.length < m.length) : better l b m = m := by unfold better; rw [h, decide_eq_true h2]; rfl
theorem better_no {l b m : List UInt8} (h : preB l m = true) (h2 : ¬ b.length < m.length) : better l b m = b := by unfold better; rw [h, decide_eq_false h2]; rfl
theorem better_not {l b m : List UInt8} (h : preB l m = false) : better l b m = b := by unfold better; rw [h]; rfl
def tLong (s : ByteArray) (k : Nat) (w : World) (e : Ending) (w' : World) : Prop := e = .returned (.string (bs (bestK mks (dr s k) mks.length))) ∧ Below w.heap.size w w'
theorem tLong_mk {s : ByteArray} {k : Nat} {w w' : World} {B : ByteArray} (h : B.data.toList = bestK mks (dr s k) mks.length) (hb : Below w.heap.size w w') : tLong s k w (.returned (.string B)) w' := ⟨by rw [← h], hb⟩
set_option maxRecDepth 100000 in
set_option maxHeartbeats 1000000 in
theorem longest_any (s : ByteArray) (k : Nat) (w : World) (hs : s.size ≤ 16384) (hk : k ≤ s.size) :
    Calls Tryd.prog 47 #[.string s, .int .i64 k] w (tLong s k w) := by
  go_enter Tryd.func47, Tryd.ntmps47
  go_wp2_with (go_at_call 33; ((with_reducible refine (marks_any _).mono ?_); rintro e w1 ⟨g, rfl, hr, hb⟩; have HR := Lib.hid hr; have HB := Lib.hid hb; clear hr hb))
  go_loop [6, 7] (fun b i => ∃ (j : Nat) (B : ByteArray), j ≤ 36 ∧ i = .int .i64 j ∧ b = .string B ∧ B.size ≤ 100 ∧ Hid (B.data.toList = bestK mks (dr s k) j)) (fun _ i => 36 - (intOf i).toNat)
  case atStart => exact ⟨0, ⟨#[]⟩, Nat.zero_le _, rfl, rfl, by decide, Lib.hid rfl⟩
  case round =>
    obtain ⟨j, B, hj, rfl, rfl, hB, BK⟩ := hrel
    by_cases hlt : j < 36
    · obtain ⟨m, hm⟩ : ∃ m, mks[j]? = some m := ⟨_, List.getElem?_eq_getElem (show j < mks.length from hlt)⟩
      have hck := HR.out.cell (show j < mks.length from hlt)
      unfold tabF at hck
      rw [atL_of hm] at hck
      have hml : m.length ≤ 2 := (mk_facts m (List.mem_of_getElem? hm)).2.1
      have hnx := bestK_next (l := dr s k) hm
      rw [← BK.out] at hnx
      have hBl := len_data B
      obtain ⟨y, hy⟩ : ∃ y, bs m = y := ⟨_, rfl⟩
      have hyd : y.data.toList = m := by rw [← hy]
      have hyl : y.size = m.length := by rw [← len_data, hyd]
      rw [hy] at hck
      have SC : ∀ W, Calls Tryd.prog 43 #[.string s, .int .i64 k, .string y] W fun e w' => e = .returned (.bool (preB (dr s k) m)) ∧ W = w' := fun W => by
        have q := starts_any s y k W hs hk (by omega)
        rw [hyd] at q
        exact q
      clear hy
      cases hp : preB (dr s k) m
      · have NX : Hid (B.data.toList = bestK mks (dr s k) (j + 1)) := Lib.hid (by rw [hnx, better_not hp])
        rw [hp] at SC
        have SC := Lib.hid SC
        clear hm hnx hp hyd hyl hml hBl
        go_wp2_with (go_at_call 43; ((with_reducible refine (SC.out _).mono ?_); rintro e w' ⟨rfl, rfl⟩))
        go_round
        case rel => exact ⟨j + 1, B, by omega, by go_num, rfl, hB, NX⟩
        case measure => simp [intOf]; omega
      · by_cases hl : B.size < y.size
        · have NX : Hid (y.data.toList = bestK mks (dr s k) (j + 1)) := Lib.hid (by rw [hnx, better_yes hp (by omega), hyd])
          have hy100 : y.size ≤ 100 := by omega
          rw [hp] at SC
          have SC := Lib.hid SC
          clear hm hnx hp hyd hyl hml hBl
          go_wp2_with (go_at_call 43; ((with_reducible refine (SC.out _).mono ?_); rintro e w' ⟨rfl, rfl⟩))
          go_round
          case rel => exact ⟨j + 1, y, by omega, by go_num, rfl, hy100, NX⟩
          case measure => simp [intOf]; omega
        · have NX : Hid (B.data.toList = bestK mks (dr s k) (j + 1)) := Lib.hid (by rw [hnx, better_no hp (by omega)])
          rw [hp] at SC
          have SC := Lib.hid SC
          clear hm hnx hp hyd hyl hml hBl
          go_wp2_with (go_at_call 43; ((with_reducible refine (SC.out _).mono ?_); rintro e w' ⟨rfl, rfl⟩))
          go_round
          case rel => exact ⟨j + 1, B, by omega, by go_num, rfl, hB, NX⟩
          case measure => simp [intOf]; omega
    · have EE : Hid (B.data.toList = bestK mks (dr s k) mks.length) := Lib.hid (by rw [show mks.length = j from by show 36 = j; omega]; exact BK.out)
      go_wp2
      go_ret
      exact tLong_mk EE.out HB.out
theorem first_other {c : UInt8} (r : List UInt8) (h1 : sml c = false) (h2 : dgt c = false) : firstS (c :: r) = markT (c :: r) := by
  cases hw : wrd c
  · exact first_mark (wordS_stop r hw)
  · rw [first_word (wordS_cons r hw), h1, h2]
    rw [markT, not_mk (c := c) (by cases r <;> simp) (.inl hw), not_mk (c := c) (by simp) (.inl hw)]
    rfl
theorem ext_word (s : ByteArray) (k : Nat) : (s.extract k (k + (wordS (dr s k)).length)).data.toList = wordS (dr s k) := by
  rw [ext_data, show k + (wordS (dr s k)).length - k = (wordS (dr s k)).length by omega]
  exact (word_pre _).symm
theorem ext_wlen (s : ByteArray) (k : Nat) (hk : k ≤ s.size) : k + (wordS (dr s k)).length ≤ s.size := by
  have := (List.takeWhile_prefix wrd (l := dr s k)).length_le
  rw [dr_len] at this
  have e : (wordS (dr s k)).length = ((dr s k).takeWhile wrd).length := rfl
  omega
set_option maxRecDepth 100000 in
set_option maxHeartbeats 1000000 in
theorem read_small (s : ByteArray) (k : Nat) (w : World) (hs : s.size ≤ 1000) (hk : k < s.size) (h1 : sml s[k] = true) :
    Calls Tryd.prog 26 #[.string s, .int .i64 k] w (tTok w (firstS (dr s k))) := by
  have hF : firstS (dr s k) = nameT (wordS (dr s k)) := by
    rw [dr_cons s k hk, first_word (wordS_cons _ (wrd_sml h1)), if_pos h1, wordS_cons _ (wrd_sml h1)]
  have eS : smI (s[k].toNat : Int) = true := by rw [sm_byte, h1]
  have BH := fun W => behind_any s k W (by omega) (by omega)
  have hX := ext_word s k
  have hl := ext_wlen s k (by omega)
  obtain ⟨n, hn⟩ : ∃ n, k + (wordS (dr s k)).length = n := ⟨_, rfl⟩
  rw [hn] at BH hX hl
  have hkn : k ≤ n := by omega
  have BH := Lib.hid BH
  obtain ⟨x, hx⟩ : ∃ x, s.extract k n = x := ⟨_, rfl⟩
  rw [hx] at hX
  rw [hF, ← hX]
  clear hn hF h1
  have hxl := len_data x
  have hb0 : Hid (Below w.heap.size w (w.alloc (.cells #[.int .i64 0, .int .i64 0, .string ⟨#[]⟩, .int .i64 0] 30))) := Lib.hid ((Below.refl _ _).alloc (Nat.le_refl _) _)
  clear hX
  by_cases h : 16 < x.size
  · have E : Hid (nameT x.data.toList = (⟨0, 0, (⟨#[]⟩ : ByteArray).data.toList, 0⟩, 2)) := Lib.hid (by rw [nameT, if_pos (by omega)]; rfl)
    clear hxl
    go_enter Tryd.func26, Tryd.ntmps26
    go_wp2_with (first | (go_at_call 29; refine (smallR_any _ _).mono ?_; rintro e w' ⟨rfl, rfl⟩) | (go_at_call 44; ((with_reducible refine (BH.out _).mono ?_); rintro e w' ⟨rfl, rfl⟩)))
    refine bodyPost_ret (v := .tuple #[tv 0 0 ⟨#[]⟩ 0, .int .i64 2]) (by simp [results, Tryd.results26, go_sem]) rfl ?_
    exact tTok_mk E.out hb0.out
  · have KC := fun W => kwR_any x W
    cases hkw : isKw x.data.toList
    · have E : Hid (nameT x.data.toList = (⟨1, 0, x.data.toList, 0⟩, 0)) := Lib.hid (by rw [nameT, if_neg (by omega), hkw]; rfl)
      rw [hkw] at KC
      have KC := Lib.hid KC
      clear hxl hkw
      go_enter Tryd.func26, Tryd.ntmps26
      go_wp2_with (first | (go_at_call 29; refine (smallR_any _ _).mono ?_; rintro e w' ⟨rfl, rfl⟩) | (go_at_call 44; ((with_reducible refine (BH.out _).mono ?_); rintro e w' ⟨rfl, rfl⟩)) | (go_at_call 16; ((with_reducible refine (KC.out _).mono ?_); rintro e w1 ⟨rfl, hb⟩; have F := Lib.hid ((Four.new w _ _ _ _ _).stay hb); have HB := Lib.hid (Below.then_ hb0.out hb); clear hb; have f0 := F.out.f0; have f1 := F.out.f1; have f2 := F.out.f2; have f3 := F.out.f3; have c0 := F.out.c0; have c1 := F.out.c1; have c2 := F.out.c2; have c3 := F.out.c3)))
      have FF := F.out.put (.int .i64 1) (.int .i64 0) (.string x) (.int .i64 0)
      have d0 := FF.c0; have d1 := FF.c1; have d2 := FF.c2; have d3 := FF.c3
      refine bodyPost_ret (v := .tuple #[tv 1 0 x 0, .int .i64 0]) (by simp [results, Tryd.results26, go_sem, d0, d1, d2, d3]) rfl ?_
      exact tTok_mk E.out (below_put HB.out (Nat.le_refl _) _ _ _ _)
    · have E : Hid (nameT x.data.toList = (⟨2, 0, x.data.toList, 0⟩, 0)) := Lib.hid (by rw [nameT, if_neg (by omega), hkw]; rfl)
      rw [hkw] at KC
      have KC := Lib.hid KC
      clear hxl hkw
      go_enter Tryd.func26, Tryd.ntmps26
      go_wp2_with (first | (go_at_call 29; refine (smallR_any _ _).mono ?_; rintro e w' ⟨rfl, rfl⟩) | (go_at_call 44; ((with_reducible refine (BH.out _).mono ?_); rintro e w' ⟨rfl, rfl⟩)) | (go_at_call 16; ((with_reducible refine (KC.out _).mono ?_); rintro e w1 ⟨rfl, hb⟩; have F := Lib.hid ((Four.new w _ _ _ _ _).stay hb); have HB := Lib.hid (Below.then_ hb0.out hb); clear hb; have f0 := F.out.f0; have f1 := F.out.f1; have f2 := F.out.f2; have f3 := F.out.f3; have c0 := F.out.c0; have c1 := F.out.c1; have c2 := F.out.c2; have c3 := F.out.c3)))
      have FF := F.out.put (.int .i64 2) (.int .i64 0) (.string x) (.int .i64 0)
      have d0 := FF.c0; have d1 := FF.c1; have d2 := FF.c2; have d3 := FF.c3
      refine bodyPost_ret (v := .tuple #[tv 2 0 x 0, .int .i64 0]) (by simp [results, Tryd.results26, go_sem, d0, d1, d2, d3]) rfl ?_
      exact tTok_mk E.out (below_put HB.out (Nat.le_refl _) _ _ _ _)
set_option maxRecDepth 100000 in
set_option maxHeartbeats 1000000 in
theorem read_digit (s : ByteArray) (k : Nat) (w : World) (hs : s.size ≤ 1000) (hk : k < s.size) (h1 : sml s[k] = false) (h2 : dgt s[k] = true) :
    Calls Tryd.prog 26 #[.string s, .int .i64 k] w (tTok w (firstS (dr s k))) := by
  have hF : firstS (dr s k) = numT (wordS (dr s k)) := by
    rw [dr_cons s k hk, first_word (wordS_cons _ (wrd_dgt h2)), h1, if_neg (by decide), if_pos h2, wordS_cons _ (wrd_dgt h2)]
  have eS : smI (s[k].toNat : Int) = false := by rw [sm_byte, h1]
  have eD : dgI (s[k].toNat : Int) = true := by rw [dg_byte, h2]
  have BH := fun W => behind_any s k W (by omega) (by omega)
  have hX := ext_word s k
  have hl := ext_wlen s k (by omega)
  have hW : wordS (dr s k) = s[k] :: wordS (dr s (k + 1)) := by rw [dr_cons s k hk, wordS_cons _ (wrd_dgt h2)]
  have hbd := parse_bd hW h2
  have hpe := parseS_err (wordS (dr s k))
  obtain ⟨n, hn⟩ : ∃ n, k + (wordS (dr s k)).length = n := ⟨_, rfl⟩
  rw [hn] at BH hX hl
  have hkn : k ≤ n := by omega
  have BH := Lib.hid BH
  obtain ⟨x, hx⟩ : ∃ x, s.extract k n = x := ⟨_, rfl⟩
  rw [hx] at hX
  rw [hF, ← hX]
  rw [← hX] at hbd hpe
  have hxl := len_data x
  have hxs : x.size ≤ 1000 := by
    rw [← hxl, hX]
    omega
  have PC := fun W => RefP.parseRef_any x W hxs
  unfold RefP.parsedR at PC
  clear hn hF h1 h2 hX hW hxl
  have hb0 : Hid (Below w.heap.size w (w.alloc (.cells #[.int .i64 0, .int .i64 0, .string ⟨#[]⟩, .int .i64 0] 30))) := Lib.hid ((Below.refl _ _).alloc (Nat.le_refl _) _)
  rcases hp : parseS x.data.toList with ⟨m, er⟩
  rw [hp] at PC hbd hpe
  simp only at PC hbd hpe
  obtain ⟨hm0, hm1⟩ := hbd
  have PC := Lib.hid PC
  rcases hpe with he | he | he
  · subst he
    by_cases hm : 2147483647 < m
    · have E : Hid (numT x.data.toList = (⟨0, 0, (⟨#[]⟩ : ByteArray).data.toList, 0⟩, 3)) := Lib.hid (by rw [numT, hp, if_pos rfl, if_pos hm]; rfl)
      clear hp
      go_enter Tryd.func26, Tryd.ntmps26
      go_wp2_with (first | (go_at_call 29; refine (smallR_any _ _).mono ?_; rintro e w' ⟨rfl, rfl⟩) | (go_at_call 45; refine (digitR_any _ _).mono ?_; rintro e w' ⟨rfl, rfl⟩) | (go_at_call 44; ((with_reducible refine (BH.out _).mono ?_); rintro e w' ⟨rfl, rfl⟩)) | (go_at_call 46; ((with_reducible refine (PC.out _).mono ?_); rintro e w' ⟨rfl, rfl⟩)))
      refine bodyPost_ret (v := .tuple #[tv 0 0 ⟨#[]⟩ 0, .int .i64 3]) (by simp [results, Tryd.results26, go_sem]) rfl ?_
      exact tTok_mk E.out hb0.out
    · have E : Hid (numT x.data.toList = (⟨3, m, x.data.toList, 0⟩, 0)) := Lib.hid (by rw [numT, hp, if_pos rfl, if_neg hm])
      clear hp
      go_enter Tryd.func26, Tryd.ntmps26
      go_wp2_with (first | (go_at_call 29; refine (smallR_any _ _).mono ?_; rintro e w' ⟨rfl, rfl⟩) | (go_at_call 45; refine (digitR_any _ _).mono ?_; rintro e w' ⟨rfl, rfl⟩) | (go_at_call 44; ((with_reducible refine (BH.out _).mono ?_); rintro e w' ⟨rfl, rfl⟩)) | (go_at_call 46; ((with_reducible refine (PC.out _).mono ?_); rintro e w' ⟨rfl, rfl⟩)))
      refine bodyPost_ret (v := .tuple #[tv 3 m x 0, .int .i64 0]) (by simp [results, Tryd.results26, go_sem]) rfl ?_
      exact tTok_mk E.out ((Below.refl _ _).alloc (Nat.le_refl _) _)
  · subst he
    have E : Hid (numT x.data.toList = (⟨0, 0, (⟨#[]⟩ : ByteArray).data.toList, 0⟩, 3)) := Lib.hid (by rw [numT, hp, if_neg (by simp)]; rfl)
    clear hp
    go_enter Tryd.func26, Tryd.ntmps26
    go_wp2_with (first | (go_at_call 29; refine (smallR_any _ _).mono ?_; rintro e w' ⟨rfl, rfl⟩) | (go_at_call 45; refine (digitR_any _ _).mono ?_; rintro e w' ⟨rfl, rfl⟩) | (go_at_call 44; ((with_reducible refine (BH.out _).mono ?_); rintro e w' ⟨rfl, rfl⟩)) | (go_at_call 46; ((with_reducible refine (PC.out _).mono ?_); rintro e w' ⟨rfl, rfl⟩)))
    refine bodyPost_ret (v := .tuple #[tv 0 0 ⟨#[]⟩ 0, .int .i64 3]) (by simp [results, Tryd.results26, go_sem]) rfl ?_
    exact tTok_mk E.out hb0.out
  · subst he
    have E : Hid (numT x.data.toList = (⟨0, 0, (⟨#[]⟩ : ByteArray).data.toList, 0⟩, 5)) := Lib.hid (by rw [numT, hp, if_neg (by simp)]; rfl)
    clear hp
    go_enter Tryd.func26, Tryd.ntmps26
    go_wp2_with (first | (go_at_call 29; refine (smallR_any _ _).mono ?_; rintro e w' ⟨rfl, rfl⟩) | (go_at_call 45; refine (digitR_any _ _).mono ?_; rintro e w' ⟨rfl, rfl⟩) | (go_at_call 44; ((with_reducible refine (BH.out _).mono ?_); rintro e w' ⟨rfl, rfl⟩)) | (go_at_call 46; ((with_reducible refine (PC.out _).mono ?_); rintro e w' ⟨rfl, rfl⟩)))
    refine bodyPost_ret (v := .tuple #[tv 0 0 ⟨#[]⟩ 0, .int .i64 5]) (by simp [results, Tryd.results26, go_sem]) rfl ?_
    exact tTok_mk E.out hb0.out
set_option maxRecDepth 100000 in
set_option maxHeartbeats 1000000 in
theorem read_mark (s : ByteArray) (k : Nat) (w : World) (hs : s.size ≤ 1000) (hk : k < s.size) (h1 : sml s[k] = false) (h2 : dgt s[k] = false) :
    Calls Tryd.prog 26 #[.string s, .int .i64 k] w (tTok w (firstS (dr s k))) := by
  have hF : firstS (dr s k) = if bestK mks (dr s k) mks.length = [] then (zTk, 5) else (⟨4, 0, bestK mks (dr s k) mks.length, 0⟩, 0) := by
    rw [← best_mark, dr_cons s k hk]; exact first_other _ h1 h2
  have eS : smI (s[k].toNat : Int) = false := by rw [sm_byte, h1]
  have eD : dgI (s[k].toNat : Int) = false := by rw [dg_byte, h2]
  have LC := fun W => longest_any s k W (by omega) (by omega)
  unfold tLong at LC
  obtain ⟨b, hb⟩ : ∃ b, bestK mks (dr s k) mks.length = b := ⟨_, rfl⟩
  rw [hb] at hF LC
  rw [hF]
  clear hb hF h1 h2
  obtain ⟨x, hx⟩ : ∃ x, bs b = x := ⟨_, rfl⟩
  have hxd : x.data.toList = b := by rw [← hx]
  rw [hx] at LC
  have LC := Lib.hid LC
  have hb0 : Hid (Below w.heap.size w (w.alloc (.cells #[.int .i64 0, .int .i64 0, .string ⟨#[]⟩, .int .i64 0] 30))) := Lib.hid ((Below.refl _ _).alloc (Nat.le_refl _) _)
  clear hx
  by_cases h : b = []
  · rw [if_pos h]
    have hxe : x.toList = [] := by rw [Lib.toList_data, hxd, h]
    clear hxd h
    go_enter Tryd.func26, Tryd.ntmps26
    go_wp2_with (first | (go_at_call 29; refine (smallR_any _ _).mono ?_; rintro e w' ⟨rfl, rfl⟩) | (go_at_call 45; refine (digitR_any _ _).mono ?_; rintro e w' ⟨rfl, rfl⟩) | (go_at_call 47; ((with_reducible refine (LC.out _).mono ?_); rintro e w1 ⟨rfl, hb⟩; have F := Lib.hid ((Four.new w _ _ _ _ _).stay hb); have HB := Lib.hid (Below.then_ hb0.out hb); clear hb; have f0 := F.out.f0; have f1 := F.out.f1; have f2 := F.out.f2; have f3 := F.out.f3; have c0 := F.out.c0; have c1 := F.out.c1; have c2 := F.out.c2; have c3 := F.out.c3)))
    have FF := F.out.put (.int .i64 0) (.int .i64 0) (.string ⟨#[]⟩) (.int .i64 0)
    have d0 := FF.c0; have d1 := FF.c1; have d2 := FF.c2; have d3 := FF.c3
    refine bodyPost_ret (v := .tuple #[tv 0 0 ⟨#[]⟩ 0, .int .i64 5]) (by simp [results, Tryd.results26, go_sem, d0, d1, d2, d3]) rfl ?_
    exact tTok_mk rfl (below_put HB.out (Nat.le_refl _) _ _ _ _)
  · rw [if_neg h]
    have hxe : x.toList.isEmpty = false := by rw [Lib.toList_data, hxd]; simpa using h
    have HXD := Lib.hid hxd
    clear hxd h
    go_enter Tryd.func26, Tryd.ntmps26
    go_wp2_with (first | (go_at_call 29; refine (smallR_any _ _).mono ?_; rintro e w' ⟨rfl, rfl⟩) | (go_at_call 45; refine (digitR_any _ _).mono ?_; rintro e w' ⟨rfl, rfl⟩) | (go_at_call 47; ((with_reducible refine (LC.out _).mono ?_); rintro e w1 ⟨rfl, hb⟩; have F := Lib.hid ((Four.new w _ _ _ _ _).stay hb); have HB := Lib.hid (Below.then_ hb0.out hb); clear hb; have f0 := F.out.f0; have f1 := F.out.f1; have f2 := F.out.f2; have f3 := F.out.f3; have c0 := F.out.c0; have c1 := F.out.c1; have c2 := F.out.c2; have c3 := F.out.c3)))
    have FF := F.out.put (.int .i64 4) (.int .i64 0) (.string x) (.int .i64 0)
    have d0 := FF.c0; have d1 := FF.c1; have d2 := FF.c2; have d3 := FF.c3
    refine bodyPost_ret (v := .tuple #[tv 4 0 x 0, .int .i64 0]) (by simp [results, Tryd.results26, go_sem, d0, d1, d2, d3]) rfl ?_
    exact tTok_mk (by rw [HXD.out]) (below_put HB.out (Nat.le_refl _) _ _ _ _)
/-- The reference's read, for every string of at most 1000 bytes. -/
theorem read_any (s : ByteArray) (k : Nat) (w : World) (hs : s.size ≤ 1000) (hk : k < s.size) :
    Calls Tryd.prog 26 #[.string s, .int .i64 k] w (tTok w (firstS (dr s k))) := by
  cases h1 : sml s[k]
  · cases h2 : dgt s[k]
    · exact read_mark s k w hs hk h1 h2
    · exact read_digit s k w hs hk h1 h2
  · exact read_small s k w hs hk h1
end Go.Proofs.YtphmikjoecnmaaaDoor.LexW
