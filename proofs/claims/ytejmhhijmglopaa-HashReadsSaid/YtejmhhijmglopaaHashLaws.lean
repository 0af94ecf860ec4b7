/-
  The laws of package hash, walked, but for HashOpens; what 'awake' returns.
-/
import Derived.Test.YtejmhhijmglopaaHashOpen
import Derived.Lib.SlBytesRow
namespace Go.Proofs.Ytejmhhijmglopaa.HashW
open Go Go.RowKit Go.Proofs.Ytejmhhijmglopaa.HashM

/-! ### awake -/
abbrev tSealed : ByteArray := ⟨#[49, 50, 51, 52, 53, 54, 55, 56, 57, 35, 99, 98, 102, 52, 51, 57, 50, 54]⟩
abbrev tPlain : ByteArray := ⟨#[49, 50, 51, 52, 53, 54, 55, 56, 57]⟩
abbrev tHex : ByteArray := ⟨#[48, 48, 48, 48, 48, 48, 48, 48, 48, 48, 48, 48, 48, 48, 102, 102]⟩
theorem aw1 (w : World) : Calls Try.prog 24 #[.string tSealed] w fun e w' => e = .returned (.tuple #[.string tPlain, .int .i64 0]) ∧ w = w' := by
  have h := openCode tSealed w (by decide)
  rw [show opE tSealed = 0 by decide +kernel, show opS tSealed = tPlain by decide +kernel] at h
  exact h
theorem aw2 (w : World) : Calls Try.prog 16 #[.string tHex] w fun e w' => e = .returned (.tuple #[.int .u64 255, .int .i64 0]) ∧ w = w' := by
  have h := unhexCode tHex w (by decide)
  rw [show uhV tHex = 255 by decide +kernel, show uhE tHex = 0 by decide +kernel] at h
  exact h
theorem aw3 (w : World) : Calls Try.prog 10 #[.string ⟨#[97]⟩] w fun e w' => e = .returned (.int .u64 12638187200555641996) ∧ w = w' := by
  have h := hashCode ⟨#[97]⟩ w (by decide)
  rw [show V (hashL (⟨#[97]⟩ : ByteArray).data.toList) = 12638187200555641996 by decide +kernel] at h
  exact h
theorem aw4 (w : World) : Calls Try.prog 18 #[.int .u64 0] w fun e w' => e = .returned (.int .u64 0) ∧ w = w' := by
  have h := finCode 0 w
  rw [show V (fin 0) = 0 by decide +kernel, show V 0 = 0 from rfl] at h
  exact h
theorem aw5 (w : World) : Calls Try.prog 12 #[.string tPlain] w fun e w' => e = .returned (.int .u32 3421780262) ∧ w = w' := by
  have h := crcCode tPlain w (by decide)
  rw [show V32 (crcL tPlain.data.toList) = 3421780262 by decide +kernel] at h
  exact h
theorem aw6 (w : World) : Calls Try.prog 14 #[.string ⟨#[]⟩] w fun e w' => e = .returned (.string ⟨#[35, 48, 48, 48, 48, 48, 48, 48, 48]⟩) ∧ Below w.heap.size w w' := by
  have h := sealCode ⟨#[]⟩ w (by decide)
  rw [show bs (sealL (⟨#[]⟩ : ByteArray).data.toList) = ⟨#[35, 48, 48, 48, 48, 48, 48, 48, 48]⟩ by decide +kernel] at h
  exact h
theorem aw7 (w : World) : Calls Try.prog 17 #[.int .u64 255] w fun e w' => e = .returned (.string tHex) ∧ Below w.heap.size w w' := by
  have h := hexCode 255 w
  rw [show bs (sfx (255 : UInt64).toNat 16) = tHex by decide +kernel, show V 255 = 255 from rfl] at h
  exact h
set_option maxHeartbeats 1000000 in
theorem awake_any (w : World) :
    Calls Try.prog 9 #[] w fun e w' => e = .returned (.bool true) ∧ Below w.heap.size w w' := by
  go_enter Try.func9, Try.ntmps9
  go_wp2_with (first
    | (go_at_call 24; refine (aw1 _).mono ?_; rintro e w' ⟨rfl, rfl⟩)
    | (go_at_call 16; refine (aw2 _).mono ?_; rintro e w' ⟨rfl, rfl⟩)
    | (go_at_call 10; refine (aw3 _).mono ?_; rintro e w' ⟨rfl, rfl⟩)
    | (go_at_call 18; refine (aw4 _).mono ?_; rintro e w' ⟨rfl, rfl⟩)
    | (go_at_call 12; refine (aw5 _).mono ?_; rintro e w' ⟨rfl, rfl⟩)
    | (go_at_call 14; refine (aw6 _).mono ?_; rintro e w1 ⟨rfl, hb1⟩)
    | (go_at_call 17; refine (aw7 _).mono ?_; rintro e w2 ⟨rfl, hb2⟩))
  go_ret
  exact ⟨rfl, hb1.trans (hb2.mono hb1.size)⟩
/-! ### arguments -/
theorem u64_of {x : Int} (h : (Lit.int .u64 x).wf = true) : ∃ a : UInt64, x = V a := by
  have e1 : IntKind.u64.min = 0 := rfl
  have e2 : IntKind.u64.max = 18446744073709551615 := rfl
  simp [Lit.wf, e1, e2] at h
  refine ⟨UInt64.ofNat x.toNat, ?_⟩
  unfold V
  rw [UInt64.toNat_ofNat_of_lt' (by show x.toNat < 18446744073709551616; omega)]
  omega
theorem u8_of {x : Int} (h : (Lit.int .u8 x).wf = true) : ∃ a : UInt8, x = (a.toNat : Int) := by
  have e1 : IntKind.u8.min = 0 := rfl
  have e2 : IntKind.u8.max = 255 := rfl
  simp [Lit.wf, e1, e2] at h
  refine ⟨UInt8.ofNat x.toNat, ?_⟩
  rw [UInt8.toNat_ofNat_of_lt' (by show x.toNat < 256; omega)]
  omega

/-! ### the laws -/
set_option maxHeartbeats 1000000 in
theorem texts_any (s : ByteArray) (w : World) (hs : s.size ≤ 140737488351232) :
    Calls Try.prog 3 #[.string s] w fun e w' => e = .returned (.bool true) ∧ Below w.heap.size w w' := by
  go_enter Try.func3, Try.ntmps3
  go_wp2_with (first
    | (go_at_call 10; refine (hashCode _ _ hs).mono ?_; rintro e w' ⟨rfl, rfl⟩)
    | (go_at_call 11; refine (hashRef _ _ hs).mono ?_; rintro e w' ⟨rfl, rfl⟩)
    | (go_at_call 12; refine (crcCode _ _ hs).mono ?_; rintro e w' ⟨rfl, rfl⟩)
    | (go_at_call 13; refine (crcRef _ _ hs).mono ?_; rintro e w' ⟨rfl, rfl⟩)
    | (go_at_call 14; refine (sealCode _ _ hs).mono ?_; rintro e w1 ⟨rfl, hb1⟩)
    | (go_at_call 15; refine (sealRef _ _ hs).mono ?_; rintro e w' ⟨rfl, rfl⟩)
    | (go_at_call 9; refine (awake_any _).mono ?_; rintro e w2 ⟨rfl, hb2⟩))
  all_goals go_ret
  all_goals first
    | exact ⟨rfl, hb1.trans (hb2.mono hb1.size)⟩
    | exact ⟨rfl, hb2⟩
theorem unhex_hex (a : UInt64) : uhV (bs (sfx a.toNat 16)) = V a ∧ uhE (bs (sfx a.toNat 16)) = 0 := by
  have h1 : (bs (sfx a.toNat 16)).size = 16 := by rw [bs_size, sfx_len]
  have h2 : okH (bs (sfx a.toNat 16)).data.toList = true := sfx_ok _ _
  have h := uh_ok h1 h2
  rw [← h.1, ← h.2, ← pv_ok h2]
  refine ⟨?_, rfl⟩
  show W (sfx a.toNat 16) = _
  unfold W V
  rw [vl_sfx]
  have := UInt64.toNat_lt a
  omega
set_option maxHeartbeats 1000000 in
theorem mixes_any (a b : UInt64) (w : World) :
    Calls Try.prog 4 #[.int .u64 (V a), .int .u64 (V b)] w fun e w' => e = .returned (.bool true) ∧ Below w.heap.size w w' := by
  have hu := fun w => unhexCode (bs (sfx a.toNat 16)) w (by rw [bs_size, sfx_len]; omega)
  rw [(unhex_hex a).1, (unhex_hex a).2] at hu
  have HU := Lib.hid hu
  clear hu
  go_enter Try.func4, Try.ntmps4
  go_wp2_with (first
    | (go_at_call 17; refine (hexCode _ _).mono ?_; rintro e w1 ⟨rfl, hb1⟩)
    | (go_at_call 16; refine (HU.out _).mono ?_; rintro e w' ⟨rfl, rfl⟩)
    | (go_at_call 18; refine (finCode _ _).mono ?_; rintro e w' ⟨rfl, rfl⟩)
    | (go_at_call 19; refine (finRef _ _).mono ?_; rintro e w' ⟨rfl, rfl⟩)
    | (go_at_call 20; refine (mixCode _ _ _).mono ?_; rintro e w' ⟨rfl, rfl⟩)
    | (go_at_call 21; refine (mixRef _ _ _).mono ?_; rintro e w' ⟨rfl, rfl⟩)
    | (go_at_call 22; refine (hexRef _ _).mono ?_; rintro e w' ⟨rfl, rfl⟩)
    | (go_at_call 9; refine (awake_any _).mono ?_; rintro e w3 ⟨rfl, hb3⟩))
  go_ret
  have b := ‹Below w.heap.size w _›
  exact ⟨rfl, (b.trans (hb1.mono b.size)).trans (hb3.mono (Nat.le_trans b.size hb1.size))⟩
set_option maxHeartbeats 1000000 in
theorem reads_any (s : ByteArray) (w : World) (hs : s.size ≤ 140737488351232) :
    Calls Try.prog 5 #[.string s] w fun e w' => e = .returned (.bool true) ∧ Below w.heap.size w w' := by
  go_enter Try.func5, Try.ntmps5
  go_wp2_with (first
    | (go_at_call 16; refine (unhexCode _ _ hs).mono ?_; rintro e w' ⟨rfl, rfl⟩)
    | (go_at_call 23; refine (unhexRef _ _ hs).mono ?_; rintro e w' ⟨rfl, rfl⟩)
    | (go_at_call 24; refine (openCode _ _ hs).mono ?_; rintro e w' ⟨rfl, rfl⟩)
    | (go_at_call 25; refine (openRef _ _ hs).mono ?_; rintro e w' ⟨rfl, rfl⟩)
    | (go_at_call 9; refine (awake_any _).mono ?_; rintro e w3 ⟨rfl, hb3⟩))
  all_goals go_ret
  all_goals exact ⟨rfl, hb3⟩
set_option maxHeartbeats 1000000 in
theorem inverts_any (a b : UInt64) (w : World) :
    Calls Try.prog 7 #[.int .u64 (V a), .int .u64 (V b)] w fun e w' => e = .returned (.bool true) ∧ Below w.heap.size w w' := by
  have u1 := fun w => undoCode (fin a) w
  rw [undo_fin] at u1
  have u2 := fun w => undoCode (mix a b) w
  have i1 := fun w => invCode 0x9e3779b97f4a7c15 w
  rw [show V 0x9e3779b97f4a7c15 = 11400714819323198485 from rfl] at i1
  have e1 : IntKind.u64.wrap (V (undo (mix a b)) - IntKind.u64.wrap (11400714819323198485 * IntKind.u64.wrap (V b + 1))) = V a := by
    rw [add1, mul4, subV, undo_a]
  have e2 : IntKind.u64.wrap (IntKind.u64.wrap (IntKind.u64.wrap (V (undo (mix a b)) - V a) * V (nst 0x9e3779b97f4a7c15 6)) - 1) = V b := by
    rw [subV, mulV, sub1, undo_b]
  have U1 := Lib.hid u1
  have U2 := Lib.hid u2
  have I1 := Lib.hid i1
  clear u1 u2 i1
  go_enter Try.func7, Try.ntmps7
  go_wp2_with (first
    | (go_at_call 18; refine (finCode _ _).mono ?_; rintro e w' ⟨rfl, rfl⟩)
    | (go_at_call 20; refine (mixCode _ _ _).mono ?_; rintro e w' ⟨rfl, rfl⟩)
    | (go_at_call 26; ((with_reducible refine (U1.out _).mono ?_); rintro e w' ⟨rfl, rfl⟩))
    | (go_at_call 26; ((with_reducible refine (U2.out _).mono ?_); rintro e w' ⟨rfl, rfl⟩))
    | (go_at_call 27; ((with_reducible refine (I1.out _).mono ?_); rintro e w' ⟨rfl, rfl⟩))
    | (go_at_call 9; refine (awake_any _).mono ?_; rintro e w3 ⟨rfl, hb3⟩))
  go_ret
  exact ⟨rfl, hb3⟩
set_option maxHeartbeats 1000000 in
theorem grows_any (s : ByteArray) (c : UInt8) (w : World) (hs : s.size ≤ 140737488351232) :
    Calls Try.prog 8 #[.string s, .int .u8 c.toNat] w fun e w' => e = .returned (.bool true) ∧ Below w.heap.size w w' := by
  by_cases h5 : (500 : Int) < s.size
  · go_enter Try.func8, Try.ntmps8
    go_wp2_with (go_at_call 9; refine (awake_any _).mono ?_; rintro e w3 ⟨rfl, hb3⟩)
    go_ret
    exact ⟨rfl, hb3⟩
  · have hb : Lib.Bytes (w.alloc (.cells #[.int .u8 (c.toNat : Int)] 5)) w.heap.size 0 ⟨#[c]⟩ := by
      intro i hi
      obtain rfl : i = 0 := by have : i < 1 := hi; omega
      show _ = some (Value.int .u8 (c.toNat : Int))
      simp
    have hcv : Sem.run Try.prog (convert 38 9 (.slice (some ⟨w.heap.size, 0, none⟩) 1 1)) (w.alloc (.cells #[.int .u8 (c.toNat : Int)] 5)) = .ok (.string ⟨#[c]⟩) (w.alloc (.cells #[.int .u8 (c.toNat : Int)] 5)) :=
      Lib.run_convert_whole (P := Try.prog) _ 38 5 9 Try.underlying38 Try.underlying5 Try.underlying9 w.heap.size 0 ⟨#[c]⟩ hb 1
    have hg := fun w => hashCode (s ++ ⟨#[c]⟩) w (by rw [ByteArray.size_append]; show s.size + 1 ≤ _; omega)
    have ed : (s ++ (⟨#[c]⟩ : ByteArray)).data.toList = s.data.toList ++ [c] := by simp
    rw [ed, hashL_snoc] at hg
    have hv := hstepV (hashL s.data.toList) c
    have HG := Lib.hid hg
    have s5 : s.size ≤ 500 := by omega
    clear hg ed hb
    go_enter Try.func8, Try.ntmps8
    go_wp2_with (first
      | (go_at_call 10; ((with_reducible refine (HG.out _).mono ?_); rintro e w' ⟨rfl, rfl⟩))
      | (go_at_call 10; refine (hashCode _ _ hs).mono ?_; rintro e w' ⟨rfl, rfl⟩)
      | (go_at_call 9; refine (awake_any _).mono ?_; rintro e w3 ⟨rfl, hb3⟩))
    go_ret
    exact ⟨rfl, ((Below.refl _ _).alloc (Nat.le_refl _) _).trans (hb3.mono (by rw [alloc_size]; omega))⟩
end Go.Proofs.Ytejmhhijmglopaa.HashW
