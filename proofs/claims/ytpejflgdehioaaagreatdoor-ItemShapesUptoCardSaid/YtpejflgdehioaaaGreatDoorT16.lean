/-
  Laws that the card uses; no conditions beside those that each states (ItCut).
-/
import Derived.Shelf.Strconv.ErrVarAll
import Derived.Test.YtpejflgdehioaaaGreatDoorT07
import Derived.Test.YtpejflgdehioaaaGreatDoorT11
namespace Go.Proofs.YtpejflgdehioaaaGreatDoor.ItW
open Go Go.RowKit Go.Proofs.YtpejflgdehioaaaGreatDoor.NumM Go.Proofs.YtpejflgdehioaaaGreatDoor.LexW Go.Proofs.YtpejflgdehioaaaGreatDoor.LexM Go.Proofs.YtpejflgdehioaaaGreatDoor.ExM Go.Proofs.YtpejflgdehioaaaGreatDoor.ExW Go.Proofs.YtpejflgdehioaaaGreatDoor.ItM
structure TabI (w : World) : Prop where
  tab : Tab w
  syn : ∃ tp p, w.var? Tryz.prog "strconv.ErrSyntax" = some #[.iface tp p]
theorem gSyntax : Tryz.prog.globalNamed "strconv.ErrSyntax" = some 1 := by kernel_rfl
theorem TabI.later {w w' : World} (h : TabI w) (hb : Below w.heap.size w w') : TabI w' :=
  ⟨h.tab.later hb, by obtain ⟨tp, p, hr⟩ := h.syn; exact ⟨tp, p, var_later gSyntax hr hb⟩⟩
theorem atoi_empty (w : World) (ht : TabI w) : Calls Tryz.prog 197 #[.string ⟨#[]⟩] w fun e w' => ∃ t p, e = .returned (.tuple #[.int .i64 0, .iface t (.pointer p)]) ∧ Below w.heap.size w w' := by
  obtain ⟨tp, p, hv⟩ := ht.syn; exact (Any.strconv_Atoi_syntax_var Tryz.laysC172 ⟨#[]⟩ (by decide) rfl tp p w hv).mono fun e w' ⟨N, he, _, _, hb⟩ => ⟨_, _, he, hb⟩
set_option maxRecDepth 100000 in
theorem cutLite0 (s : ByteArray) (h : (91 : UInt8) ∉ s.data.toList) (w : World) :
    Calls Tryz.prog 199 #[.string s, .string ⟨#[91]⟩] w fun e w' => e = .returned (.tuple #[.string s, .string ⟨#[]⟩, .bool false]) ∧ w = w' := by
  have IX := Tryz.stringslite_Index_one s 91 w; have hi : Lib.indexByte s.data.toList 91 = -1 := by
    have hge := Lib.indexByte_ge s.data.toList 91; by_cases h1 : Lib.indexByte s.data.toList 91 = -1
    · exact h1
    · obtain ⟨k, hk⟩ : ∃ k : Nat, Lib.indexByte s.data.toList 91 = (k : Int) := ⟨(Lib.indexByte s.data.toList 91).toNat, by omega⟩; obtain ⟨h2, _⟩ := Lib.indexByte_some hk; exact absurd (List.mem_of_getElem? h2) h
  rw [hi] at IX; have IX := Lib.hid IX; clear h hi
  go_enter Tryz.func199, Tryz.ntmps199
  go_wp2_with (go_at_call 210; ((with_reducible refine IX.out.mono ?_); rintro e w' ⟨rfl, rfl⟩))
  refine bodyPost_ret (v := .tuple #[.string s, .string ⟨#[]⟩, .bool false]) (by simp [results, Tryz.results199, go_sem]) rfl ?_; exact ⟨rfl, rfl⟩
theorem cut0 (s : ByteArray) (h : (91 : UInt8) ∉ s.data.toList) (w : World) :
    Calls Tryz.prog 174 #[.string s, .string ⟨#[91]⟩] w fun e w' => e = .returned (.tuple #[.string s, .string ⟨#[]⟩, .bool false]) ∧ w = w' := by
  have C := Lib.hid (cutLite0 s h w); clear h
  go_enter Tryz.func174, Tryz.ntmps174
  go_wp2_with (go_at_call 199; ((with_reducible refine C.out.mono ?_); rintro e w1 ⟨rfl, rfl⟩))
  refine bodyPost_ret (v := .tuple #[.string s, .string ⟨#[]⟩, .bool false]) (by simp [results, Tryz.results174, go_sem]) rfl ?_; exact ⟨rfl, rfl⟩
theorem dig_cases {d : UInt8} (h : 48 ≤ d.toNat ∧ d.toNat ≤ 55) : d = 48 ∨ d = 49 ∨ d = 50 ∨ d = 51 ∨ d = 52 ∨ d = 53 ∨ d = 54 ∨ d = 55 := by
  have : ∀ e : UInt8, d.toNat = e.toNat → d = e := (fun e he => UInt8.toNat_inj.1 he); have hk : d.toNat = 48 ∨ d.toNat = 49 ∨ d.toNat = 50 ∨ d.toNat = 51 ∨ d.toNat = 52 ∨ d.toNat = 53 ∨ d.toNat = 54 ∨ d.toNat = 55 := (by omega); rcases hk with h | h | h | h | h | h | h | h
  · exact .inl (this 48 h)
  · exact .inr (.inl (this 49 h))
  · exact .inr (.inr (.inl (this 50 h)))
  · exact .inr (.inr (.inr (.inl (this 51 h))))
  · exact .inr (.inr (.inr (.inr (.inl (this 52 h)))))
  · exact .inr (.inr (.inr (.inr (.inr (.inl (this 53 h))))))
  · exact .inr (.inr (.inr (.inr (.inr (.inr (.inl (this 54 h)))))))
  · exact .inr (.inr (.inr (.inr (.inr (.inr (.inr (this 55 h)))))))
theorem atoi_dig {d : UInt8} (h : 48 ≤ d.toNat ∧ d.toNat ≤ 55) : Lib.atoiAll [d] = .ok (((d.toNat - 48 : Nat) : Int)) ∧ Lib.trimSuffix [d, 93] [93] = [d] := by
  rcases dig_cases h with rfl | rfl | rfl | rfl | rfl | rfl | rfl | rfl <;> exact ⟨rfl, rfl⟩
theorem elm_parts {s : ByteArray} (h : isE s = true) : ∃ d : UInt8, s.data.toList = (cutA s).data.toList ++ 91 :: [d, 93] ∧ (48 ≤ d.toNat ∧ d.toNat ≤ 55) ∧ nmB (cutA s).data.toList = true ∧ cutK s = ((d.toNat - 48 : Nat) : Int) := by
  obtain ⟨r, d, e, hd, hn⟩ := elm_iff.1 h; have ha : (cutA s).data.toList = r := by
    show s.data.toList.take (s.data.toList.length - 3) = r; rw [e]; simp
  refine ⟨d, by rw [ha]; exact e, hd, by rw [ha]; exact hn, ?_⟩; unfold cutK; rw [e]; have hl : (r ++ 91 :: [d, 93]).length - 2 = r.length + 1 := (by simp); rw [hl, List.getD_eq_getElem?_getD, List.getElem?_append_right (by omega)]; simp
def tCut (s : ByteArray) (w : World) (e : Ending) (w' : World) : Prop :=
  ∃ t i, e = .returned (.tuple #[.string t, .int .i64 i, .bool (isE s)]) ∧ (isE s = true → t = cutA s ∧ i = cutK s) ∧ Below w.heap.size w w'
set_option maxRecDepth 100000 in
set_option maxHeartbeats 4000000 in
theorem cutElement_any (s : ByteArray) (w : World) (hs : s.size ≤ 140737488351232) (hv : varB s.data.toList = true) (ht : TabI w) :
    Calls Tryz.prog 167 #[.string s] w (tCut s w) := by
  have HT := Lib.hid ht; obtain ⟨q, hq⟩ : ∃ q, isE s = q := ⟨_, rfl⟩; cases q
  · have hn : nmB s.data.toList = true := by
      unfold varB at hv; rw [show elmB s.data.toList = false from hq] at hv
      simpa using hv
    have C := Lib.hid (cut0 s (nm_no hn) w); have T0 : Hid (Calls Tryz.prog 198 #[.string ⟨#[]⟩, .string ⟨#[93]⟩] w fun e w' => e = .returned (.string ⟨#[]⟩) ∧ w' = w) := Lib.hid (Tryz.strings_TrimSuffix ⟨#[]⟩ ⟨#[93]⟩ w (by decide)); have A0 := Lib.hid (atoi_empty w ht); have Q := Lib.hid hq; clear hn hv ht hs hq
    go_enter Tryz.func167, Tryz.ntmps167
    go_wp2_with (first
      | (go_at_call 174; ((with_reducible refine C.out.mono ?_); rintro e w1 ⟨rfl, rfl⟩))
      | (go_at_call 198; ((with_reducible refine T0.out.mono ?_); rintro e w1 ⟨rfl, rfl⟩))
      | (go_at_call 197; ((with_reducible refine A0.out.mono ?_); rintro e w1 ⟨t, p, rfl, hb⟩; have HB := Lib.hid hb; clear hb)))
    refine bodyPost_ret (v := .tuple #[.string ⟨#[]⟩, .int .i64 0, .bool false]) (by simp [results, Tryz.results167, go_sem]) rfl ?_; exact ⟨_, _, by rw [Q.out], fun h => (by rw [Q.out] at h; cases h), HB.out⟩
  · obtain ⟨d, e, hd, hn, hk⟩ := elm_parts hq; obtain ⟨t, b, f, ⟨p1, p2, p3, p4⟩, C0⟩ := cutCode s hs; have hfb : f = true ∧ t = cutA s ∧ b = ⟨#[d, 93]⟩ := by
      rcases p4 with ⟨rfl, e2⟩ | ⟨rfl, e2⟩
      · rw [e] at e2; obtain ⟨g1, g2⟩ := split_at e2 (nm_no hn) p3; exact ⟨rfl, bs_eq g1.symm, bs_eq g2.symm⟩
      · rw [e2, e] at p3; exact absurd (by simp) p3
    obtain ⟨rfl, rfl, rfl⟩ := hfb; obtain ⟨a1, a2⟩ := atoi_dig hd; have C := Lib.hid (C0 w); have T0 : Hid (∀ W, Calls Tryz.prog 198 #[.string ⟨#[d, 93]⟩, .string ⟨#[93]⟩] W fun e w' => e = .returned (.string ⟨#[d]⟩) ∧ w' = W) := Lib.hid fun W => by
      have := Tryz.strings_TrimSuffix ⟨#[d, 93]⟩ ⟨#[93]⟩ W (show (2 : Nat) ≤ 9223372036854775807 by decide); rw [show Lib.trimSuffix (⟨#[d, 93]⟩ : ByteArray).data.toList (⟨#[93]⟩ : ByteArray).data.toList = [d] from a2] at this; exact this
    have A0 : Hid (∀ W, Calls Tryz.prog 197 #[.string ⟨#[d]⟩] W fun e w' => e = .returned (.tuple #[.int .i64 (cutK s), .nilIface]) ∧ Below W.heap.size W w') := Lib.hid fun W => by
      refine (Tryz.strconv_Atoi_ok ⟨#[d]⟩ (show (1 : Nat) ≤ 9223372036854775806 by decide) (cutK s) (by rw [hk]; exact a1) W).mono ?_; rintro e w' ⟨rfl, hw⟩; refine ⟨rfl, ?_⟩; rcases hw with rfl | ⟨t, rfl⟩
      · exact Below.refl _ _
      · exact Lib.bytesWorld_below _ _ _
    have Q := Lib.hid hq; obtain ⟨k, hkk⟩ : ∃ k, cutK s = k := ⟨_, rfl⟩; obtain ⟨a, haa⟩ : ∃ a, cutA s = a := ⟨_, rfl⟩; rw [hkk] at A0; rw [haa] at C; have HKK := Lib.hid hkk; have HAA := Lib.hid haa; clear C0 p1 p2 p3 p4 hk hn e hd a1 a2 hv ht hs hq hkk haa
    go_enter Tryz.func167, Tryz.ntmps167
    go_wp2_with (first
      | (go_at_call 174; ((with_reducible refine C.out.mono ?_); rintro e w1 ⟨rfl, hb⟩; have HB1 := Lib.hid hb; clear hb))
      | (go_at_call 198; ((with_reducible refine (T0.out _).mono ?_); rintro e w1 ⟨rfl, rfl⟩))
      | (go_at_call 197; ((with_reducible refine (A0.out _).mono ?_); rintro e w2 ⟨rfl, hb⟩; have HB2 := Lib.hid (HB1.out.then_ hb); clear hb)))
    refine bodyPost_ret (v := .tuple #[.string a, .int .i64 k, .bool true]) (by simp [results, Tryz.results167, go_sem]) rfl ?_; exact ⟨_, _, by rw [Q.out], fun _ => ⟨HAA.out.symm, HKK.out.symm⟩, HB2.out⟩
end Go.Proofs.YtpejflgdehioaaaGreatDoor.ItW
