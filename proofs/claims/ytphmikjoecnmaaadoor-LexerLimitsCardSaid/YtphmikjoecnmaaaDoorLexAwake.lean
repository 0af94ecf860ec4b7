/-
  The laws' awake returns true.
-/
import Derived.Test.YtphmikjoecnmaaaDoorLexJoin
namespace Go.Proofs.YtphmikjoecnmaaaDoor.LexW
open Go Go.RowKit Go.Proofs.YtphmikjoecnmaaaDoor.NumM Go.Proofs.YtphmikjoecnmaaaDoor.LexM

def L3 : List Tk := [⟨1, 0, [120, 49], 1⟩, ⟨4, 0, [60, 61], 1⟩, ⟨3, 20, [50, 48], 1⟩]
theorem aw_tok1 : tokS [120, 49, 60, 61, 50, 48, 47, 47, 121] = (L3, 0, 0) := by kernel_rfl
theorem aw_tok2 : tokS [97, 10, 32, 48, 48, 55] = ([], 2, 5) := by kernel_rfl
theorem aw_join : joinS L3 = ([120, 49, 32, 60, 61, 32, 50, 48], 0) := by kernel_rfl
theorem aw_n1 : nameS [120, 49] = true := by kernel_rfl
theorem aw_n2 : nameS [99, 108, 97, 115, 115] = false := by kernel_rfl
theorem aw_k : isKw [99, 108, 97, 115, 115] = true := by kernel_rfl
theorem aw_m : isMk [35, 35] = true := by kernel_rfl
theorem own_cell {w : World} {B g cap n : Nat} {xs : List Value} (h : w.ownsRow B 30 4 (.slice (some ⟨g, 0, none⟩) n cap) n xs) {j : Nat} {u : Value} (hj : xs[j]? = some u) : w.cell? ⟨g, j, none⟩ = some u := by
  obtain ⟨hlen, ⟨hv, hn⟩ | ⟨g', cap', cur, hv, _, hg, hle, _, _, htake⟩⟩ := h
  · cases hv
  · cases hv
    have hjl : j < n * 4 := by rw [← hlen]; exact (List.getElem?_eq_some_iff.1 hj).1
    rw [cell_of_row w g j cur 30 (0, 0) hg]
    rw [← htake, List.getElem?_take, if_pos hjl] at hj
    simpa using hj
theorem own_slice {w : World} {B n : Nat} {v : Value} {xs : List Value} (h : w.ownsRow B 30 4 v n xs) (hn : 0 < n) : ∃ g cap, v = .slice (some ⟨g, 0, none⟩) n cap ∧ n ≤ cap := by
  obtain ⟨_, ⟨_, h0⟩ | ⟨g, cap, _, hv, _, _, hle, _⟩⟩ := h
  · omega
  · exact ⟨g, cap, hv, hle⟩
set_option maxRecDepth 100000 in
set_option maxHeartbeats 4000000 in
theorem awake_any (w : World) (ht : Tab w) : Calls Tryd.prog 9 #[] w fun e w' => e = .returned (.bool true) ∧ Below w.heap.size w w' := by
  have T1 : Hid (Calls Tryd.prog 10 #[.string ⟨#[120, 49, 60, 61, 50, 48, 47, 47, 121]⟩] w fun e w' => ∃ g cap, e = .returned (.tuple #[.slice (some ⟨g, 0, none⟩) 3 cap, .int .i64 0, .int .i64 0]) ∧ 3 ≤ cap ∧ w'.ownsRow w.heap.size 30 4 (.slice (some ⟨g, 0, none⟩) 3 cap) 3 (tkCells L3) ∧ Below w.heap.size w w') :=
    Lib.hid ((tokens_any ⟨#[120, 49, 60, 61, 50, 48, 47, 47, 121]⟩ w ht).mono fun e w' hh => by
      rw [show tokS (⟨#[120, 49, 60, 61, 50, 48, 47, 47, 121]⟩ : ByteArray).data.toList = (L3, 0, 0) from aw_tok1] at hh
      obtain ⟨v, he, ho, hb⟩ := hh
      obtain ⟨g, cap, rfl, hc⟩ := own_slice ho (by decide)
      exact ⟨g, cap, he, hc, ho, hb⟩)
  have T2 : Hid (∀ W, Below w.heap.size w W → Calls Tryd.prog 10 #[.string ⟨#[97, 10, 32, 48, 48, 55]⟩] W fun e w' => ∃ v, e = .returned (.tuple #[v, .int .i64 2, .int .i64 5]) ∧ Below W.heap.size W w') :=
    Lib.hid fun W hb => (tokens_any ⟨#[97, 10, 32, 48, 48, 55]⟩ W (ht.later hb)).mono fun e w' hh => by
      rw [show tokS (⟨#[97, 10, 32, 48, 48, 55]⟩ : ByteArray).data.toList = ([], 2, 5) from aw_tok2] at hh
      obtain ⟨v, he, _, hb⟩ := hh
      exact ⟨v, he, hb⟩
  have J : Hid (∀ W v, Below w.heap.size w W → ToksAt W v L3 → Calls Tryd.prog 19 #[v] W fun e w' => e = .returned (.tuple #[.string ⟨#[120, 49, 32, 60, 61, 32, 50, 48]⟩, .int .i64 0]) ∧ Below W.heap.size W w') :=
    Lib.hid fun W v hb hv => (join_any L3 v W hv (by decide) (by decide) (ht.later hb)).mono fun e w' hh => by
      rw [aw_join] at hh
      exact hh
  have N1 : Hid (∀ W, Below w.heap.size w W → Calls Tryd.prog 13 #[.string ⟨#[120, 49]⟩] W fun e w' => e = .returned (.bool true) ∧ Below W.heap.size W w') := Lib.hid fun W hb => by
    have q := isName_any ⟨#[120, 49]⟩ W (by decide) (ht.later hb)
    rw [show nameS (⟨#[120, 49]⟩ : ByteArray).data.toList = true from aw_n1] at q
    exact q
  have N2 : Hid (∀ W, Below w.heap.size w W → Calls Tryd.prog 13 #[.string ⟨#[99, 108, 97, 115, 115]⟩] W fun e w' => e = .returned (.bool false) ∧ Below W.heap.size W w') := Lib.hid fun W hb => by
    have q := isName_any ⟨#[99, 108, 97, 115, 115]⟩ W (by decide) (ht.later hb)
    rw [show nameS (⟨#[99, 108, 97, 115, 115]⟩ : ByteArray).data.toList = false from aw_n2] at q
    exact q
  have K1 : Hid (∀ W, Calls Tryd.prog 15 #[.string ⟨#[99, 108, 97, 115, 115]⟩] W fun e w' => e = .returned (.bool true) ∧ W = w') := Lib.hid fun W => by
    have q := isKeyword_any ⟨#[99, 108, 97, 115, 115]⟩ W
    rw [show isKw (⟨#[99, 108, 97, 115, 115]⟩ : ByteArray).data.toList = true from aw_k] at q
    exact q
  have M1 : Hid (∀ W, Calls Tryd.prog 17 #[.string ⟨#[35, 35]⟩] W fun e w' => e = .returned (.bool true) ∧ W = w') := Lib.hid fun W => by
    have q := isMark_any ⟨#[35, 35]⟩ W
    rw [show isMk (⟨#[35, 35]⟩ : ByteArray).data.toList = true from aw_m] at q
    exact q
  clear ht
  go_enter Tryd.func9, Tryd.ntmps9
  go_wp2_with (first
    | (go_at_call 10; ((with_reducible refine T1.out.mono ?_); rintro e w1 ⟨g, cap, rfl, hcap, ho, hb⟩; have O1 := Lib.hid ho; have B1 := Lib.hid hb; clear ho hb))
    | (go_at_call 10; ((with_reducible refine (T2.out _ B1.out).mono ?_); rintro e w2 ⟨v2, rfl, hb⟩; have O2 := Lib.hid (ownsRow_later O1.out hb); have B2 := Lib.hid (Below.then_ B1.out hb); clear hb))
    | (go_at_call 19; ((with_reducible refine (J.out _ _ B2.out (ToksAt.ofOwn O2.out)).mono ?_); rintro e w3 ⟨rfl, hb⟩; have O3 := Lib.hid (ownsRow_later O2.out hb); have B3 := Lib.hid (Below.then_ B2.out hb); clear hb; have c4 : w3.cell? ⟨g, 4, none⟩ = some (.int .i64 4) := own_cell O3.out rfl; have c5 : w3.cell? ⟨g, 5, none⟩ = some (.int .i64 0) := own_cell O3.out rfl; have c6 : w3.cell? ⟨g, 6, none⟩ = some (.string ⟨#[60, 61]⟩) := own_cell O3.out rfl; have c7 : w3.cell? ⟨g, 7, none⟩ = some (.int .i64 1) := own_cell O3.out rfl; have c9 : w3.cell? ⟨g, 9, none⟩ = some (.int .i64 20) := own_cell O3.out rfl))
    | (go_at_call 13; ((with_reducible refine (N1.out _ B3.out).mono ?_); rintro e w4 ⟨rfl, hb⟩; have B4 := Lib.hid (Below.then_ B3.out hb); clear hb))
    | (go_at_call 13; ((with_reducible refine (N2.out _ B4.out).mono ?_); rintro e w5 ⟨rfl, hb⟩; have B5 := Lib.hid (Below.then_ B4.out hb); clear hb))
    | (go_at_call 15; ((with_reducible refine (K1.out _).mono ?_); rintro e w' ⟨rfl, rfl⟩))
    | (go_at_call 17; ((with_reducible refine (M1.out _).mono ?_); rintro e w' ⟨rfl, rfl⟩)))
  go_ret
  exact ⟨rfl, B5.out⟩
end Go.Proofs.YtphmikjoecnmaaaDoor.LexW
