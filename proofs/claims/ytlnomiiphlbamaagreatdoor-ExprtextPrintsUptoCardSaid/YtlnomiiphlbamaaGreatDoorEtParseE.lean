/-
  The parser's methods together, for every amount of fuel; choice with its result.
  Plain facts for Parse and Take: how large a parsed expression is, the tokens of a source, what is returned.
  parserAt, lineAt, checked.
  The deferred closures of Parse and Take: recover's two faces.
  Parse.
  Parse, where the source is an expression.
-/
import Derived.Test.YtlnomiiphlbamaaGreatDoorEtRec8
import Derived.Test.YtlnomiiphlbamaaGreatDoorEtRec2
import Derived.Test.YtlnomiiphlbamaaGreatDoorEtParse
import Derived.Test.YtlnomiiphlbamaaGreatDoorLexMath2
import Derived.Test.YtlnomiiphlbamaaGreatDoorExMath
import Derived.Test.YtlnomiiphlbamaaGreatDoorLexPos
import Derived.Test.YtlnomiiphlbamaaGreatDoorExValid
import Derived.Recover
import Derived.Deep.RegionHeld3
import Derived.Defers
import Derived.Test.YtlnomiiphlbamaaGreatDoorLexTok
import Derived.BigQuiet
namespace Go.Proofs.YtlnomiiphlbamaaGreatDoor.EtW
open Go Go.RowKit Go.Proofs.YtlnomiiphlbamaaGreatDoor.NumM Go.Proofs.YtlnomiiphlbamaaGreatDoor.LexW Go.Proofs.YtlnomiiphlbamaaGreatDoor.LexM Go.Proofs.YtlnomiiphlbamaaGreatDoor.ExM Go.Proofs.YtlnomiiphlbamaaGreatDoor.ExW Go.Proofs.YtlnomiiphlbamaaGreatDoor.EtM

structure AllC (L : List Tk) (sl : Value) (w0 : World) (f : Nat) : Prop where
  ch : Ct L sl w0 f .ch 24 #[pp w0]
  op : ∀ lv : Int, Ct L sl w0 f (.op lv) 47 #[pp w0, .int .i64 lv]
  jn : CtJ L sl w0 f
  rg : CtR L sl w0 f
  pf : Ct L sl w0 f .pf 87 #[pp w0]
  pr : Ct L sl w0 f .pr 115 #[pp w0]
  nm : ∀ s : List UInt8, s.length ≤ 16384 → Ct L sl w0 f (.nm s) 127 #[pp w0, .string (bs s)]
theorem allC {L : List Tk} {sl : Value} {w0 : World} (hc : Cx L sl w0) : ∀ f : Nat, ∀ g, g ≤ f → AllC L sl w0 g := by
  have zero : AllC L sl w0 0 := ⟨fun _ _ _ hne => absurd rfl hne, fun _ _ _ _ hne => absurd rfl hne, fun _ _ _ _ _ _ _ _ _ _ _ _ _ _ _ _ _ _ _ hne => absurd rfl hne, fun _ _ _ _ _ _ _ _ _ _ _ _ _ hne => absurd rfl hne, fun _ _ _ hne => absurd rfl hne, fun _ _ _ hne => absurd rfl hne, fun _ _ _ _ _ hne => absurd rfl hne⟩
  intro f
  induction f with
  | zero =>
    intro g hg
    obtain rfl : g = 0 := by omega
    exact zero
  | succ f ih =>
    intro g hg
    rcases Nat.lt_or_ge g (f + 1) with q | q
    · exact ih g (by omega)
    obtain rfl : g = f + 1 := by omega
    have a := ih f (Nat.le_refl _)
    exact ⟨choice_any hc f (a.op 2) a.ch, operation_any hc f a.pf (fun k hk => (ih k hk).jn) (fun k hk => (ih k hk).rg), joined_any f a.op, ranged_any hc f (fun k hk => (ih k hk).ch), prefixed_any hc f a.pf a.pr, primary_any hc f a.ch a.nm, named_any hc f a.ch⟩
theorem choice_res {L : List Tk} {sl : Value} {w0 : World} (hc : Cx L sl w0) {r : List Tk} {w : World} (h : In L sl w0 r w) :
    Calls Tryz.prog 24 #[pp w0] w (tRs L sl w0 (res .ch r) w) :=
  (allC hc (fuelJ r.length .ch) _ (Nat.le_refl _)).ch r w h (res_ne .ch r)
end Go.Proofs.YtlnomiiphlbamaaGreatDoor.EtW
namespace Go.Proofs.YtlnomiiphlbamaaGreatDoor.EtM
open Go Go.Proofs.YtlnomiiphlbamaaGreatDoor.NumM Go.Proofs.YtlnomiiphlbamaaGreatDoor.LexM Go.Proofs.YtlnomiiphlbamaaGreatDoor.ExM Go.Proofs.YtlnomiiphlbamaaGreatDoor.LexW

/-- What a job may add to the tokens that it takes. -/
def cst : Jb → Nat
  | .lp _ _ e => sz e | .jn _ _ _ e => sz e + 1 | .rg e => sz e + 1 | .rl acc => szs acc + 1 | .nm _ => 1 | _ => 0
theorem sz_nod (o : Int) (ks : List Ex) : sz (nod o ks) = szs ks + 1 := by unfold nod; rw [sz_mk]
theorem run_sz : ∀ (f : Nat) (j : Jb) (l : List Tk) (e : Ex) (r : List Tk), run f j l = .ok e r → sz e + r.length ≤ l.length + cst j := by
  intro f
  induction f with
  | zero => intro j l e r h; cases h
  | succ f ih =>
    intro j l e r h
    cases j with
    | ch =>
      rw [run] at h
      obtain ⟨c, r1, h1, h⟩ := bind_ok h
      have k1 := ih _ _ _ _ h1
      split at h
      · rename_i q
        have := tx_pos q (by decide)
        obtain ⟨a, r2, h2, h⟩ := bind_ok h
        obtain ⟨q2, h⟩ := need_ok h
        have := tx_pos q2 (by decide)
        obtain ⟨b, r3, h3, h⟩ := bind_ok h
        have k2 := ih _ _ _ _ h2
        have k3 := ih _ _ _ _ h3
        cases h
        rw [sz_nod, szs_cons, szs_cons, szs_cons, szs_nil]
        simp only [cst, tl_len] at *; omega
      · cases h
        simp only [cst] at *; omega
    | op lv =>
      rw [run] at h
      obtain ⟨c, r1, h1, h⟩ := bind_ok h
      have k1 := ih _ _ _ _ h1
      have k2 := ih _ _ _ _ h
      simp only [cst] at *; omega
    | lp lv rc e0 =>
      rw [run] at h
      split at h
      · rename_i q
        have := bT_pos q.1
        obtain ⟨c, r1, h1, h⟩ := bind_ok h
        have k1 := ih _ _ _ _ h1
        have k2 := ih _ _ _ _ h
        simp only [cst, tl_len] at *; omega
      · split at h
        · rename_i q
          have := tx_pos q.2 (by decide)
          obtain ⟨c, r1, h1, h⟩ := bind_ok h
          have k1 := ih _ _ _ _ h1
          have k2 := ih _ _ _ _ h
          simp only [cst, tl_len] at *; omega
        · cases h
          simp only [cst] at *; omega
    | jn k o sw e0 =>
      rw [run] at h
      obtain ⟨c, r1, h1, h⟩ := bind_ok h
      have k1 := ih _ _ _ _ h1
      cases h
      rw [sz_nod]
      cases sw
      · rw [if_neg (by decide), szs_cons, szs_cons, szs_nil]
        simp only [cst] at *; omega
      · rw [if_pos rfl, szs_cons, szs_cons, szs_nil]
        simp only [cst] at *; omega
    | rg e0 =>
      rw [run] at h
      obtain ⟨q, h⟩ := need_ok h
      have k1 := ih _ _ _ _ h
      have := tx_pos q (by decide)
      simp only [cst, tl_len, szs_cons, szs_nil] at *; omega
    | rl acc =>
      rw [run] at h
      obtain ⟨a, r1, h1, h⟩ := bind_ok h
      obtain ⟨q1, h⟩ := need_ok h
      have := tx_pos q1 (by decide)
      obtain ⟨b, r2, h2, h⟩ := bind_ok h
      have k1 := ih _ _ _ _ h1
      have k2 := ih _ _ _ _ h2
      split at h
      · rename_i q
        have := tx_pos q (by decide)
        have k3 := ih _ _ _ _ h
        simp only [cst, tl_len, szs_append, szs_cons, szs_nil] at *; omega
      · obtain ⟨q3, h⟩ := need_ok h
        have := tx_pos q3 (by decide)
        cases h
        rw [sz_nod, szs_append, szs_cons, szs_cons, szs_nil]
        simp only [cst, tl_len] at *; omega
    | pf =>
      rw [run] at h
      split at h
      · rename_i q
        obtain ⟨c, r1, h1, h⟩ := bind_ok h
        have k1 := ih _ _ _ _ h1
        have := pT_pos q
        cases h
        rw [sz_nod, szs_cons, szs_nil]
        simp only [cst, tl_len] at *; omega
      · have k1 := ih _ _ _ _ h
        simp only [cst] at *; omega
    | pr =>
      rw [run] at h
      split at h
      · obtain ⟨q, _, h⟩ := numR_ok h
        have := kd_pos q (by decide)
        cases h
        rw [sz_mk, szs_nil]
        simp only [cst, tl_len] at *; omega
      · split at h
        · rename_i q
          have := kd_pos q (by decide)
          have k1 := ih _ _ _ _ h
          simp only [cst, tl_len] at *; omega
        · obtain ⟨q, h⟩ := need_ok h
          obtain ⟨c, r1, h1, h⟩ := bind_ok h
          obtain ⟨_, h⟩ := need_ok h
          have := tx_pos q (by decide)
          have k1 := ih _ _ _ _ h1
          cases h
          simp only [cst, tl_len] at *; omega
    | nm s =>
      rw [run] at h
      split at h
      · obtain ⟨_, h⟩ := nameR_ok h
        obtain ⟨_, h⟩ := need_ok h
        cases h
        rw [sz_mk, szs_nil]
        simp only [cst, tl_len] at *; omega
      · split at h
        · rename_i q
          have := tx_pos q.2 (by decide)
          obtain ⟨c, r1, h1, h⟩ := bind_ok h
          obtain ⟨_, h⟩ := need_ok h
          have k1 := ih _ _ _ _ h1
          cases h
          rw [sz_nod, szs_cons, szs_nil]
          simp only [cst, tl_len] at *; omega
        · split at h
          · rename_i q
            have := tx_pos q (by decide)
            obtain ⟨c, r1, h1, h⟩ := bind_ok h
            obtain ⟨_, h⟩ := need_ok h
            have k1 := ih _ _ _ _ h1
            cases h
            rw [sz_mk, szs_cons, szs_nil]
            simp only [cst, tl_len] at *; omega
          · split at h
            · obtain ⟨_, _, h⟩ := numR_ok h
              cases h
              rw [sz_mk, szs_nil]
              simp only [cst, tl_len] at *; omega
            · cases h
              rw [sz_mk, szs_nil]
              simp only [cst] at *; omega
theorem res_sz {l : List Tk} {e : Ex} {r : List Tk} (h : res .ch l = .ok e r) : sz e ≤ l.length ∧ r.length ≤ l.length := by
  have h1 := run_sz _ _ _ _ _ h
  have h2 := run_len _ _ _ _ _ h
  simp only [cst, tk1] at h1 h2
  omega
theorem first_self {l : List UInt8} (h : (firstS l).2 = 0) : validS (firstS l).1 = true := by
  rw [valid_iff]
  cases hw : wordS l with
  | nil =>
    rw [first_mark hw] at h ⊢
    unfold markT at h ⊢
    split
    · rename_i q; exact mk_first q
    · rename_i q
      rw [if_neg q] at h
      split
      · rename_i q2; exact mk_first q2
      · rename_i q2
        rw [if_neg q2] at h
        exact absurd h (by decide)
  | cons c r =>
    have hall : (c :: r).all wrd = true := List.all_eq_true.2 fun d hd => word_all l d (by rw [hw]; exact hd)
    have hF := first_word (wordS_all hall)
    rw [first_word hw] at h ⊢
    generalize hG : (if sml c then nameT (c :: r) else if dgt c then numT (c :: r) else (zTk, 5)) = G at h hF ⊢
    have key : G.1.text = c :: r ∧ G.1.line = 0 := by
      subst hG
      split at h
      · rename_i q
        rw [if_pos q]
        unfold nameT at h ⊢
        split at h
        · exact absurd h (by decide)
        · rename_i q2; rw [if_neg q2]; exact ⟨rfl, rfl⟩
      · rename_i q
        rw [if_neg q]
        split at h
        · rename_i q2
          rw [if_pos q2]
          unfold numT at h ⊢
          split at h
          · rename_i q3
            rw [if_pos q3]
            split at h
            · exact absurd h (by decide)
            · rename_i q4; rw [if_neg q4]; exact ⟨rfl, rfl⟩
          · rename_i q3; exact absurd h q3
        · exact absurd h (by decide)
    obtain ⟨⟨k, n, t, ln⟩, e⟩ := G
    obtain ⟨rfl, rfl⟩ := key
    dsimp only at h
    subst h
    exact hF
/-- The tokens of a source are valid, and no longer than it. -/
theorem lex_good (l : List UInt8) : ∀ ln acc, ∀ u ∈ (lex l ln acc).1, u ∈ acc ∨ (validS u = true ∧ u.text.length ≤ l.length) := by
  refine lex_ind (P := fun l => ∀ ln acc, ∀ u ∈ (lex l ln acc).1, u ∈ acc ∨ (validS u = true ∧ u.text.length ≤ l.length)) ?_ ?_ ?_ ?_ ?_ l
  · intro ln acc u hu; rw [lex_nil] at hu; exact .inl hu
  · intro c r b ih ln acc u hu
    rw [List.length_cons]
    rcases b with b | b
    · rw [lex_nl _ _ _ b] at hu
      rcases ih (ln + 1) acc u hu with h | h
      · exact .inl h
      · exact .inr ⟨h.1, by omega⟩
    · rw [lex_blank _ _ _ b] at hu
      rcases ih ln acc u hu with h | h
      · exact .inl h
      · exact .inr ⟨h.1, by omega⟩
  · intro c r hc ih ln acc u hu
    rw [lex_cmt _ _ _ hc] at hu
    have h2 := skipC_le (c :: r)
    rcases ih ln acc u hu with h | h
    · exact .inl h
    · exact .inr ⟨h.1, by omega⟩
  · intro c r a b d e ih ln acc u hu
    rw [lex_tok _ _ _ a b d e] at hu
    rcases ih ln _ u hu with h | h
    · rcases List.mem_append.1 h with h | h
      · exact .inl h
      · have hu2 : u = (firstS (c :: r)).1.at ln := by simpa using h
        have hg := first_good e
        refine .inr ?_
        rw [hu2, valid_at]
        have hq := good_len hg
        exact ⟨first_self e, hq⟩
    · rw [List.length_drop] at h
      exact .inr ⟨h.1, by omega⟩
  · intro c r a b d e ln acc u hu; rw [lex_err _ _ _ a b d e] at hu; cases hu
theorem tokS_good (s : List UInt8) : (tokS s).1.length ≤ 16384 ∧ ∀ u ∈ (tokS s).1, validS u = true ∧ u.text.length ≤ 16384 := by
  unfold tokS
  split
  · exact ⟨by simp, fun u hu => by simp at hu⟩
  · rename_i h
    have h1 := lex_len s 1 []
    refine ⟨by simp only [List.length_nil] at h1; omega, fun u hu => ?_⟩
    rcases lex_good s 1 [] u hu with q | q
    · simp at q
    · exact ⟨q.1, by omega⟩
theorem tokS_err (s : List UInt8) : (tokS s).2.2 ≠ 0 → (tokS s).1 = [] := by
  unfold tokS
  split
  · intro _; rfl
  · exact fun h => ((lex_out s 1 []).2 h).1
theorem tokS_ok (s : List UInt8) (h : (tokS s).2.2 = 0) : s.length ≤ 16384 ∧ tokS s = lex s 1 [] ∧ (tokS s).2.1 = 0 := by
  unfold tokS at h ⊢
  split
  · rename_i g; rw [if_pos g] at h; exact absurd h (by decide)
  · rename_i g; rw [if_neg g] at h; exact ⟨by omega, rfl, (lex_out s 1 []).1 h⟩
def zEx : Ex := .mk 0 0 ⟨#[]⟩ []
/-- The line of the token with the index; behind the last one that of the last one, 1 if there are none. -/
def lineOf (l : List Tk) (i : Nat) : Int := if l.length = 0 then 1 else (hdT (l.drop (min i (l.length - 1)))).line
def fin (l : List Tk) : Rs → Ex × Int × Int
  | .ok e r => if r.length ≠ 0 then (zEx, lineOf l (l.length - r.length), 5) else if vld e ≠ 0 then (zEx, 0, vld e) else (e, 0, 0)
  | .bad er k => (zEx, lineOf l (l.length - k), er)
  | .out => (zEx, 0, 0)
/-- What Parse returns. -/
def parS (s : List UInt8) : Ex × Int × Int := if (tokS s).2.2 ≠ 0 then (zEx, (tokS s).2.1, (tokS s).2.2) else fin (tokS s).1 (res .ch (tokS s).1)
/-- What Take returns, from the first token on. -/
def takS (l : List Tk) : Ex × Int × Int :=
  match res .ch l with
  | .ok e r => if vld e ≠ 0 then (zEx, 0, vld e) else (e, ((l.length - r.length : Nat) : Int), 0)
  | .bad er k => (zEx, ((l.length - k : Nat) : Int), er)
  | .out => (zEx, 0, 0)
end Go.Proofs.YtlnomiiphlbamaaGreatDoor.EtM
namespace Go.Proofs.YtlnomiiphlbamaaGreatDoor.EtW
open Go Go.RowKit Go.Proofs.YtlnomiiphlbamaaGreatDoor.NumM Go.Proofs.YtlnomiiphlbamaaGreatDoor.LexW Go.Proofs.YtlnomiiphlbamaaGreatDoor.LexM Go.Proofs.YtlnomiiphlbamaaGreatDoor.ExM Go.Proofs.YtlnomiiphlbamaaGreatDoor.ExW Go.Proofs.YtlnomiiphlbamaaGreatDoor.EtM

theorem move_first {L : List Tk} {sl : Value} {w0 : World} (hc : Cx L sl w0) :
    Calls Tryz.prog 46 #[.pointer (some ⟨w0.heap.size, 0, none⟩), .int .i64 0] (w0.alloc (.cells #[sl, .int .i64 0, .int .i64 0, .int .i64 0, .string ⟨#[]⟩, .int .i64 0] 56)) fun e w' => e = .returned (.tuple #[]) ∧ In L sl w0 L w' := by
  have hb0 : Below w0.heap.size w0 (w0.alloc (.cells #[sl, .int .i64 0, .int .i64 0, .int .i64 0, .string ⟨#[]⟩, .int .i64 0] 56)) := (Below.refl _ _).alloc (Nat.le_refl _) _
  have hS := Six.new w0 sl (.int .i64 0) (.int .i64 0) (.int .i64 0) (.string ⟨#[]⟩) (.int .i64 0)
  obtain ⟨p, cap, hsl, hcap, hx⟩ := hc.tok
  have hl := hc.len
  subst hsl
  have hp : pos L L = 0 := Nat.sub_self _
  have hend : ∀ w', Tn w0 (w0.alloc (.cells #[.slice p L.length cap, .int .i64 0, .int .i64 0, .int .i64 0, .string ⟨#[]⟩, .int .i64 0] 56)) w' → Blk w' w0.heap.size (.slice p L.length cap) 0 (hdT L) → In L (.slice p L.length cap) w0 L w' := fun w' hg hb =>
    ⟨hb0.trans (below_tn hg (by simp)), by rw [hp]; exact hb, by rw [hp]; exact ⟨rfl, Nat.le_refl _⟩⟩
  by_cases g : L.length = 0
  · have e2 : L = [] := List.length_eq_zero_iff.1 g
    have M := move_end w0.heap.size L.length cap p _ _ _ _ _ _ hS hl
    rw [g] at M
    rw [g] at hend ⊢
    refine M.mono fun e w' hm => ⟨hm.1, hend w' hm.2.1 ?_⟩
    rw [e2]
    exact hm.2.2
  · obtain ⟨b, off, rfl, hb, hcell⟩ := hx (by omega)
    have hd : L[0]? = some (hdT L) := by
      cases L with
      | nil => exact absurd rfl g
      | cons t r => rfl
    obtain ⟨q0, q1, q2, q3⟩ := hcell _ _ hd
    have M := move_in w0.heap.size b off 0 L.length cap (hdT L) _ _ _ _ _ _ hS (by omega) hcap hl hb
      ((hb0.cell (p := ⟨b, off + 0 * 4, none⟩) hb).trans q0) ((hb0.cell (p := ⟨b, off + 0 * 4 + 1, none⟩) hb).trans q1) ((hb0.cell (p := ⟨b, off + 0 * 4 + 2, none⟩) hb).trans q2) ((hb0.cell (p := ⟨b, off + 0 * 4 + 3, none⟩) hb).trans q3)
      (fun W hW => isValid_any _ W (hc.tab.base.later (hb0.trans hW)) (hc.val _ (List.mem_of_getElem? hd)) (hc.tlen _ (List.mem_of_getElem? hd)))
    exact M.mono fun e w' hm => ⟨hm.1, hend w' hm.2.1 hm.2.2⟩
set_option maxRecDepth 100000 in
set_option maxHeartbeats 2000000 in
theorem parserAt_any {L : List Tk} {sl : Value} {w0 : World} (hc : Cx L sl w0) :
    Calls Tryz.prog 23 #[sl, .int .i64 0] w0 fun e w' => e = .returned (pp w0) ∧ In L sl w0 L w' := by
  have M := Lib.hid (move_first hc)
  obtain ⟨p, cap, hsl, hcap, _⟩ := hc.tok
  subst hsl
  clear hcap hc
  generalize L.length = n at *
  go_enter Tryz.func23, Tryz.ntmps23
  go_wp2_with (go_at_call 46; ((with_reducible refine M.out.mono ?_); rintro e w2 ⟨rfl, hI⟩; have HI := Lib.hid hI; clear hI))
  go_ret
  exact ⟨rfl, HI.out⟩
set_option maxRecDepth 100000 in
set_option maxHeartbeats 4000000 in
theorem lineAt_any {L : List Tk} {sl : Value} {w : World} (ht : ToksAt w sl L) (hl : L.length ≤ 16384) (i : Nat) (hi : i ≤ 16384) :
    Calls Tryz.prog 22 #[sl, .int .i64 i] w fun e w' => e = .returned (.int .i64 (lineOf L i)) ∧ w = w' := by
  obtain ⟨p, cap, rfl, hcap, hx⟩ := ht
  by_cases g : L.length = 0
  · have hz : lineOf L i = 1 := by unfold lineOf; rw [if_pos g]
    rw [hz, g]
    clear hx hcap
    go_enter Tryz.func22, Tryz.ntmps22
    go_wp2
    go_ret
    exact ⟨rfl, rfl⟩
  · obtain ⟨N, hN⟩ : ∃ N, L.length = N := ⟨_, rfl⟩
    obtain ⟨m, hm⟩ : ∃ m, min i (N - 1) = m := ⟨_, rfl⟩
    have hmn : m < N := by omega
    obtain ⟨b, off, rfl, hb, hcell⟩ := hx (by omega)
    have hz : lineOf L i = (hdT (L.drop m)).line := by unfold lineOf; rw [if_neg g, hN, hm]
    have hd : L[m]? = some (hdT (L.drop m)) := by
      rw [hdT, List.headD_eq_head?_getD, List.head?_drop]
      obtain ⟨t, ht⟩ : ∃ t, L[m]? = some t := ⟨_, List.getElem?_eq_getElem (by omega)⟩
      rw [ht]; rfl
    obtain ⟨_, _, _, q3⟩ := hcell _ _ hd
    rw [hz, hN]
    rw [hN] at hcap hl g
    clear hcell hx hd hz
    generalize (hdT (L.drop m)).line = ln at *
    have hmin : ∀ (x y : Int), x = (i : Int) → y = (N : Int) - 1 → min x y = (m : Int) := fun x y hx hy => by subst hx hy; omega
    have HM := Lib.hid hmin
    by_cases hle : i ≤ N - 1
    · obtain rfl : m = i := by omega
      go_enter Tryz.func22, Tryz.ntmps22
      go_wp2
      go_ret
      exact ⟨rfl, rfl⟩
    · obtain rfl : m = N - 1 := by omega
      go_enter Tryz.func22, Tryz.ntmps22
      go_wp2
      go_ret
      exact ⟨rfl, rfl⟩
/-- What checked returns: e and the number, or the error alone. -/
def tChk (S : Nat → Prop) (x : Ex) (m : Int) (w : World) (e : Ending) (w' : World) : Prop :=
  ∃ o n s p k c, e = .returned (.tuple #[xv o n s (.slice p k c), .int .i64 (if vld x ≠ 0 then 0 else m), .int .i64 (vld x)]) ∧ Below w.heap.size w w' ∧ ExS S w' (xv o n s (.slice p k c)) (if vld x ≠ 0 then zEx else x)
set_option maxRecDepth 100000 in
set_option maxHeartbeats 4000000 in
theorem checked_any {S : Nat → Prop} {x : Ex} {o n : Int} {s : ByteArray} {p : Option Addr} {k c : Nat} {w : World} (m : Int) (hx : ExS S w (xv o n s (.slice p k c)) x) (hS : ∀ b, S b → b < w.heap.size) (hsz : sz x ≤ 2000000) (ht : Tab w) :
    Calls Tryz.prog 26 #[xv o n s (.slice p k c), .int .i64 m] w (tChk S x m w) := by
  have W2 : Below w.heap.size w ((w.alloc (.cells #[.int .i64 o, .int .i64 n, .string s, .slice p k c] 24)).alloc (.cells #[.int .i64 0, .int .i64 0, .string ⟨#[]⟩, .slice none 0 0] 24)) := ((Below.refl _ _).alloc (Nat.le_refl _) _).alloc (by simp) _
  have VC := Lib.hid (valid_any x _ _ ((ExS.kept (S' := S) (fun _ q => q) (fun b i q v hv => (W2.cell (p := ⟨b, i, none⟩) (hS b q)).trans hv) hx).toAt (fun b q => Nat.lt_of_lt_of_le (hS b q) W2.size)) hsz (ht.later W2))
  have B0' := (Four.new w (.int .i64 o) (.int .i64 n) (.string s) (.slice p k c) 24).alloc (.cells #[.int .i64 0, .int .i64 0, .string ⟨#[]⟩, .slice none 0 0] 24)
  have R0' := Four.new (w.alloc (.cells #[.int .i64 o, .int .i64 n, .string s, .slice p k c] 24)) (.int .i64 0) (.int .i64 0) (.string ⟨#[]⟩) (.slice none 0 0) 24
  rw [World.size_alloc] at R0'
  have b0 := B0'.c0
  have b1 := B0'.c1
  have b2 := B0'.c2
  have b3 := B0'.c3
  have B0 := Lib.hid B0'
  have R0 := Lib.hid R0'
  have HW2 := Lib.hid W2
  have X0 := Lib.hid hx
  have HS := Lib.hid hS
  clear B0' R0' W2 hx hS ht hsz
  obtain ⟨v, hv⟩ : ∃ v, vld x = v := ⟨_, rfl⟩
  have HV := Lib.hid hv
  rw [hv] at VC
  clear hv
  unfold tChk
  rw [HV.out]
  by_cases hv0 : v = 0
  · subst hv0
    rw [if_neg (by decide), if_neg (by decide)]
    go_enter Tryz.func26, Tryz.ntmps26
    go_wp2_with (go_at_call 16; ((with_reducible refine VC.out.mono ?_); rintro e w3 ⟨rfl, hb⟩; have B3 := B0.out.stay hb; have R3' := R0.out.stay hb; clear b0 b1 b2 b3; have b0 := B3.c0; have b1 := B3.c1; have b2 := B3.c2; have b3 := B3.c3; have r0 := R3'.c0; have r1 := R3'.c1; have r2 := R3'.c2; have r3 := R3'.c3; have y0 := R3'.f0; have y1 := R3'.f1; have y2 := R3'.f2; have y3 := R3'.f3; have R3 := Lib.hid R3'; have HB3 := Lib.hid (HW2.out.then_ hb); clear hb B3 R3'))
    have hF := R3.out.put (.int .i64 o) (.int .i64 n) (.string s) (.slice p k c)
    have s0 := hF.c0
    have s1 := hF.c1
    have s2 := hF.c2
    have s3 := hF.c3
    clear hF
    refine bodyPost_ret (v := .tuple #[.agg #[.int .i64 o, .int .i64 n, .string s, .slice p k c], .int .i64 m, .int .i64 0]) (by simp [results, Tryz.results26, go_sem, s0, s1, s2, s3]) rfl ?_
    refine ⟨_, _, _, _, _, _, rfl, below_put HB3.out (by omega) _ _ _ _, ?_⟩
    exact ex_away4 ((X0.out).kept (fun _ q => q) (fun b i q v hv => (HB3.out.cell (p := ⟨b, i, none⟩) (HS.out b q)).trans hv)) (fun q => by have := HS.out _ q; omega) _ _ _ _
  · rw [if_pos hv0, if_pos hv0]
    go_enter Tryz.func26, Tryz.ntmps26
    go_wp2_with (go_at_call 16; ((with_reducible refine VC.out.mono ?_); rintro e w3 ⟨rfl, hb⟩; have B3 := B0.out.stay hb; have R3' := R0.out.stay hb; clear b0 b1 b2 b3; have b0 := B3.c0; have b1 := B3.c1; have b2 := B3.c2; have b3 := B3.c3; have r0 := R3'.c0; have r1 := R3'.c1; have r2 := R3'.c2; have r3 := R3'.c3; have y0 := R3'.f0; have y1 := R3'.f1; have y2 := R3'.f2; have y3 := R3'.f3; have R3 := Lib.hid R3'; have HB3 := Lib.hid (HW2.out.then_ hb); clear hb B3 R3'))
    have hF := R3.out.put (.int .i64 0) (.int .i64 0) (.string ⟨#[]⟩) (.slice none 0 0)
    have s0 := hF.c0
    have s1 := hF.c1
    have s2 := hF.c2
    have s3 := hF.c3
    clear hF
    refine bodyPost_ret (v := .tuple #[.agg #[.int .i64 0, .int .i64 0, .string ⟨#[]⟩, .slice none 0 0], .int .i64 0, .int .i64 v]) (by simp [results, Tryz.results26, go_sem, s0, s1, s2, s3]) rfl ?_
    refine ⟨_, _, _, _, _, _, rfl, below_put HB3.out (by omega) _ _ _ _, ?_⟩
    exact ExS.leaf (by decide)
end Go.Proofs.YtlnomiiphlbamaaGreatDoor.EtW
namespace Go.Proofs.YtlnomiiphlbamaaGreatDoor.EtW
open Go Go.RowKit Go.Proofs.YtlnomiiphlbamaaGreatDoor.NumM Go.Proofs.YtlnomiiphlbamaaGreatDoor.LexW Go.Proofs.YtlnomiiphlbamaaGreatDoor.LexM Go.Proofs.YtlnomiiphlbamaaGreatDoor.ExM Go.Proofs.YtlnomiiphlbamaaGreatDoor.ExW Go.Proofs.YtlnomiiphlbamaaGreatDoor.EtM

/-- A block of one cell. -/
def One (W : World) (g : Nat) (x : Value) : Prop := ∃ t, W.heap[g]? = some (.cells #[x] t)
theorem One.lt {W : World} {g : Nat} {x : Value} (h : One W g x) : g < W.heap.size := by obtain ⟨t, h⟩ := h; exact (Array.getElem?_eq_some_iff.1 h).1
theorem One.c0 {W : World} {g : Nat} {x : Value} (h : One W g x) : W.cell? ⟨g, 0, none⟩ = some x := by obtain ⟨t, h⟩ := h; exact cell_of_row W g 0 _ _ (0, 0) h
theorem One.f0 {W : World} {g : Nat} {x : Value} (h : One W g x) : W.frozen? ⟨g, 0, none⟩ = false := by obtain ⟨t, h⟩ := h; simp [World.frozen?, h]
theorem One.new (W : World) (x : Value) (t : TypeId) : One (W.alloc (.cells #[x] t)) W.heap.size x := ⟨t, heap_alloc_new _ _⟩
theorem One.later {W W' : World} {g : Nat} {x : Value} (h : One W g x) (hb : Below W.heap.size W W') : One W' g x := by
  have hl := h.lt
  obtain ⟨t, h⟩ := h
  exact ⟨t, (hb.block g hl).trans h⟩
theorem One.turn {w0 W W' : World} {g : Nat} {x : Value} (h : One W g x) (hg : Tn w0 W W') (hr : g ≠ w0.heap.size) : One W' g x := by
  have hl := h.lt
  obtain ⟨t, h⟩ := h
  exact ⟨t, (hg.block g hl (fun e => hr (Option.some.inj e))).trans h⟩
theorem One.set {W : World} {g : Nat} {x : Value} (h : One W g x) (y : Value) : One (W.setCell ⟨g, 0, none⟩ y) g y := by
  obtain ⟨t, h⟩ := h
  exact ⟨t, by rw [heap_setCell_same W g 0 _ _ y h]; rfl⟩
theorem One.far {W : World} {g b o : Nat} {x : Value} (h : One W g x) (hn : g ≠ b) (y : Value) : One (W.setCell ⟨b, o, none⟩ y) g x := by
  obtain ⟨t, h⟩ := h
  exact ⟨t, (heap_setCell_other W ⟨b, o, none⟩ g y (by simpa using hn)).trans h⟩
/-- The three boxes of a result with an expression, a number and an error, of a call whose memory begins at B. -/
structure O3 (B : Nat) (w W : World) (x0 x1 x2 x3 y z : Value) : Prop where
  b : Below B w W
  f : Four W B x0 x1 x2 x3
  l : One W (B + 1) y
  r : One W (B + 2) z
theorem O3.later {B : Nat} {w W W' : World} {x0 x1 x2 x3 y z : Value} (h : O3 B w W x0 x1 x2 x3 y z) (hb : Below W.heap.size W W') : O3 B w W' x0 x1 x2 x3 y z :=
  ⟨h.b.trans (hb.mono (Nat.le_of_lt h.f.lt)), h.f.stay hb, h.l.later hb, h.r.later hb⟩
theorem O3.putE {B : Nat} {w W : World} {x0 x1 x2 x3 y z : Value} (h : O3 B w W x0 x1 x2 x3 y z) (y0 y1 y2 y3 : Value) : O3 B w ((((W.setCell ⟨B, 0, none⟩ y0).setCell ⟨B, 1, none⟩ y1).setCell ⟨B, 2, none⟩ y2).setCell ⟨B, 3, none⟩ y3) y0 y1 y2 y3 y z :=
  ⟨(((h.b.setCell (Nat.le_refl _) _).setCell (Nat.le_refl _) _).setCell (Nat.le_refl _) _).setCell (Nat.le_refl _) _, h.f.put _ _ _ _, (((h.l.far (by omega) _).far (by omega) _).far (by omega) _).far (by omega) _, (((h.r.far (by omega) _).far (by omega) _).far (by omega) _).far (by omega) _⟩
theorem O3.putL {B : Nat} {w W : World} {x0 x1 x2 x3 y z : Value} (h : O3 B w W x0 x1 x2 x3 y z) (v : Value) : O3 B w (W.setCell ⟨B + 1, 0, none⟩ v) x0 x1 x2 x3 v z :=
  ⟨h.b.setCell (Nat.le_succ _) _, h.f.far (by omega), h.l.set _, h.r.far (by omega) _⟩
theorem O3.putR {B : Nat} {w W : World} {x0 x1 x2 x3 y z : Value} (h : O3 B w W x0 x1 x2 x3 y z) (v : Value) : O3 B w (W.setCell ⟨B + 2, 0, none⟩ v) x0 x1 x2 x3 y v :=
  ⟨h.b.setCell (by show B ≤ B + 2; omega) _, h.f.far (by omega), h.l.far (by omega) _, h.r.set _⟩
theorem O3.turn {B : Nat} {w w0 W W' : World} {x0 x1 x2 x3 y z : Value} (h : O3 B w W x0 x1 x2 x3 y z) (hg : Tn w0 W W') (hr : B + 2 < w0.heap.size) : O3 B w W' x0 x1 x2 x3 y z :=
  ⟨h.b.grown hg (by have := h.f.lt; omega) (fun k e => by have := Option.some.inj e; omega), four_grown h.f hg (fun e => by have := Option.some.inj e; omega), h.l.turn hg (by omega), h.r.turn hg (by omega)⟩
theorem as_nil (w : World) : (Instr.typeAssert .nilIface 20 49 true).run Tryz.prog w = .ok (.tuple #[.agg #[.int .i64 0, .int .i64 0], .bool false]) w := by kernel_rfl
theorem as_some (v : Value) (w : World) : (Instr.typeAssert (.iface 49 v) 20 49 true).run Tryz.prog w = .ok (.tuple #[v, .bool true]) w := by kernel_rfl
/-- The panic of a fault, before recover and behind it. -/
abbrev pnE (er at_ : Int) (rc : Bool) : PanicEntry := { v := .iface 49 (.agg #[.int .i64 er, .int .i64 at_]), recovered := rc }
set_option maxRecDepth 100000 in
set_option maxHeartbeats 400000 in
/-- Entered where the frame returns: recover finds nothing. -/
theorem parse_idle (p0 p1 p2 p3 : Addr) (w : World) :
    CallsD Tryz.prog 21 #[.pointer (some p0), .pointer (some p1), .pointer (some p2), .pointer (some p3)] .returning w fun e u' w' => e = .returned (.tuple #[]) ∧ u' = .returning ∧ Below w.heap.size w w' := by
  have HB : Hid (Below w.heap.size w (w.alloc (.cells #[.int .i64 0, .int .i64 0] 49))) := Lib.hid ((Below.refl _ _).alloc (Nat.le_refl _) _)
  refine callsD_of_wpS Tryz.func21 rfl fun c₀ cs hu => ?_
  apply wpS_seq
  apply wpS_region
  simp [wpOpsS, go_sem, recoverD, hu, Tryz.ntmps21, Exit.thenS, as_nil]
  apply wpS_seq
  apply wpS_region
  simp [wpOpsS, go_sem, Exit.thenS]
  refine wpS_cond (t := false) (by simp [Act.eval, Array.replicate]) ?_
  simp only [Bool.false_eq_true, if_false]
  refine wpS_of_wp (wp_skip ?_)
  cases c₀
  simp_all [bodyPostS, results, Tryz.results21]
  exact HB.out
set_option maxRecDepth 100000 in
set_option maxHeartbeats 400000 in
/-- Entered where the frame returns: recover finds nothing. -/
theorem take_idle (p0 p1 p2 : Addr) (w : World) :
    CallsD Tryz.prog 31 #[.pointer (some p0), .pointer (some p1), .pointer (some p2)] .returning w fun e u' w' => e = .returned (.tuple #[]) ∧ u' = .returning ∧ Below w.heap.size w w' := by
  have HB : Hid (Below w.heap.size w (w.alloc (.cells #[.int .i64 0, .int .i64 0] 49))) := Lib.hid ((Below.refl _ _).alloc (Nat.le_refl _) _)
  refine callsD_of_wpS Tryz.func31 rfl fun c₀ cs hu => ?_
  apply wpS_seq
  apply wpS_region
  simp [wpOpsS, go_sem, recoverD, hu, Tryz.ntmps31, Exit.thenS, as_nil]
  apply wpS_seq
  apply wpS_region
  simp [wpOpsS, go_sem, Exit.thenS]
  refine wpS_cond (t := false) (by simp [Act.eval, Array.replicate]) ?_
  simp only [Bool.false_eq_true, if_false]
  refine wpS_of_wp (wp_skip ?_)
  cases c₀
  simp_all [bodyPostS, results, Tryz.results31]
  exact HB.out
set_option maxRecDepth 100000 in
set_option maxHeartbeats 4000000 in
/-- Entered where the frame panics with a fault: the result is the fault's. -/
theorem parse_catch {L : List Tk} {sl : Value} (B : Nat) (wz w : World) {x0 x1 x2 x3 y z : Value} (er : Int) (i : Nat) (older : List PanicEntry) (h : O3 B wz w x0 x1 x2 x3 y z) {T : Nat} (ht : w.cell? ⟨T, 0, none⟩ = some sl) (hT : B + 2 < T) (hsl : ToksAt w sl L) (hl : L.length ≤ 16384) (hi : i ≤ 16384) :
    CallsD Tryz.prog 21 #[.pointer (some ⟨T, 0, none⟩), .pointer (some ⟨B, 0, none⟩), .pointer (some ⟨B + 1, 0, none⟩), .pointer (some ⟨B + 2, 0, none⟩)] (.panicking (pnE er i false :: older)) w fun e u' w' => e = .returned (.tuple #[]) ∧ u' = .panicking (pnE er i true :: older) ∧ O3 B wz w' (.int .i64 0) (.int .i64 0) (.string ⟨#[]⟩) (.slice none 0 0) (.int .i64 (lineOf L i)) (.int .i64 er) := by
  obtain ⟨at_, hat⟩ : ∃ a : Int, (i : Int) = a := ⟨_, rfl⟩
  have HBX : Hid (Below w.heap.size w (w.alloc (.cells #[.int .i64 er, .int .i64 at_] 49))) := Lib.hid ((Below.refl _ _).alloc (Nat.le_refl _) _)
  have D0 := Duo.new w (.int .i64 er) (.int .i64 at_) 49
  have h1 := h.later HBX.out
  have LA : Hid (∀ W, Below (w.alloc (.cells #[.int .i64 er, .int .i64 at_] 49)).heap.size (w.alloc (.cells #[.int .i64 er, .int .i64 at_] 49)) W → Calls Tryz.prog 22 #[sl, .int .i64 at_] W fun e w' => e = .returned (.int .i64 (lineOf L i)) ∧ W = w') := Lib.hid fun W hW => by rw [← hat]; exact lineAt_any ((hsl.later HBX.out).later hW) hl i hi
  have t0 : (w.alloc (.cells #[.int .i64 er, .int .i64 at_] 49)).cell? ⟨T, 0, none⟩ = some sl := (HBX.out.cell (p := ⟨T, 0, none⟩) (cell_lt ht)).trans ht
  have hTl := cell_lt ht
  have n1 : B ≠ T := by omega
  have n2 : B + 1 ≠ T := by omega
  have n3 : B + 2 ≠ T := by omega
  rw [hat]
  have H1 := Lib.hid h1
  have d0 := D0.c0
  have d1 := D0.c1
  have e0 := h1.f.c0
  have e1 := h1.f.c1
  have e2 := h1.f.c2
  have e3 := h1.f.c3
  have f0 := h1.f.f0
  have f1 := h1.f.f1
  have f2 := h1.f.f2
  have f3 := h1.f.f3
  have l0 := h1.l.c0
  have l1 := h1.l.f0
  have r0 := h1.r.c0
  have r1 := h1.r.f0
  have hr := h.r.lt
  refine callsD_of_wpS Tryz.func21 rfl fun c₀ cs hu => ?_
  apply wpS_seq
  apply wpS_region
  simp [wpOpsS, go_sem, recoverD, hu, Tryz.ntmps21, Exit.thenS, as_some]
  apply wpS_seq
  apply wpS_region
  simp [wpOpsS, go_sem, Exit.thenS]
  refine wpS_cond (t := true) (by simp [Act.eval, Array.replicate]) ?_
  simp only [if_true]
  refine wpS_of_wp ?_
  have m1 : B ≠ w.heap.size := by omega
  have m2 : B + 1 ≠ w.heap.size := by omega
  have m3 : B + 2 ≠ w.heap.size := by omega
  clear h h1 hat D0 HBX
  go_region_held3 (fun w' => w'.cell? ⟨T, 0, none⟩ = some sl ∧ w'.cell? ⟨w.heap.size, 0, none⟩ = some (.int .i64 er) ∧ w'.cell? ⟨w.heap.size, 1, none⟩ = some (.int .i64 at_)) (go_keep) ((go_at_call 22; (with_reducible refine (LA.out _ ?_).mono ?_); (first | exact (Below.refl _ _).drew | exact Below.refl _ _); rintro e w' ⟨rfl, rfl⟩))
  all_goals
    cases c₀
    simp_all [bodyPostS, results, Tryz.results21]
    exact (((H1.out.putE _ _ _ _).putL _).putR _).later (Below.refl _ _).drew
set_option maxRecDepth 100000 in
set_option maxHeartbeats 4000000 in
/-- Entered where the frame panics with a fault: the result is the fault's. -/
theorem take_catch (B : Nat) (wz w : World) {x0 x1 x2 x3 y z : Value} (er : Int) (i : Nat) (older : List PanicEntry) (h : O3 B wz w x0 x1 x2 x3 y z) :
    CallsD Tryz.prog 31 #[.pointer (some ⟨B, 0, none⟩), .pointer (some ⟨B + 1, 0, none⟩), .pointer (some ⟨B + 2, 0, none⟩)] (.panicking (pnE er i false :: older)) w fun e u' w' => e = .returned (.tuple #[]) ∧ u' = .panicking (pnE er i true :: older) ∧ O3 B wz w' (.int .i64 0) (.int .i64 0) (.string ⟨#[]⟩) (.slice none 0 0) (.int .i64 i) (.int .i64 er) := by
  obtain ⟨at_, hat⟩ : ∃ a : Int, (i : Int) = a := ⟨_, rfl⟩
  have HBX : Hid (Below w.heap.size w (w.alloc (.cells #[.int .i64 er, .int .i64 at_] 49))) := Lib.hid ((Below.refl _ _).alloc (Nat.le_refl _) _)
  have D0 := Duo.new w (.int .i64 er) (.int .i64 at_) 49
  have h1 := h.later HBX.out
  rw [hat]
  have H1 := Lib.hid h1
  have d0 := D0.c0
  have d1 := D0.c1
  have e0 := h1.f.c0
  have e1 := h1.f.c1
  have e2 := h1.f.c2
  have e3 := h1.f.c3
  have f0 := h1.f.f0
  have f1 := h1.f.f1
  have f2 := h1.f.f2
  have f3 := h1.f.f3
  have l0 := h1.l.c0
  have l1 := h1.l.f0
  have r0 := h1.r.c0
  have r1 := h1.r.f0
  have hr := h.r.lt
  refine callsD_of_wpS Tryz.func31 rfl fun c₀ cs hu => ?_
  apply wpS_seq
  apply wpS_region
  simp [wpOpsS, go_sem, recoverD, hu, Tryz.ntmps31, Exit.thenS, as_some]
  apply wpS_seq
  apply wpS_region
  simp [wpOpsS, go_sem, Exit.thenS]
  refine wpS_cond (t := true) (by simp [Act.eval, Array.replicate]) ?_
  simp only [if_true]
  refine wpS_of_wp ?_
  have m1 : B ≠ w.heap.size := by omega
  have m2 : B + 1 ≠ w.heap.size := by omega
  have m3 : B + 2 ≠ w.heap.size := by omega
  clear h h1 hat D0 HBX
  go_region_held3 (fun w' => w'.cell? ⟨w.heap.size, 0, none⟩ = some (.int .i64 er) ∧ w'.cell? ⟨w.heap.size, 1, none⟩ = some (.int .i64 at_)) (go_keep) (fail)
  all_goals
    cases c₀
    simp_all [bodyPostS, results, Tryz.results31]
    exact (((H1.out.putE _ _ _ _).putL _).putR _).later (Below.refl _ _).drew
end Go.Proofs.YtlnomiiphlbamaaGreatDoor.EtW
namespace Go.Proofs.YtlnomiiphlbamaaGreatDoor.EtW
open Go Go.RowKit Go.Proofs.YtlnomiiphlbamaaGreatDoor.NumM Go.Proofs.YtlnomiiphlbamaaGreatDoor.LexW Go.Proofs.YtlnomiiphlbamaaGreatDoor.LexM Go.Proofs.YtlnomiiphlbamaaGreatDoor.ExM Go.Proofs.YtlnomiiphlbamaaGreatDoor.ExW Go.Proofs.YtlnomiiphlbamaaGreatDoor.EtM

/-- An expression, a number and an error are returned, the expression in new memory. -/
def tTri (q : Ex × Int × Int) (w : World) (e : Ending) (w' : World) : Prop :=
  ∃ o n s p k c, e = .returned (.tuple #[xv o n s (.slice p k c), .int .i64 q.2.1, .int .i64 q.2.2]) ∧ Below w.heap.size w w' ∧ Fr w.heap.size w' (xv o n s (.slice p k c)) q.1
theorem O3.zero {w W : World} {y z : Int} (h : O3 w.heap.size w W (.int .i64 0) (.int .i64 0) (.string ⟨#[]⟩) (.slice none 0 0) (.int .i64 y) (.int .i64 z)) : tTri (zEx, y, z) w (.returned (.tuple #[xv 0 0 ⟨#[]⟩ (.slice none 0 0), .int .i64 y, .int .i64 z])) W :=
  ⟨_, _, _, _, _, _, rfl, h.b, ExS.leaf (by decide)⟩
/-- A fault told by the parser's block alone. -/
theorem fault_blk {L : List Tk} {sl : Value} {r : List Tk} {W : World} {B : Nat} {p : Option Addr} {cap : Nat} (hsl : sl = .slice p L.length cap) (hle : r.length ≤ L.length) (h : Blk W B sl (pos L r) (hdT r)) :
    Calls Tryz.prog 25 #[.pointer (some ⟨B, 0, none⟩)] W fun e w' => e = .returned (.agg #[.int .i64 (fErr r), .int .i64 (pos L r)]) ∧ Below W.heap.size W w' := by
  have HA := h.later ((Below.refl _ _).alloc (Nat.le_refl _) (.cells #[.int .i64 0, .int .i64 0] 49))
  refine fault_raw B (pos L r) L.length cap p (fErr r) W (by rw [← hsl]; exact HA.cell 0) (HA.cell 1) ?_
  unfold pos fErr
  by_cases g : r.length = 0
  · rw [if_pos g]; exact .inl ⟨by omega, rfl⟩
  · rw [if_neg g]; exact .inr ⟨by omega, rfl⟩
theorem Blk.put {W : World} {g B : Nat} {sl : Value} {k : Int} {t : Tk} (h : Blk W g sl k t) (hn : B ≠ g) (y0 y1 y2 y3 : Value) : Blk ((((W.setCell ⟨B, 0, none⟩ y0).setCell ⟨B, 1, none⟩ y1).setCell ⟨B, 2, none⟩ y2).setCell ⟨B, 3, none⟩ y3) g sl k t := by
  have far : ∀ (W : World) (o : Nat) (v : Value), (W.setCell ⟨B, o, none⟩ v).heap[g]? = W.heap[g]? := fun W o v => heap_setCell_other W ⟨B, o, none⟩ g v (by simpa using hn.symm)
  rw [Blk, far, far, far, far]
  exact h
theorem leaves_ret {fn : Func} {tmps : Array Value} {R : Ending → World → Prop} {w : World} {v : Value} (h : (results fn tmps).run Tryz.prog w = .ok v w) (hr : R (.returned v) w) : Leaves Tryz.prog fn tmps R [] .returning w := ⟨v, h, hr⟩
theorem parS_err {s : List UInt8} {L : List Tk} {ln er : Int} (h : tokS s = (L, ln, er)) (he : er ≠ 0) : parS s = (zEx, ln, er) := by unfold parS; rw [h]; exact if_pos he
theorem parS_ok {s : List UInt8} {L : List Tk} {ln : Int} (h : tokS s = (L, ln, 0)) : parS s = fin L (res .ch L) := by unfold parS; rw [h]; exact if_neg (by simp)
set_option maxRecDepth 100000 in
set_option maxHeartbeats 4000000 in
theorem parse_lex (s : ByteArray) (w : World) (ht : TabE w) {L : List Tk} {ln er : Int} (hq : tokS s.data.toList = (L, ln, er)) (he : er ≠ 0) : Calls Tryz.prog 11 #[.string s] w (tTri (zEx, ln, er) w) := by
  have hmf : ∀ (fn : Fn) (first cap : Array Value) (w : World), (Instr.makeFunc fn first cap).run Tryz.prog w = .ok (.func fn first cap) w := fun _ _ _ _ => rfl
  have hb3 : Below w.heap.size w (((w.alloc (.cells #[.int .i64 0, .int .i64 0, .string ⟨#[]⟩, .slice none 0 0] 24)).alloc (.cells #[.int .i64 0] 3)).alloc (.cells #[.int .i64 0] 28)) := (((Below.refl _ _).alloc (Nat.le_refl _) _).alloc (by simp) _).alloc (by simp; omega) _
  have h3 : O3 w.heap.size w (((w.alloc (.cells #[.int .i64 0, .int .i64 0, .string ⟨#[]⟩, .slice none 0 0] 24)).alloc (.cells #[.int .i64 0] 3)).alloc (.cells #[.int .i64 0] 28)) (.int .i64 0) (.int .i64 0) (.string ⟨#[]⟩) (.slice none 0 0) (.int .i64 0) (.int .i64 0) := by
    have a := ((Four.new w (.int .i64 0) (.int .i64 0) (.string ⟨#[]⟩) (.slice none 0 0) 24).alloc (.cells #[.int .i64 0] 3)).alloc (.cells #[.int .i64 0] 28)
    have b := (One.new (w.alloc (.cells #[.int .i64 0, .int .i64 0, .string ⟨#[]⟩, .slice none 0 0] 24)) (.int .i64 0) 3).later ((Below.refl _ _).alloc (Nat.le_refl _) (.cells #[.int .i64 0] 28))
    have c := One.new ((w.alloc (.cells #[.int .i64 0, .int .i64 0, .string ⟨#[]⟩, .slice none 0 0] 24)).alloc (.cells #[.int .i64 0] 3)) (.int .i64 0) 28
    rw [World.size_alloc] at b
    rw [World.size_alloc, World.size_alloc] at c
    exact ⟨hb3, a, b, c⟩
  have TC0 := tokens_any s (((w.alloc (.cells #[.int .i64 0, .int .i64 0, .string ⟨#[]⟩, .slice none 0 0] 24)).alloc (.cells #[.int .i64 0] 3)).alloc (.cells #[.int .i64 0] 28)) (ht.base.later hb3)
  rw [hq] at TC0
  have TC := Lib.hid TC0
  have H3 := Lib.hid h3
  have e0 := h3.f.c0; have e1 := h3.f.c1; have e2 := h3.f.c2; have e3 := h3.f.c3; have f0 := h3.f.f0; have f1 := h3.f.f1; have f2 := h3.f.f2; have f3 := h3.f.f3; have l0 := h3.l.c0; have l1 := h3.l.f0; have r0 := h3.r.c0; have r1 := h3.r.f0
  clear TC0 h3 hb3 ht hq
  go_enter_defers Tryz.func11, Tryz.ntmps11
  go_wp2_with (go_at_call 20; ((with_reducible refine TC.out.mono ?_); rintro e w4 ⟨v, rfl, hown, hb⟩; obtain ⟨p, cap, hv, hcap, hx⟩ := ToksAt.ofOwn hown; subst hv; have hb4 := (Below.refl w4.heap.size w4).alloc (Nat.le_refl _) (.cells #[.slice p L.length cap] 34); have h5' := (((H3.out.later hb).later hb4).putL (.int .i64 ln)).putR (.int .i64 er); have l4 := hb.size; rw [World.size_alloc, World.size_alloc, World.size_alloc] at l4; clear e0 e1 e2 e3 f0 f1 f2 f3 l0 l1 r0 r1; have q0 := ((H3.out.later hb).later hb4).l.c0; have q1 := ((H3.out.later hb).later hb4).l.f0; have q2 := (((H3.out.later hb).later hb4).putL (.int .i64 ln)).r.c0; have q3 := (((H3.out.later hb).later hb4).putL (.int .i64 ln)).r.f0; have e0 := h5'.f.c0; have e1 := h5'.f.c1; have e2 := h5'.f.c2; have e3 := h5'.f.c3; have f0 := h5'.f.f0; have f1 := h5'.f.f1; have f2 := h5'.f.f2; have f3 := h5'.f.f3; have l0 := h5'.l.c0; have l1 := h5'.l.f0; have r0 := h5'.r.c0; have r1 := h5'.r.f0; have H5 := Lib.hid h5'; clear hown hx; clear hb hb4 h5'))
  go_region_held3 (fun w' => w'.cell? ⟨w.heap.size + 1, 0, none⟩ = some (.int .i64 ln) ∧ w'.cell? ⟨w.heap.size + 2, 0, none⟩ = some (.int .i64 er)) (first | (go_keep; done) | with_reducible exact ⟨(((H5.out.later (Below.refl _ _).drew).putE _ _ _ _).putL _).l.c0, (((H5.out.later (Below.refl _ _).drew).putE _ _ _ _).putL _).r.c0⟩ | with_reducible exact ⟨((((H5.out.later (Below.refl _ _).drew).putE _ _ _ _).putL _).putR _).l.c0, ((((H5.out.later (Below.refl _ _).drew).putE _ _ _ _).putL _).putR _).r.c0⟩ | with_reducible exact ⟨(((H5.out.putE _ _ _ _).putL _).later (Below.refl _ _).drew).l.c0, (((H5.out.putE _ _ _ _).putL _).later (Below.refl _ _).drew).r.c0⟩ | with_reducible exact ⟨((((H5.out.putE _ _ _ _).putL _).putR _).later (Below.refl _ _).drew).l.c0, ((((H5.out.putE _ _ _ _).putL _).putR _).later (Below.refl _ _).drew).r.c0⟩) (fail)
  all_goals
    go_wp2
    have h8 := (((H5.out.putE (.int .i64 0) (.int .i64 0) (.string ⟨#[]⟩) (.slice none 0 0)).putL (.int .i64 ln)).putR (.int .i64 er)).later (Below.refl _ _).drew
    have z0 := h8.f.c0
    have z1 := h8.f.c1
    have z2 := h8.f.c2
    have z3 := h8.f.c3
    have z4 := h8.l.c0
    have z5 := h8.r.c0
    refine leaves_ret (v := .tuple #[xv 0 0 ⟨#[]⟩ (.slice none 0 0), .int .i64 ln, .int .i64 er]) (by simp [results, Tryz.results11, go_sem, z0, z1, z2, z3, z4, z5]) ?_
    exact h8.zero
def Bnd (L : List Tk) (W5 : World) (sl : Value) (T : Nat) (w W : World) (x0 x1 x2 x3 y z : Value) : Prop := O3 w.heap.size w W x0 x1 x2 x3 y z ∧ W.cell? ⟨T, 0, none⟩ = some sl ∧ ToksAt W sl L ∧ W5.heap.size ≤ W.heap.size
theorem Bnd.later {L : List Tk} {W5 : World} {sl : Value} {T : Nat} {w W W' : World} {x0 x1 x2 x3 y z : Value} (h : Bnd L W5 sl T w W x0 x1 x2 x3 y z) (hb : Below W.heap.size W W') : Bnd L W5 sl T w W' x0 x1 x2 x3 y z :=
  ⟨h.1.later hb, (hb.cell (p := ⟨T, 0, none⟩) (cell_lt h.2.1)).trans h.2.1, h.2.2.1.later hb, Nat.le_trans h.2.2.2 hb.size⟩
theorem fin_ok {L : List Tk} {x : Ex} {r : List Tk} (h : r.length = 0) : fin L (.ok x r) = (if vld x ≠ 0 then zEx else x, if vld x ≠ 0 then 0 else 0, vld x) := by
  unfold fin
  dsimp only
  rw [if_neg (by omega)]
  by_cases g : vld x ≠ 0
  · rw [if_pos g, if_pos g, if_pos g]
  · rw [if_neg g, if_neg g, if_neg g]
    simp only [ne_eq, Decidable.not_not] at g
    rw [g]
theorem fin_no {L : List Tk} {x : Ex} {r : List Tk} (h : r.length ≠ 0) : fin L (.ok x r) = (zEx, lineOf L (pos L r), 5) := by
  unfold fin
  dsimp only
  rw [if_pos h]
  rfl
set_option maxRecDepth 100000 in
set_option maxHeartbeats 4000000 in
theorem parse_bad (s : ByteArray) (w : World) (ht : TabE w) {L : List Tk} {ln : Int} (hq : tokS s.data.toList = (L, ln, 0)) {er : Int} {k : Nat} (hr : res .ch L = .bad er k) : Calls Tryz.prog 11 #[.string s] w (tTri (zEx, lineOf L (L.length - k), er) w) := by
  have RS := Lib.hid hr
  clear hr
  have hmf : ∀ (fn : Fn) (first cap : Array Value) (w : World), (Instr.makeFunc fn first cap).run Tryz.prog w = .ok (.func fn first cap) w := fun _ _ _ _ => rfl
  have hb3 : Below w.heap.size w (((w.alloc (.cells #[.int .i64 0, .int .i64 0, .string ⟨#[]⟩, .slice none 0 0] 24)).alloc (.cells #[.int .i64 0] 3)).alloc (.cells #[.int .i64 0] 28)) := (((Below.refl _ _).alloc (Nat.le_refl _) _).alloc (by simp) _).alloc (by simp; omega) _
  have h3 : O3 w.heap.size w (((w.alloc (.cells #[.int .i64 0, .int .i64 0, .string ⟨#[]⟩, .slice none 0 0] 24)).alloc (.cells #[.int .i64 0] 3)).alloc (.cells #[.int .i64 0] 28)) (.int .i64 0) (.int .i64 0) (.string ⟨#[]⟩) (.slice none 0 0) (.int .i64 0) (.int .i64 0) := by
    have a := ((Four.new w (.int .i64 0) (.int .i64 0) (.string ⟨#[]⟩) (.slice none 0 0) 24).alloc (.cells #[.int .i64 0] 3)).alloc (.cells #[.int .i64 0] 28)
    have b := (One.new (w.alloc (.cells #[.int .i64 0, .int .i64 0, .string ⟨#[]⟩, .slice none 0 0] 24)) (.int .i64 0) 3).later ((Below.refl _ _).alloc (Nat.le_refl _) (.cells #[.int .i64 0] 28))
    have c := One.new ((w.alloc (.cells #[.int .i64 0, .int .i64 0, .string ⟨#[]⟩, .slice none 0 0] 24)).alloc (.cells #[.int .i64 0] 3)) (.int .i64 0) 28
    rw [World.size_alloc] at b
    rw [World.size_alloc, World.size_alloc] at c
    exact ⟨hb3, a, b, c⟩
  have TC0 := tokens_any s (((w.alloc (.cells #[.int .i64 0, .int .i64 0, .string ⟨#[]⟩, .slice none 0 0] 24)).alloc (.cells #[.int .i64 0] 3)).alloc (.cells #[.int .i64 0] 28)) (ht.base.later hb3)
  rw [hq] at TC0
  have TC := Lib.hid TC0
  have H3 := Lib.hid h3
  have HT := Lib.hid ht
  have hg := tokS_good s.data.toList
  rw [hq] at hg
  have hl16 : L.length ≤ 16384 := hg.1
  have HG := Lib.hid hg.2
  have e0 := h3.f.c0; have e1 := h3.f.c1; have e2 := h3.f.c2; have e3 := h3.f.c3; have f0 := h3.f.f0; have f1 := h3.f.f1; have f2 := h3.f.f2; have f3 := h3.f.f3; have l0 := h3.l.c0; have l1 := h3.l.f0; have r0 := h3.r.c0; have r1 := h3.r.f0
  clear TC0 h3 hb3 ht hq hg
  go_enter_defers Tryz.func11, Tryz.ntmps11
  go_upto_region 2 with ((go_at_call 20; ((with_reducible refine TC.out.mono ?_); rintro e w4 ⟨v, rfl, hown, hb⟩; obtain ⟨p, cap, hv, hcap, hx⟩ := ToksAt.ofOwn hown; subst hv; clear hcap hx; have hb4 := (Below.refl w4.heap.size w4).alloc (Nat.le_refl _) (.cells #[.slice p L.length cap] 34); have h4' := (H3.out.later hb).later hb4; have h5' : O3 w.heap.size w (((w4.alloc (.cells #[.slice p L.length cap] 34)).setCell ⟨w.heap.size + 1, 0, none⟩ (.int .i64 ln)).setCell ⟨w.heap.size + 1 + 1, 0, none⟩ (.int .i64 0)) (.int .i64 0) (.int .i64 0) (.string ⟨#[]⟩) (.slice none 0 0) (.int .i64 ln) (.int .i64 0) := (h4'.putL (.int .i64 ln)).putR (.int .i64 0); have l4 := hb.size; rw [World.size_alloc, World.size_alloc, World.size_alloc] at l4; have q0 := h4'.l.c0; have q1 := h4'.l.f0; have q2 := (h4'.putL (.int .i64 ln)).r.c0; have q3 := (h4'.putL (.int .i64 ln)).r.f0; have k5 := own_grown (own_grown (hown.alloc (.cells #[.slice p L.length cap] 34)) (grownBy_set _ (w.heap.size + 1) 0 (.int .i64 ln)) (fun b hb e => by have a1 := (own_lt hown b hb).1; have a2 := Option.some.inj e; simp only [World.size_alloc] at a1; omega)) (grownBy_set _ (w.heap.size + 1 + 1) 0 (.int .i64 0)) (fun b hb e => by have a1 := (own_lt hown b hb).1; have a2 := Option.some.inj e; simp only [World.size_alloc] at a1; omega); have o5 := ((One.new w4 (.slice p L.length cap) 34).far (b := w.heap.size + 1) (o := 0) (by omega) (.int .i64 ln)).far (b := w.heap.size + 1 + 1) (o := 0) (by omega) (.int .i64 0); have z5 : (((w4.alloc (.cells #[.slice p L.length cap] 34)).setCell ⟨w.heap.size + 1, 0, none⟩ (.int .i64 ln)).setCell ⟨w.heap.size + 1 + 1, 0, none⟩ (.int .i64 0)).heap.size = w4.heap.size + 1 := (by simp only [setCell_size, World.size_alloc]); clear e0 e1 e2 e3 f0 f1 f2 f3 l0 l1 r0 r1; have e0 := h5'.f.c0; have e1 := h5'.f.c1; have e2 := h5'.f.c2; have e3 := h5'.f.c3; have f0 := h5'.f.f0; have f1 := h5'.f.f1; have f2 := h5'.f.f2; have f3 := h5'.f.f3; have l0 := h5'.l.c0; have l1 := h5'.l.f0; have r0 := h5'.r.c0; have r1 := h5'.r.f0; have H5 := Lib.hid h5'; have O5 := Lib.hid o5; have K5 := Lib.hid k5; have Z5 := Lib.hid z5; have t5 := o5.c0; clear hb hb4 h5' h4' hown k5 o5 z5)))
  obtain ⟨W5, hW5⟩ : ∃ W5, (((w4.alloc (.cells #[.slice p L.length cap] 34)).setCell ⟨w.heap.size + 1, 0, none⟩ (.int .i64 ln)).setCell ⟨w.heap.size + 1 + 1, 0, none⟩ (.int .i64 0)) = W5 := ⟨_, rfl⟩
  rw [hW5] at H5 O5 K5 Z5 t5 e0 e1 e2 e3 f0 f1 f2 f3 l0 l1 r0 r1 ⊢
  clear hW5 q0 q1 q2 q3
  have z5 := Z5.out
  have hb5 := H5.out.b
  have HCX : Hid (Cx L (.slice p L.length cap) W5) := Lib.hid ⟨HT.out.later hb5, ToksAt.ofOwn K5.out, fun t h => (HG.out t h).1, hl16, fun t h => (HG.out t h).2⟩
  have PAC := Lib.hid (parserAt_any HCX.out)
  clear hb5
  go_wp2_with (first
    | (go_at_call 23; ((with_reducible refine PAC.out.mono ?_); rintro e w7 ⟨rfl, hI⟩; have h7' := H5.out.later hI.bel; have l7 := hI.bel.size; have t7 := (hI.bel.cell (p := ⟨w4.heap.size, 0, none⟩) (cell_lt O5.out.c0)).trans O5.out.c0; clear t5; clear e0 e1 e2 e3 f0 f1 f2 f3 l0 l1 r0 r1; have e0 := h7'.f.c0; have e1 := h7'.f.c1; have e2 := h7'.f.c2; have e3 := h7'.f.c3; have f0 := h7'.f.f0; have f1 := h7'.f.f1; have f2 := h7'.f.f2; have f3 := h7'.f.f3; have l0 := h7'.l.c0; have l1 := h7'.l.f0; have r0 := h7'.r.c0; have r1 := h7'.r.f0; have H7 := Lib.hid h7'; have CC := Lib.hid (choice_res HCX.out hI); have HI7 := Lib.hid hI; rw [RS.out] at CC; clear h7' hI))
    | (go_at_call 24; ((with_reducible refine CC.out.mono ?_); rintro e w8 ⟨rfl, hT⟩; have hbb := HI7.out.bel.trans (below_tn hT (by omega)); have h8 := H7.out.turn hT (by omega); have t8 := (hbb.cell (p := ⟨w4.heap.size, 0, none⟩) (cell_lt O5.out.c0)).trans O5.out.c0; have TK8 := Lib.hid (HCX.out.tok.later hbb); have T8 := Lib.hid t8; have H8 := Lib.hid h8; clear hT hbb h8 t8)))
  refine leaves_cons (f := 21) (args := #[.pointer (some ⟨w4.heap.size, 0, none⟩), .pointer (some ⟨w.heap.size, 0, none⟩), .pointer (some ⟨w.heap.size + 1, 0, none⟩), .pointer (some ⟨w.heap.size + 2, 0, none⟩)]) (by simp) (by simp [go_sem]) ?_
  refine (parse_catch (L := L) w.heap.size w w8 er (L.length - k) [] H8.out T8.out (by omega) TK8.out hl16 (by omega)).mono ?_
  rintro e u' w' ⟨rfl, rfl, h9⟩
  have z0 := h9.f.c0
  have z1 := h9.f.c1
  have z2 := h9.f.c2
  have z3 := h9.f.c3
  have z4 := h9.l.c0
  have z5 := h9.r.c0
  refine leaves_ret (v := .tuple #[xv 0 0 ⟨#[]⟩ (.slice none 0 0), .int .i64 (lineOf L (L.length - k)), .int .i64 er]) (by simp [results, Tryz.results11, go_sem, z0, z1, z2, z3, z4, z5]) ?_
  exact h9.zero
/-- The tokens' row, whose memory lies behind the result's boxes. -/
structure Kw (w W : World) (L : List Tk) (v : Value) : Prop where
  row : W.ownsRow (w.heap.size + 3) 41 4 v L.length (tkCells L)
theorem Kw.base {w W : World} {L : List Tk} {v : Value} (h : Kw w W L v) : ∀ b, v.ownBlock = some b → w.heap.size + 3 ≤ b := fun b hb => (own_lt h.row b hb).1
theorem Kw.grow {w W W' : World} {L : List Tk} {v : Value} (h : Kw w W L v) (hb : Below W.heap.size W W') : W'.ownsRow (w.heap.size + 3) 41 4 v L.length (tkCells L) := own_grown h.row (grown_of_below hb) (fun b _ e => by cases e)
set_option maxRecDepth 100000 in
set_option maxHeartbeats 8000000 in
theorem parse_more (s : ByteArray) (w : World) (ht : TabE w) {L : List Tk} {ln : Int} (hq : tokS s.data.toList = (L, ln, 0)) {x : Ex} {r : List Tk} (hr : res .ch L = .ok x r) (hz : r.length ≠ 0) : Calls Tryz.prog 11 #[.string s] w (tTri (zEx, lineOf L (pos L r), 5) w) := by
  have hrs := res_sz hr
  have hsz : sz x ≤ 2000000 := by have := tokS_good s.data.toList; rw [hq] at this; have := this.1; dsimp only at this; omega
  have RS := Lib.hid hr
  clear hr
  have hmf : ∀ (fn : Fn) (first cap : Array Value) (w : World), (Instr.makeFunc fn first cap).run Tryz.prog w = .ok (.func fn first cap) w := fun _ _ _ _ => rfl
  have hb3 : Below w.heap.size w (((w.alloc (.cells #[.int .i64 0, .int .i64 0, .string ⟨#[]⟩, .slice none 0 0] 24)).alloc (.cells #[.int .i64 0] 3)).alloc (.cells #[.int .i64 0] 28)) := (((Below.refl _ _).alloc (Nat.le_refl _) _).alloc (by simp) _).alloc (by simp; omega) _
  have h3 : O3 w.heap.size w (((w.alloc (.cells #[.int .i64 0, .int .i64 0, .string ⟨#[]⟩, .slice none 0 0] 24)).alloc (.cells #[.int .i64 0] 3)).alloc (.cells #[.int .i64 0] 28)) (.int .i64 0) (.int .i64 0) (.string ⟨#[]⟩) (.slice none 0 0) (.int .i64 0) (.int .i64 0) := by
    have a := ((Four.new w (.int .i64 0) (.int .i64 0) (.string ⟨#[]⟩) (.slice none 0 0) 24).alloc (.cells #[.int .i64 0] 3)).alloc (.cells #[.int .i64 0] 28)
    have b := (One.new (w.alloc (.cells #[.int .i64 0, .int .i64 0, .string ⟨#[]⟩, .slice none 0 0] 24)) (.int .i64 0) 3).later ((Below.refl _ _).alloc (Nat.le_refl _) (.cells #[.int .i64 0] 28))
    have c := One.new ((w.alloc (.cells #[.int .i64 0, .int .i64 0, .string ⟨#[]⟩, .slice none 0 0] 24)).alloc (.cells #[.int .i64 0] 3)) (.int .i64 0) 28
    rw [World.size_alloc] at b
    rw [World.size_alloc, World.size_alloc] at c
    exact ⟨hb3, a, b, c⟩
  have TC0 := tokens_any s (((w.alloc (.cells #[.int .i64 0, .int .i64 0, .string ⟨#[]⟩, .slice none 0 0] 24)).alloc (.cells #[.int .i64 0] 3)).alloc (.cells #[.int .i64 0] 28)) (ht.base.later hb3)
  rw [hq] at TC0
  have TC := Lib.hid TC0
  have H3 := Lib.hid h3
  have HT := Lib.hid ht
  have hg := tokS_good s.data.toList
  rw [hq] at hg
  have hl16 : L.length ≤ 16384 := hg.1
  have HG := Lib.hid hg.2
  have e0 := h3.f.c0; have e1 := h3.f.c1; have e2 := h3.f.c2; have e3 := h3.f.c3; have f0 := h3.f.f0; have f1 := h3.f.f1; have f2 := h3.f.f2; have f3 := h3.f.f3; have l0 := h3.l.c0; have l1 := h3.l.f0; have r0 := h3.r.c0; have r1 := h3.r.f0
  clear TC0 h3 hb3 ht hq hg
  go_enter_defers Tryz.func11, Tryz.ntmps11
  go_upto_region 2 with ((go_at_call 20; ((with_reducible refine TC.out.mono ?_); rintro e w4 ⟨v, rfl, hown, hb⟩; obtain ⟨p, cap, hv, hcap, hx⟩ := ToksAt.ofOwn hown; subst hv; clear hcap hx; have hb4 := (Below.refl w4.heap.size w4).alloc (Nat.le_refl _) (.cells #[.slice p L.length cap] 34); have h4' := (H3.out.later hb).later hb4; have h5' : O3 w.heap.size w (((w4.alloc (.cells #[.slice p L.length cap] 34)).setCell ⟨w.heap.size + 1, 0, none⟩ (.int .i64 ln)).setCell ⟨w.heap.size + 1 + 1, 0, none⟩ (.int .i64 0)) (.int .i64 0) (.int .i64 0) (.string ⟨#[]⟩) (.slice none 0 0) (.int .i64 ln) (.int .i64 0) := (h4'.putL (.int .i64 ln)).putR (.int .i64 0); have l4 := hb.size; rw [World.size_alloc, World.size_alloc, World.size_alloc] at l4; have q0 := h4'.l.c0; have q1 := h4'.l.f0; have q2 := (h4'.putL (.int .i64 ln)).r.c0; have q3 := (h4'.putL (.int .i64 ln)).r.f0; have k5 := own_grown (own_grown (hown.alloc (.cells #[.slice p L.length cap] 34)) (grownBy_set _ (w.heap.size + 1) 0 (.int .i64 ln)) (fun b hb e => by have a1 := (own_lt hown b hb).1; have a2 := Option.some.inj e; simp only [World.size_alloc] at a1; omega)) (grownBy_set _ (w.heap.size + 1 + 1) 0 (.int .i64 0)) (fun b hb e => by have a1 := (own_lt hown b hb).1; have a2 := Option.some.inj e; simp only [World.size_alloc] at a1; omega); have o5 := ((One.new w4 (.slice p L.length cap) 34).far (b := w.heap.size + 1) (o := 0) (by omega) (.int .i64 ln)).far (b := w.heap.size + 1 + 1) (o := 0) (by omega) (.int .i64 0); have z5 : (((w4.alloc (.cells #[.slice p L.length cap] 34)).setCell ⟨w.heap.size + 1, 0, none⟩ (.int .i64 ln)).setCell ⟨w.heap.size + 1 + 1, 0, none⟩ (.int .i64 0)).heap.size = w4.heap.size + 1 := (by simp only [setCell_size, World.size_alloc]); clear e0 e1 e2 e3 f0 f1 f2 f3 l0 l1 r0 r1; have e0 := h5'.f.c0; have e1 := h5'.f.c1; have e2 := h5'.f.c2; have e3 := h5'.f.c3; have f0 := h5'.f.f0; have f1 := h5'.f.f1; have f2 := h5'.f.f2; have f3 := h5'.f.f3; have l0 := h5'.l.c0; have l1 := h5'.l.f0; have r0 := h5'.r.c0; have r1 := h5'.r.f0; have H5 := Lib.hid h5'; have O5 := Lib.hid o5; have K5 := Lib.hid k5; have Z5 := Lib.hid z5; have t5 := o5.c0; clear hb hb4 h5' h4' hown k5 o5 z5)))
  obtain ⟨W5, hW5⟩ : ∃ W5, (((w4.alloc (.cells #[.slice p L.length cap] 34)).setCell ⟨w.heap.size + 1, 0, none⟩ (.int .i64 ln)).setCell ⟨w.heap.size + 1 + 1, 0, none⟩ (.int .i64 0)) = W5 := ⟨_, rfl⟩
  rw [hW5] at H5 O5 K5 Z5 t5 e0 e1 e2 e3 f0 f1 f2 f3 l0 l1 r0 r1 ⊢
  clear hW5 q0 q1 q2 q3
  have z5 := Z5.out
  have hb5 := H5.out.b
  have HCX : Hid (Cx L (.slice p L.length cap) W5) := Lib.hid ⟨HT.out.later hb5, ToksAt.ofOwn K5.out, fun t h => (HG.out t h).1, hl16, fun t h => (HG.out t h).2⟩
  have PAC := Lib.hid (parserAt_any HCX.out)
  clear hb5
  have KW : Hid (Kw w W5 L (.slice p L.length cap)) := Lib.hid ⟨by have := K5.out; simpa only [World.size_alloc] using this⟩
  go_upto_region 7 with (first
    | (go_at_call 23; ((with_reducible refine PAC.out.mono ?_); rintro e w7 ⟨rfl, hI⟩; have h7' := H5.out.later hI.bel; have l7 := hI.bel.size; have t7 := (hI.bel.cell (p := ⟨w4.heap.size, 0, none⟩) (cell_lt O5.out.c0)).trans O5.out.c0; clear t5; clear e0 e1 e2 e3 f0 f1 f2 f3 l0 l1 r0 r1; have e0 := h7'.f.c0; have e1 := h7'.f.c1; have e2 := h7'.f.c2; have e3 := h7'.f.c3; have f0 := h7'.f.f0; have f1 := h7'.f.f1; have f2 := h7'.f.f2; have f3 := h7'.f.f3; have l0 := h7'.l.c0; have l1 := h7'.l.f0; have r0 := h7'.r.c0; have r1 := h7'.r.f0; have H7 := Lib.hid h7'; have CC := Lib.hid (choice_res HCX.out hI); have HI7 := Lib.hid hI; rw [RS.out] at CC; clear h7' hI))
    | (go_at_call 24; ((with_reducible refine CC.out.mono ?_); rintro e w8 ⟨o8, n8, s8, p8, k8, c8, rfl, hT, hI, hF⟩; have h8 := H7.out.turn hT (by omega); have l8 := hT.size; clear e0 e1 e2 e3 f0 f1 f2 f3 l0 l1 r0 r1; have e0 := h8.f.c0; have e1 := h8.f.c1; have e2 := h8.f.c2; have e3 := h8.f.c3; have f0 := h8.f.f0; have f1 := h8.f.f1; have f2 := h8.f.f2; have f3 := h8.f.f3; have l0 := h8.l.c0; have l1 := h8.l.f0; have r0 := h8.r.c0; have r1 := h8.r.f0; have h9 : O3 w.heap.size w ((((w8.setCell ⟨w.heap.size, 0, none⟩ (.int .i64 o8)).setCell ⟨w.heap.size, 1, none⟩ (.int .i64 n8)).setCell ⟨w.heap.size, 2, none⟩ (.string s8)).setCell ⟨w.heap.size, 3, none⟩ (.slice p8 k8 c8)) (.int .i64 o8) (.int .i64 n8) (.string s8) (.slice p8 k8 c8) (.int .i64 ln) (.int .i64 0) := h8.putE _ _ _ _; have b9 : Blk ((((w8.setCell ⟨w.heap.size, 0, none⟩ (.int .i64 o8)).setCell ⟨w.heap.size, 1, none⟩ (.int .i64 n8)).setCell ⟨w.heap.size, 2, none⟩ (.string s8)).setCell ⟨w.heap.size, 3, none⟩ (.slice p8 k8 c8)) W5.heap.size (.slice p L.length cap) (pos L r) (hdT r) := hI.blk.put (by omega) _ _ _ _; have s9 : ((((w8.setCell ⟨w.heap.size, 0, none⟩ (.int .i64 o8)).setCell ⟨w.heap.size, 1, none⟩ (.int .i64 n8)).setCell ⟨w.heap.size, 2, none⟩ (.string s8)).setCell ⟨w.heap.size, 3, none⟩ (.slice p8 k8 c8)).heap.size = w8.heap.size := (by simp only [setCell_size]); have k9 : ((((w8.setCell ⟨w.heap.size, 0, none⟩ (.int .i64 o8)).setCell ⟨w.heap.size, 1, none⟩ (.int .i64 n8)).setCell ⟨w.heap.size, 2, none⟩ (.string s8)).setCell ⟨w.heap.size, 3, none⟩ (.slice p8 k8 c8)).ownsRow (w.heap.size + 3) 41 4 (.slice p L.length cap) L.length (tkCells L) := own_grown (own_grown (own_grown (own_grown ((KW.out.grow hI.bel)) (grownBy_set _ _ _ _) (fun b hb e => by have a1 := KW.out.base b hb; have a2 := Option.some.inj e; omega)) (grownBy_set _ _ _ _) (fun b hb e => by have a1 := KW.out.base b hb; have a2 := Option.some.inj e; omega)) (grownBy_set _ _ _ _) (fun b hb e => by have a1 := KW.out.base b hb; have a2 := Option.some.inj e; omega)) (grownBy_set _ _ _ _) (fun b hb e => by have a1 := KW.out.base b hb; have a2 := Option.some.inj e; omega); have o9 : One ((((w8.setCell ⟨w.heap.size, 0, none⟩ (.int .i64 o8)).setCell ⟨w.heap.size, 1, none⟩ (.int .i64 n8)).setCell ⟨w.heap.size, 2, none⟩ (.string s8)).setCell ⟨w.heap.size, 3, none⟩ (.slice p8 k8 c8)) w4.heap.size (.slice p L.length cap) := ((((O5.out.later hI.bel).far (by omega) _).far (by omega) _).far (by omega) _).far (by omega) _; have x9 : ExS (fun b => w7.heap.size ≤ b ∧ b < w8.heap.size) ((((w8.setCell ⟨w.heap.size, 0, none⟩ (.int .i64 o8)).setCell ⟨w.heap.size, 1, none⟩ (.int .i64 n8)).setCell ⟨w.heap.size, 2, none⟩ (.string s8)).setCell ⟨w.heap.size, 3, none⟩ (.slice p8 k8 c8)) (xv o8 n8 s8 (.slice p8 k8 c8)) x := ex_away4 hF (fun q => by have := q.1; omega) _ _ _ _; have HH := Lib.hid h9; have BB := Lib.hid b9; have SS := Lib.hid s9; have KK := Lib.hid k9; have OO := Lib.hid o9; have XX := Lib.hid x9; have SF := Lib.hid hI.suf.2; clear hT hI hF h8 h9 b9 s9 k9 o9 x9 t7)))
  obtain ⟨W9, hW9⟩ : ∃ W9, ((((w8.setCell ⟨w.heap.size, 0, none⟩ (.int .i64 o8)).setCell ⟨w.heap.size, 1, none⟩ (.int .i64 n8)).setCell ⟨w.heap.size, 2, none⟩ (.string s8)).setCell ⟨w.heap.size, 3, none⟩ (.slice p8 k8 c8)) = W9 := ⟨_, rfl⟩
  rw [hW9] at HH BB SS KK OO XX ⊢
  clear hW9 e0 e1 e2 e3 f0 f1 f2 f3 l0 l1 r0 r1
  have h9 := HH.out
  have b9 := BB.out
  have s9 := SS.out
  have u0 := b9.cell 0
  have u1 := b9.cell 1
  change W9.cell? _ = some (.slice p L.length cap) at u0
  change W9.cell? _ = some (.int .i64 (pos L r)) at u1
  have u4 := OO.out.c0
  have hposr : pos L r = L.length - r.length := rfl
  have hrl := hrs.2
  have hlt : pos L r < L.length := by omega
  have hlt2 : ((pos L r : Nat) : Int) < (L.length : Int) := by omega
  have hpl : pos L r ≤ 16384 := by omega
  clear h9 b9 hposr z5 s9
  go_region_held3 (fun w' => w'.cell? ⟨W5.heap.size, 1, none⟩ = some (.int .i64 (pos L r)) ∧ w'.cell? ⟨w4.heap.size, 0, none⟩ = some (.slice p L.length cap)) (first | exact ⟨u1, u4⟩ | (go_keep; done)) (fail)
  all_goals
    have W9b : Below W9.heap.size W9 W9.drew := (Below.refl _ _).drew
    have FC := Lib.hid (fault_blk (W := W9.drew) rfl hrl (BB.out.later W9b))
    have TKA : Hid (ToksAt W9 (.slice p L.length cap) L) := Lib.hid (ToksAt.ofOwn KK.out)
    go_wp2_with (go_at_call 25; ((with_reducible refine FC.out.mono ?_); rintro e wA ⟨rfl, hb⟩; have hb2 := W9b.then_ hb; have HA := Lib.hid (HH.out.later hb2); have TA := Lib.hid ((hb2.cell (p := ⟨w4.heap.size, 0, none⟩) (cell_lt u4)).trans u4); have TKB := Lib.hid (TKA.out.later hb2); clear hb hb2))
    refine leaves_cons (f := 21) (args := #[.pointer (some ⟨w4.heap.size, 0, none⟩), .pointer (some ⟨w.heap.size, 0, none⟩), .pointer (some ⟨w.heap.size + 1, 0, none⟩), .pointer (some ⟨w.heap.size + 2, 0, none⟩)]) (by simp) (by simp [go_sem]) ?_
    refine (parse_catch (L := L) w.heap.size w wA (fErr r) (pos L r) [] HA.out TA.out (by omega) TKB.out hl16 (by omega)).mono ?_
    rintro e u' w' ⟨rfl, rfl, h9⟩
    have z0 := h9.f.c0
    have z1 := h9.f.c1
    have z2 := h9.f.c2
    have z3 := h9.f.c3
    have z4 := h9.l.c0
    have z5 := h9.r.c0
    refine leaves_ret (v := .tuple #[xv 0 0 ⟨#[]⟩ (.slice none 0 0), .int .i64 (lineOf L (pos L r)), .int .i64 (fErr r)]) (by simp [results, Tryz.results11, go_sem, z0, z1, z2, z3, z4, z5]) ?_
    have hfe : fErr r = 5 := if_neg hz
    rw [hfe] at h9 ⊢
    exact h9.zero
end Go.Proofs.YtlnomiiphlbamaaGreatDoor.EtW
namespace Go.Proofs.YtlnomiiphlbamaaGreatDoor.EtW
open Go Go.RowKit Go.Proofs.YtlnomiiphlbamaaGreatDoor.NumM Go.Proofs.YtlnomiiphlbamaaGreatDoor.LexW Go.Proofs.YtlnomiiphlbamaaGreatDoor.LexM Go.Proofs.YtlnomiiphlbamaaGreatDoor.ExM Go.Proofs.YtlnomiiphlbamaaGreatDoor.ExW Go.Proofs.YtlnomiiphlbamaaGreatDoor.EtM

set_option maxRecDepth 100000 in
set_option maxHeartbeats 8000000 in
theorem parse_done (s : ByteArray) (w : World) (ht : TabE w) {L : List Tk} {ln : Int} (hq : tokS s.data.toList = (L, ln, 0)) {x : Ex} {r : List Tk} (hr : res .ch L = .ok x r) (hz : r.length = 0) : Calls Tryz.prog 11 #[.string s] w (tTri (fin L (.ok x r)) w) := by
  have hrs := res_sz hr
  have hsz : sz x ≤ 2000000 := by have := tokS_good s.data.toList; rw [hq] at this; have := this.1; dsimp only at this; omega
  have RS := Lib.hid hr
  clear hr
  rw [fin_ok hz]
  obtain ⟨N1, hN1⟩ : ∃ v, (if vld x ≠ 0 then (0 : Int) else 0) = v := ⟨_, rfl⟩
  obtain ⟨X1, hX1⟩ : ∃ v, (if vld x ≠ 0 then zEx else x) = v := ⟨_, rfl⟩
  obtain ⟨V1, hV1⟩ : ∃ v, vld x = v := ⟨_, rfl⟩
  rw [hN1, hX1, hV1]
  have HN1 := Lib.hid hN1
  have HX1 := Lib.hid hX1
  have HV1 := Lib.hid hV1
  clear hN1 hX1 hV1
  have hmf : ∀ (fn : Fn) (first cap : Array Value) (w : World), (Instr.makeFunc fn first cap).run Tryz.prog w = .ok (.func fn first cap) w := fun _ _ _ _ => rfl
  have hb3 : Below w.heap.size w (((w.alloc (.cells #[.int .i64 0, .int .i64 0, .string ⟨#[]⟩, .slice none 0 0] 24)).alloc (.cells #[.int .i64 0] 3)).alloc (.cells #[.int .i64 0] 28)) := (((Below.refl _ _).alloc (Nat.le_refl _) _).alloc (by simp) _).alloc (by simp; omega) _
  have h3 : O3 w.heap.size w (((w.alloc (.cells #[.int .i64 0, .int .i64 0, .string ⟨#[]⟩, .slice none 0 0] 24)).alloc (.cells #[.int .i64 0] 3)).alloc (.cells #[.int .i64 0] 28)) (.int .i64 0) (.int .i64 0) (.string ⟨#[]⟩) (.slice none 0 0) (.int .i64 0) (.int .i64 0) := by
    have a := ((Four.new w (.int .i64 0) (.int .i64 0) (.string ⟨#[]⟩) (.slice none 0 0) 24).alloc (.cells #[.int .i64 0] 3)).alloc (.cells #[.int .i64 0] 28)
    have b := (One.new (w.alloc (.cells #[.int .i64 0, .int .i64 0, .string ⟨#[]⟩, .slice none 0 0] 24)) (.int .i64 0) 3).later ((Below.refl _ _).alloc (Nat.le_refl _) (.cells #[.int .i64 0] 28))
    have c := One.new ((w.alloc (.cells #[.int .i64 0, .int .i64 0, .string ⟨#[]⟩, .slice none 0 0] 24)).alloc (.cells #[.int .i64 0] 3)) (.int .i64 0) 28
    rw [World.size_alloc] at b
    rw [World.size_alloc, World.size_alloc] at c
    exact ⟨hb3, a, b, c⟩
  have TC0 := tokens_any s (((w.alloc (.cells #[.int .i64 0, .int .i64 0, .string ⟨#[]⟩, .slice none 0 0] 24)).alloc (.cells #[.int .i64 0] 3)).alloc (.cells #[.int .i64 0] 28)) (ht.base.later hb3)
  rw [hq] at TC0
  have TC := Lib.hid TC0
  have H3 := Lib.hid h3
  have HT := Lib.hid ht
  have hg := tokS_good s.data.toList
  rw [hq] at hg
  have hl16 : L.length ≤ 16384 := hg.1
  have HG := Lib.hid hg.2
  have e0 := h3.f.c0; have e1 := h3.f.c1; have e2 := h3.f.c2; have e3 := h3.f.c3; have f0 := h3.f.f0; have f1 := h3.f.f1; have f2 := h3.f.f2; have f3 := h3.f.f3; have l0 := h3.l.c0; have l1 := h3.l.f0; have r0 := h3.r.c0; have r1 := h3.r.f0
  clear TC0 h3 hb3 ht hq hg
  go_enter_defers Tryz.func11, Tryz.ntmps11
  go_upto_region 2 with ((go_at_call 20; ((with_reducible refine TC.out.mono ?_); rintro e w4 ⟨v, rfl, hown, hb⟩; obtain ⟨p, cap, hv, hcap, hx⟩ := ToksAt.ofOwn hown; subst hv; clear hcap hx; have hb4 := (Below.refl w4.heap.size w4).alloc (Nat.le_refl _) (.cells #[.slice p L.length cap] 34); have h4' := (H3.out.later hb).later hb4; have h5' : O3 w.heap.size w (((w4.alloc (.cells #[.slice p L.length cap] 34)).setCell ⟨w.heap.size + 1, 0, none⟩ (.int .i64 ln)).setCell ⟨w.heap.size + 1 + 1, 0, none⟩ (.int .i64 0)) (.int .i64 0) (.int .i64 0) (.string ⟨#[]⟩) (.slice none 0 0) (.int .i64 ln) (.int .i64 0) := (h4'.putL (.int .i64 ln)).putR (.int .i64 0); have l4 := hb.size; rw [World.size_alloc, World.size_alloc, World.size_alloc] at l4; have q0 := h4'.l.c0; have q1 := h4'.l.f0; have q2 := (h4'.putL (.int .i64 ln)).r.c0; have q3 := (h4'.putL (.int .i64 ln)).r.f0; have k5 := own_grown (own_grown (hown.alloc (.cells #[.slice p L.length cap] 34)) (grownBy_set _ (w.heap.size + 1) 0 (.int .i64 ln)) (fun b hb e => by have a1 := (own_lt hown b hb).1; have a2 := Option.some.inj e; simp only [World.size_alloc] at a1; omega)) (grownBy_set _ (w.heap.size + 1 + 1) 0 (.int .i64 0)) (fun b hb e => by have a1 := (own_lt hown b hb).1; have a2 := Option.some.inj e; simp only [World.size_alloc] at a1; omega); have o5 := ((One.new w4 (.slice p L.length cap) 34).far (b := w.heap.size + 1) (o := 0) (by omega) (.int .i64 ln)).far (b := w.heap.size + 1 + 1) (o := 0) (by omega) (.int .i64 0); have z5 : (((w4.alloc (.cells #[.slice p L.length cap] 34)).setCell ⟨w.heap.size + 1, 0, none⟩ (.int .i64 ln)).setCell ⟨w.heap.size + 1 + 1, 0, none⟩ (.int .i64 0)).heap.size = w4.heap.size + 1 := (by simp only [setCell_size, World.size_alloc]); clear e0 e1 e2 e3 f0 f1 f2 f3 l0 l1 r0 r1; have e0 := h5'.f.c0; have e1 := h5'.f.c1; have e2 := h5'.f.c2; have e3 := h5'.f.c3; have f0 := h5'.f.f0; have f1 := h5'.f.f1; have f2 := h5'.f.f2; have f3 := h5'.f.f3; have l0 := h5'.l.c0; have l1 := h5'.l.f0; have r0 := h5'.r.c0; have r1 := h5'.r.f0; have H5 := Lib.hid h5'; have O5 := Lib.hid o5; have K5 := Lib.hid k5; have Z5 := Lib.hid z5; have t5 := o5.c0; clear hb hb4 h5' h4' hown k5 o5 z5)))
  obtain ⟨W5, hW5⟩ : ∃ W5, (((w4.alloc (.cells #[.slice p L.length cap] 34)).setCell ⟨w.heap.size + 1, 0, none⟩ (.int .i64 ln)).setCell ⟨w.heap.size + 1 + 1, 0, none⟩ (.int .i64 0)) = W5 := ⟨_, rfl⟩
  rw [hW5] at H5 O5 K5 Z5 t5 e0 e1 e2 e3 f0 f1 f2 f3 l0 l1 r0 r1 ⊢
  clear hW5 q0 q1 q2 q3
  have z5 := Z5.out
  have hb5 := H5.out.b
  have HCX : Hid (Cx L (.slice p L.length cap) W5) := Lib.hid ⟨HT.out.later hb5, ToksAt.ofOwn K5.out, fun t h => (HG.out t h).1, hl16, fun t h => (HG.out t h).2⟩
  have PAC := Lib.hid (parserAt_any HCX.out)
  clear hb5
  have KW : Hid (Kw w W5 L (.slice p L.length cap)) := Lib.hid ⟨by have := K5.out; simpa only [World.size_alloc] using this⟩
  go_upto_region 7 with (first
    | (go_at_call 23; ((with_reducible refine PAC.out.mono ?_); rintro e w7 ⟨rfl, hI⟩; have h7' := H5.out.later hI.bel; have l7 := hI.bel.size; have t7 := (hI.bel.cell (p := ⟨w4.heap.size, 0, none⟩) (cell_lt O5.out.c0)).trans O5.out.c0; clear t5; clear e0 e1 e2 e3 f0 f1 f2 f3 l0 l1 r0 r1; have e0 := h7'.f.c0; have e1 := h7'.f.c1; have e2 := h7'.f.c2; have e3 := h7'.f.c3; have f0 := h7'.f.f0; have f1 := h7'.f.f1; have f2 := h7'.f.f2; have f3 := h7'.f.f3; have l0 := h7'.l.c0; have l1 := h7'.l.f0; have r0 := h7'.r.c0; have r1 := h7'.r.f0; have H7 := Lib.hid h7'; have CC := Lib.hid (choice_res HCX.out hI); have HI7 := Lib.hid hI; rw [RS.out] at CC; clear h7' hI))
    | (go_at_call 24; ((with_reducible refine CC.out.mono ?_); rintro e w8 ⟨o8, n8, s8, p8, k8, c8, rfl, hT, hI, hF⟩; have h8 := H7.out.turn hT (by omega); have l8 := hT.size; clear e0 e1 e2 e3 f0 f1 f2 f3 l0 l1 r0 r1; have e0 := h8.f.c0; have e1 := h8.f.c1; have e2 := h8.f.c2; have e3 := h8.f.c3; have f0 := h8.f.f0; have f1 := h8.f.f1; have f2 := h8.f.f2; have f3 := h8.f.f3; have l0 := h8.l.c0; have l1 := h8.l.f0; have r0 := h8.r.c0; have r1 := h8.r.f0; have h9 : O3 w.heap.size w ((((w8.setCell ⟨w.heap.size, 0, none⟩ (.int .i64 o8)).setCell ⟨w.heap.size, 1, none⟩ (.int .i64 n8)).setCell ⟨w.heap.size, 2, none⟩ (.string s8)).setCell ⟨w.heap.size, 3, none⟩ (.slice p8 k8 c8)) (.int .i64 o8) (.int .i64 n8) (.string s8) (.slice p8 k8 c8) (.int .i64 ln) (.int .i64 0) := h8.putE _ _ _ _; have b9 : Blk ((((w8.setCell ⟨w.heap.size, 0, none⟩ (.int .i64 o8)).setCell ⟨w.heap.size, 1, none⟩ (.int .i64 n8)).setCell ⟨w.heap.size, 2, none⟩ (.string s8)).setCell ⟨w.heap.size, 3, none⟩ (.slice p8 k8 c8)) W5.heap.size (.slice p L.length cap) (pos L r) (hdT r) := hI.blk.put (by omega) _ _ _ _; have s9 : ((((w8.setCell ⟨w.heap.size, 0, none⟩ (.int .i64 o8)).setCell ⟨w.heap.size, 1, none⟩ (.int .i64 n8)).setCell ⟨w.heap.size, 2, none⟩ (.string s8)).setCell ⟨w.heap.size, 3, none⟩ (.slice p8 k8 c8)).heap.size = w8.heap.size := (by simp only [setCell_size]); have k9 : ((((w8.setCell ⟨w.heap.size, 0, none⟩ (.int .i64 o8)).setCell ⟨w.heap.size, 1, none⟩ (.int .i64 n8)).setCell ⟨w.heap.size, 2, none⟩ (.string s8)).setCell ⟨w.heap.size, 3, none⟩ (.slice p8 k8 c8)).ownsRow (w.heap.size + 3) 41 4 (.slice p L.length cap) L.length (tkCells L) := own_grown (own_grown (own_grown (own_grown ((KW.out.grow hI.bel)) (grownBy_set _ _ _ _) (fun b hb e => by have a1 := KW.out.base b hb; have a2 := Option.some.inj e; omega)) (grownBy_set _ _ _ _) (fun b hb e => by have a1 := KW.out.base b hb; have a2 := Option.some.inj e; omega)) (grownBy_set _ _ _ _) (fun b hb e => by have a1 := KW.out.base b hb; have a2 := Option.some.inj e; omega)) (grownBy_set _ _ _ _) (fun b hb e => by have a1 := KW.out.base b hb; have a2 := Option.some.inj e; omega); have o9 : One ((((w8.setCell ⟨w.heap.size, 0, none⟩ (.int .i64 o8)).setCell ⟨w.heap.size, 1, none⟩ (.int .i64 n8)).setCell ⟨w.heap.size, 2, none⟩ (.string s8)).setCell ⟨w.heap.size, 3, none⟩ (.slice p8 k8 c8)) w4.heap.size (.slice p L.length cap) := ((((O5.out.later hI.bel).far (by omega) _).far (by omega) _).far (by omega) _).far (by omega) _; have x9 : ExS (fun b => w7.heap.size ≤ b ∧ b < w8.heap.size) ((((w8.setCell ⟨w.heap.size, 0, none⟩ (.int .i64 o8)).setCell ⟨w.heap.size, 1, none⟩ (.int .i64 n8)).setCell ⟨w.heap.size, 2, none⟩ (.string s8)).setCell ⟨w.heap.size, 3, none⟩ (.slice p8 k8 c8)) (xv o8 n8 s8 (.slice p8 k8 c8)) x := ex_away4 hF (fun q => by have := q.1; omega) _ _ _ _; have HH := Lib.hid h9; have BB := Lib.hid b9; have SS := Lib.hid s9; have KK := Lib.hid k9; have OO := Lib.hid o9; have XX := Lib.hid x9; have SF := Lib.hid hI.suf.2; clear hT hI hF h8 h9 b9 s9 k9 o9 x9 t7)))
  obtain ⟨W9, hW9⟩ : ∃ W9, ((((w8.setCell ⟨w.heap.size, 0, none⟩ (.int .i64 o8)).setCell ⟨w.heap.size, 1, none⟩ (.int .i64 n8)).setCell ⟨w.heap.size, 2, none⟩ (.string s8)).setCell ⟨w.heap.size, 3, none⟩ (.slice p8 k8 c8)) = W9 := ⟨_, rfl⟩
  rw [hW9] at HH BB SS KK OO XX ⊢
  clear hW9 e0 e1 e2 e3 f0 f1 f2 f3 l0 l1 r0 r1
  have h9 := HH.out
  have b9 := BB.out
  have s9 := SS.out
  have u0 := b9.cell 0
  have u1 := b9.cell 1
  change W9.cell? _ = some (.slice p L.length cap) at u0
  change W9.cell? _ = some (.int .i64 (pos L r)) at u1
  have u4 := OO.out.c0
  have hposr : pos L r = L.length - r.length := rfl
  have hrl := hrs.2
  have hlt : ¬ pos L r < L.length := by omega
  have hlt2 : ¬ ((pos L r : Nat) : Int) < (L.length : Int) := by omega
  have h5l := H5.out.r.lt
  have i7 := l7
  clear h9 b9 hposr z5
  go_region_held3 (fun w' => w'.cell? ⟨W5.heap.size, 1, none⟩ = some (.int .i64 (pos L r)) ∧ w'.cell? ⟨w4.heap.size, 0, none⟩ = some (.slice p L.length cap)) (first | exact ⟨u1, u4⟩ | (go_keep; done)) (fail)
  all_goals
    have W9b : Below W9.heap.size W9 W9.drew := (Below.refl _ _).drew
    have X9 : ExS (fun b => w7.heap.size ≤ b ∧ b < w8.heap.size) W9.drew (xv o8 n8 s8 (.slice p8 k8 c8)) x := XX.out.kept (fun _ q => q) (fun b i q v hv => (W9b.cell (p := ⟨b, i, none⟩) (by have := q.2; show b < W9.heap.size; omega)).trans hv)
    have CKC0 := (checked_any (w := W9.drew) 0 X9 (fun b q => by have := q.2; show b < W9.heap.size; omega) hsz ((HT.out.base.later HH.out.b).later W9b))
    unfold tChk at CKC0
    rw [HN1.out, HX1.out, HV1.out] at CKC0
    have CKC := Lib.hid CKC0
    clear CKC0
    have e0 := (HH.out.later W9b).f.c0
    have e1 := (HH.out.later W9b).f.c1
    have e2 := (HH.out.later W9b).f.c2
    have e3 := (HH.out.later W9b).f.c3
    clear X9
    go_wp2_with (go_at_call 26; ((with_reducible refine CKC.out.mono ?_); rintro e wA ⟨oA, nA, sA, pA, kA, cA, rfl, hb, hX⟩; have hb2 := W9b.then_ hb; have hA := HH.out.later hb2; have ae0 := hA.f.c0; have ae1 := hA.f.c1; have ae2 := hA.f.c2; have ae3 := hA.f.c3; have af0 := hA.f.f0; have af1 := hA.f.f1; have af2 := hA.f.f2; have af3 := hA.f.f3; have al0 := hA.l.c0; have al1 := hA.l.f0; have ar0 := hA.r.c0; have ar1 := hA.r.f0; have hA2 := hA.putE (.int .i64 oA) (.int .i64 nA) (.string sA) (.slice pA kA cA); have c4 := hA2.l.c0; have c5 := hA2.l.f0; have hA3 := hA2.putL (.int .i64 N1); have c6 := hA3.r.c0; have c7 := hA3.r.f0; have HAP := Lib.hid (hA3.putR (.int .i64 V1)); have XA := Lib.hid hX; have HBA := Lib.hid hb2; clear hb hX hb2 hA hA2 hA3))
    refine leaves_cons (f := 21) (args := #[.pointer (some ⟨w4.heap.size, 0, none⟩), .pointer (some ⟨w.heap.size, 0, none⟩), .pointer (some ⟨w.heap.size + 1, 0, none⟩), .pointer (some ⟨w.heap.size + 2, 0, none⟩)]) (by simp) (by simp [go_sem]) ?_
    refine (parse_idle _ _ _ _ _).mono ?_
    rintro e u' w' ⟨rfl, rfl, hbz⟩
    have h9 := HAP.out.later hbz
    have z0 := h9.f.c0
    have z1 := h9.f.c1
    have z2 := h9.f.c2
    have z3 := h9.f.c3
    have z4 := h9.l.c0
    have z5 := h9.r.c0
    refine leaves_ret (v := .tuple #[xv oA nA sA (.slice pA kA cA), .int .i64 N1, .int .i64 V1]) (by simp [results, Tryz.results11, go_sem, z0, z1, z2, z3, z4, z5]) ?_
    have sA1 := HBA.out.size
    refine ⟨_, _, _, _, _, _, rfl, h9.b, ?_⟩
    have XB : ExS (fun b => w7.heap.size ≤ b ∧ b < w8.heap.size) _ (xv oA nA sA (.slice pA kA cA)) X1 := ex_away (ex_away (ex_away4 XA.out (g := w.heap.size) (fun q => by have := q.1; omega) (.int .i64 oA) (.int .i64 nA) (.string sA) (.slice pA kA cA)) (g := w.heap.size + 1) (o := 0) (fun q => by have := q.1; omega) (.int .i64 N1)) (g := w.heap.size + 2) (o := 0) (fun q => by have := q.1; omega) (.int .i64 V1)
    exact XB.kept (fun b q => ⟨by have := q.1; omega, Nat.lt_of_lt_of_le (by simp only [setCell_size]; have := q.2; omega) hbz.size⟩) (fun b i q v hv => (hbz.cell (p := ⟨b, i, none⟩) (by simp only [setCell_size]; have := q.2; omega)).trans hv)
/-- Parse. -/
theorem parse_any (s : ByteArray) (w : World) (ht : TabE w) : Calls Tryz.prog 11 #[.string s] w (tTri (parS s.data.toList) w) := by
  rcases hq : tokS s.data.toList with ⟨L, ln, er⟩
  by_cases he : er ≠ 0
  · rw [parS_err hq he]
    exact parse_lex s w ht hq he
  · simp only [ne_eq, Decidable.not_not] at he
    subst he
    rw [parS_ok hq]
    rcases hr : res .ch L with ⟨x, r⟩ | ⟨er, k⟩ | _
    · by_cases hz : r.length = 0
      · exact parse_done s w ht hq hr hz
      · rw [fin_no hz]
        exact parse_more s w ht hq hr hz
    · exact parse_bad s w ht hq hr
    · exact absurd hr (res_ne _ _)
end Go.Proofs.YtlnomiiphlbamaaGreatDoor.EtW
