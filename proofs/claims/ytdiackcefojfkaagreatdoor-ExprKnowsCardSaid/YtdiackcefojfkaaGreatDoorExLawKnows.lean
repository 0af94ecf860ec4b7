/-
  Which names get a value, and whether all of them have one; with no Go in sight.
  What the law on names holds in memory: a box, two lists of names and a list of signals, each in a row of its own.
  The walk of ExprKnows.
-/
import Derived.Test.YtdiackcefojfkaaGreatDoorExReplM
import Derived.Test.YtdiackcefojfkaaGreatDoorExKids
import Derived.Test.YtdiackcefojfkaaGreatDoorExSigO
import Derived.Test.YtdiackcefojfkaaGreatDoorExShapeR
import Derived.Test.YtdiackcefojfkaaGreatDoorExAwakeW
import Derived.BigQuiet
namespace Go.Proofs.YtdiackcefojfkaaGreatDoor.ExM
open Go Go.Proofs.YtdiackcefojfkaaGreatDoor.WordM Go.Proofs.YtdiackcefojfkaaGreatDoor.LexM Go.Proofs.YtdiackcefojfkaaGreatDoor.LexW Go.Proofs.YtdiackcefojfkaaGreatDoor.ExW

/-- Does the name at this place get a value? -/
def givB (ms : List Bool) (i : Nat) : Bool := match ms[i]? with
  | none => true
  | some b => !b
theorem giv_out {ms : List Bool} {i : Nat} (h : ms.length ≤ i) : givB ms i = true := by
  unfold givB; rw [List.getElem?_eq_none h]
theorem giv_at {ms : List Bool} {i : Nat} {b : Bool} (h : ms[i]? = some b) : givB ms i = !b := by unfold givB; rw [h]
/-- The signals for the first k names. -/
def envK (ms : List Bool) (ns : List ByteArray) : Nat → Env
  | 0 => []
  | k + 1 => match ns[k]? with
    | none => envK ms ns k
    | some s => if givB ms k = true then envK ms ns k ++ [(s, 3 + (k : Int))] else envK ms ns k
theorem envK_zero (ms : List Bool) (ns : List ByteArray) : envK ms ns 0 = [] := rfl
theorem envK_yes {ms : List Bool} {ns : List ByteArray} {k : Nat} {s : ByteArray} (h : ns[k]? = some s) (g : givB ms k = true) : envK ms ns (k + 1) = envK ms ns k ++ [(s, 3 + (k : Int))] := by
  rw [envK, h]; simp only [g, if_true]
theorem envK_no {ms : List Bool} {ns : List ByteArray} {k : Nat} {s : ByteArray} (h : ns[k]? = some s) (g : givB ms k = false) : envK ms ns (k + 1) = envK ms ns k := by
  rw [envK, h]; simp [g]
theorem envK_len (ms : List Bool) (ns : List ByteArray) (k : Nat) : (envK ms ns k).length ≤ k := by
  induction k with
  | zero => simp [envK]
  | succ k ih =>
    cases h : ns[k]? with
    | none => rw [envK, h]; simp only; omega
    | some s =>
      cases g : givB ms k
      · rw [envK_no h g]; omega
      · rw [envK_yes h g]; simp; omega
/-- Is there a signal with the name? -/
def fdB (env : Env) (s : ByteArray) : Bool := env.any fun x => x.1.toList == s.toList
theorem fd_nil (s : ByteArray) : fdB [] s = false := rfl
theorem fd_take {env : Env} {k : Nat} {x : ByteArray × Int} (s : ByteArray) (h : env[k]? = some x) : fdB (env.take (k + 1)) s = (fdB (env.take k) s || (x.1.toList == s.toList)) := by
  obtain ⟨hk, he⟩ := List.getElem?_eq_some_iff.1 h
  unfold fdB
  rw [List.take_succ_eq_append_getElem hk, List.any_append, he]; simp
theorem fd_has (env : Env) (s : ByteArray) : fdB env s = hasN env s := by
  rw [Bool.eq_iff_iff, has_iff]
  unfold fdB
  rw [List.any_eq_true]
  constructor
  · rintro ⟨x, hx, e⟩
    refine ⟨x, hx, ?_⟩
    rw [Lib.toList_data, Lib.toList_data] at e
    simpa using e
  · rintro ⟨x, hx, e⟩
    refine ⟨x, hx, ?_⟩
    rw [Lib.toList_data, Lib.toList_data, e]; simp
/-- Do all names have one? -/
def alB (env : Env) (ns : List ByteArray) : Bool := ns.all (hasN env)
theorem al_take {env : Env} {ns : List ByteArray} {k : Nat} {s : ByteArray} (h : ns[k]? = some s) : alB env (ns.take (k + 1)) = (alB env (ns.take k) && hasN env s) := by
  obtain ⟨hk, he⟩ := List.getElem?_eq_some_iff.1 h
  unfold alB
  rw [List.take_succ_eq_append_getElem hk, List.all_append, he]; simp
theorem al_needs (env : Env) (e : Ex) : alB env (needs e) = kn env e := by
  rw [Bool.eq_iff_iff, kn_needs]
  unfold alB
  rw [List.all_eq_true]
theorem needs_len (e : Ex) : (needs e).length ≤ 2 * sz e := by
  unfold needs
  have h1 := names_len isVr (pre 1 e)
  have h2 := names_len isAr (pre 1 e)
  rw [pre_len] at h1 h2
  rw [List.length_append, List.length_map]; omega
theorem ar_size {e : Ex} (h : Ok e) : ∀ a ∈ namesL isAr (pre 1 e), a.size ≤ 100 := fun a ha => by
  obtain ⟨⟨lv, o, n, s, k⟩, hx, hp, rfl⟩ := (names_mem _ _ _).1 ha
  exact flt_name ((ok_at e 1).1 h _ hx) (by unfold isAr at hp; simpa using hp)
theorem knows_eval {env : Env} {e : Ex} (h : vld e = 0) : (evalS env e).2 = if kn env e = true then 0 else 7 := by
  unfold evalS
  rw [if_pos h]
  split <;> rfl
end Go.Proofs.YtdiackcefojfkaaGreatDoor.ExM
namespace Go.Proofs.YtdiackcefojfkaaGreatDoor.ExW
open Go Go.RowKit Go.Proofs.YtdiackcefojfkaaGreatDoor.NumM Go.Proofs.YtdiackcefojfkaaGreatDoor.LexW Go.Proofs.YtdiackcefojfkaaGreatDoor.LexM Go.Proofs.YtdiackcefojfkaaGreatDoor.ExM

theorem own_base {w : World} {b b' : Nat} {e : TypeId} {size n : Nat} {v : Value} {xs : List Value} (h : w.ownsRow b e size v n xs) (hb : b' ≤ b) : w.ownsRow b' e size v n xs :=
  ⟨h.1, h.2.imp id fun ⟨g, cap, cur, hv, hB, r⟩ => ⟨g, cap, cur, hv, Nat.le_trans hb hB, r⟩⟩
/-- A row of names. -/
abbrev RowN (lo : Nat) (W : World) (v : Value) (l : List ByteArray) : Prop := W.ownsRow lo 9 1 v l.length (l.map Value.string)
structure Kst (B lo : Nat) (w0 : World) (x0 x1 x2 x3 : Value) (ns A : List ByteArray) (env : Env) (vn va ve : Value) (W : World) : Prop where
  four : Four W B x0 x1 x2 x3
  hB : B < lo
  nms : RowN lo W vn ns
  arr : RowN lo W va A
  sig : W.ownsRow lo 47 2 ve env.length (sigCells env)
  apart : ∀ b, vn.ownBlock = some b → va.ownBlock ≠ some b
  low : Below B w0 W
  hlo : lo ≤ W.heap.size
section
variable {B lo : Nat} {w0 : World} {x0 x1 x2 x3 : Value} {ns A : List ByteArray} {env : Env} {vn va ve : Value} {W W' : World}
theorem Kst.later (h : Kst B lo w0 x0 x1 x2 x3 ns A env vn va ve W) (hb : Below W.heap.size W W') : Kst B lo w0 x0 x1 x2 x3 ns A env vn va ve W' :=
  ⟨h.four.stay hb, h.hB, row_later h.nms hb, row_later h.arr hb, row_later h.sig hb, h.apart, h.low.trans (hb.mono (by have := h.hB; have := h.hlo; omega)), Nat.le_trans h.hlo hb.size⟩
theorem Kst.addN {s : ByteArray} {g c : Nat} (h : Kst B lo w0 x0 x1 x2 x3 ns A env vn va ve W) (hown : W'.ownsRow lo 9 1 (.slice (some ⟨g, 0, none⟩) (ns.length + 1) c) (ns.length + 1) (ns.map Value.string ++ [.string s])) (hg : W.grownBy W' vn.ownBlock) (hat : vn.ownBlock = some g ∨ g = W.heap.size) :
    Kst B lo w0 x0 x1 x2 x3 (ns ++ [s]) A env (.slice (some ⟨g, 0, none⟩) (ns.length + 1) c) va ve W' := by
  have hvn := fun b e => own_lt h.nms b e
  have hva := fun b e => own_lt h.arr b e
  refine ⟨four_grown h.four hg (fun e => by have := (hvn _ e.symm).1; have := h.hB; omega), h.hB, ?_, own_grown h.arr hg (fun b e e2 => h.apart b e2 e), own_grown h.sig hg (fun b e => own_apart h.sig h.nms (by decide) b e), fun b e e2 => ?_, Below.grown h.low hg (by have := h.hB; have := h.hlo; omega) (fun k e => by have := (hvn k e).1; have := h.hB; omega), Nat.le_trans h.hlo hg.size⟩
  · show W'.ownsRow lo _ 1 _ (ns ++ [s]).length ((ns ++ [s]).map Value.string)
    rw [List.length_append, List.map_append]
    exact hown
  · obtain rfl : g = b := by simpa [Value.ownBlock] using e
    rcases hat with e3 | e3
    · exact h.apart _ e3 e2
    · have := (hva _ e2).2.1; omega
theorem Kst.addE {x : ByteArray × Int} {g c : Nat} (h : Kst B lo w0 x0 x1 x2 x3 ns A env vn va ve W) (hown : W'.ownsRow lo 47 2 (.slice (some ⟨g, 0, none⟩) (env.length + 1) c) (env.length + 1) (sigCells env ++ [.string x.1, .int .i64 x.2])) (hg : W.grownBy W' ve.ownBlock) :
    Kst B lo w0 x0 x1 x2 x3 ns A (env ++ [x]) vn va (.slice (some ⟨g, 0, none⟩) (env.length + 1) c) W' := by
  have hve := fun b e => own_lt h.sig b e
  refine ⟨four_grown h.four hg (fun e => by have := (hve _ e.symm).1; have := h.hB; omega), h.hB, own_grown h.nms hg (fun b e e2 => own_apart h.nms h.sig (by decide) b e e2), own_grown h.arr hg (fun b e e2 => own_apart h.arr h.sig (by decide) b e e2), ?_, h.apart, Below.grown h.low hg (by have := h.hB; have := h.hlo; omega) (fun k e => by have := (hve k e).1; have := h.hB; omega), Nat.le_trans h.hlo hg.size⟩
  rw [List.length_append, sigCells_snoc]
  exact hown
end
end Go.Proofs.YtdiackcefojfkaaGreatDoor.ExW
namespace Go.Proofs.YtdiackcefojfkaaGreatDoor.ExW
open Go Go.RowKit Go.Proofs.YtdiackcefojfkaaGreatDoor.NumM Go.Proofs.YtdiackcefojfkaaGreatDoor.LexW Go.Proofs.YtdiackcefojfkaaGreatDoor.LexM Go.Proofs.YtdiackcefojfkaaGreatDoor.ExM
open Go.«Sort»

theorem take_el {A : List ByteArray} {k : Nat} {s : ByteArray} (h : A[k]? = some s) (N : List ByteArray) : N ++ (A.take (k + 1)).map (fun x => elmN x 0) = (N ++ (A.take k).map (fun x => elmN x 0)) ++ [elmN s 0] := by
  obtain ⟨hk, he⟩ := List.getElem?_eq_some_iff.1 h
  rw [List.take_succ_eq_append_getElem hk, List.map_append, he, List.append_assoc]; rfl
theorem own_len {w : World} {base : Nat} {e : TypeId} {size n : Nat} {v : Value} {xs : List Value} (h : w.ownsRow base e size v n xs) : ∃ q c, v = .slice q n c := by
  rcases h.2 with ⟨h1, h2⟩ | ⟨g, cap, cur, hv, _⟩
  · exact ⟨none, 0, by rw [h1, h2]⟩
  · exact ⟨_, _, hv⟩
set_option maxRecDepth 100000 in
set_option maxHeartbeats 16000000 in
theorem exprKnows_any (a : Ex) (va0 : Value) (ms : List Bool) (mv : Value) (w : World) (hx : ExAt w.heap.size w va0 a) (hM : BoolsAt w mv ms) (ht : Tab w) : Calls Tryz.prog 10 #[va0, mv] w (fun e w' => e = .returned (.bool true) ∧ Below w.heap.size w w') := by
  obtain ⟨p, cap, pl, cl, rfl, _, _⟩ := hx.form
  obtain ⟨pm, cm, rfl, hml, _, hmp⟩ := hM
  have hb1 : Below w.heap.size w (w.alloc (.cells #[.int .i64 a.op, .int .i64 a.n, .string a.nm, .slice p a.args.length cap] 24)) := (Below.refl _ _).alloc (Nat.le_refl _) _
  have FA := Four.new w (.int .i64 a.op) (.int .i64 a.n) (.string a.nm) (.slice p a.args.length cap) 24
  have HB1 := Lib.hid hb1
  have HFA := Lib.hid FA
  have HMP := Lib.hid hmp
  have e0 := FA.c0
  have e1 := FA.c1
  have e2 := FA.c2
  have e3 := FA.c3
  have F1 : Hid (∀ W, Below w.heap.size w W → Calls Tryz.prog 11 #[xv a.op a.n a.nm (.slice p a.args.length cap), .int .i64 60] W (tBool (decide (sz a ≤ 60)) W)) := Lib.hid fun W hb => few_any a _ 60 W _ (by omega) (hx.under hb) hb.size
  have AW : Hid (∀ W, Below w.heap.size w W → Calls Tryz.prog 12 #[] W (tBool true W)) := Lib.hid fun W hb => awake_any W (ht.later hb)
  by_cases ha : sz a ≤ 60
  · rw [decide_eq_true ha] at F1
    have VE : Hid (∀ W, Below w.heap.size w W → Calls Tryz.prog 25 #[xv a.op a.n a.nm (.slice p a.args.length cap)] W (tInt (vld a) W)) := Lib.hid fun W hW => validR_any a _ W ((hx.under hW).wide hW.size) (by omega)
    by_cases hv : vld a = 0
    · have hok := ((vld_zero a).1 hv).1
      have has := ar_size hok
      have hn2 : (namesL isVr (pre 1 a)).length ≤ 60 := by have := names_len isVr (pre 1 a); rw [pre_len] at this; omega
      have hn3 : (namesL isAr (pre 1 a)).length ≤ 60 := by have := names_len isAr (pre 1 a); rw [pre_len] at this; omega
      have NM : Hid (∀ W, Below w.heap.size w W → Calls Tryz.prog 21 #[xv a.op a.n a.nm (.slice p a.args.length cap)] W (tNms (namesL isVr (pre 1 a)) W)) := Lib.hid fun W hW => namesR_any a _ W ((hx.under hW).wide hW.size) (by omega)
      have AR : Hid (∀ W, Below w.heap.size w W → Calls Tryz.prog 23 #[xv a.op a.n a.nm (.slice p a.args.length cap)] W (tNms (namesL isAr (pre 1 a)) W)) := Lib.hid fun W hW => arraysR_any a _ W ((hx.under hW).wide hW.size) (by omega)
      have EC : Hid (∀ W s, s ∈ namesL isAr (pre 1 a) → Calls Tryz.prog 37 #[.string s, .int .i64 0] W fun e w' => e = .returned (.string (elmN s 0)) ∧ W = w') := Lib.hid fun W s hs => elementR_any s 0 (by omega) (has s hs) W
      have EV : Hid (∀ env W u, SigsAt W u env → Below w.heap.size w W → Calls Tryz.prog 27 #[xv a.op a.n a.nm (.slice p a.args.length cap), u] W (tEv (evalS env a) W)) := Lib.hid fun env W u hu hW => eval_any env u _ a W ((hx.under hW).wide hW.size) hu (by omega) (ht.later hW)
      have KE : Hid (∀ env, (evalS env a).2 = if alB env (needs a) = true then 0 else 7) := Lib.hid fun env => by rw [knows_eval hv, al_needs]
      have ND : Hid (needs a = namesL isVr (pre 1 a) ++ (namesL isAr (pre 1 a)).map (fun s => elmN s 0)) := Lib.hid rfl
      have hS : (needs a).length ≤ 120 := by rw [ND.out, List.length_append, List.length_map]; omega
      rw [hv] at VE
      clear hx ht hb1 FA ha hv hok has hmp
      generalize needs a = S at *
      generalize namesL isVr (pre 1 a) = N at *
      generalize namesL isAr (pre 1 a) = A at *
      obtain ⟨EVA, hEVA⟩ : ∃ E : Env → Int × Int, (fun env => evalS env a) = E := ⟨_, rfl⟩
      have hev : ∀ env, evalS env a = EVA env := fun env => congrFun hEVA env
      have EV : Hid (∀ env W u, SigsAt W u env → Below w.heap.size w W → Calls Tryz.prog 27 #[xv a.op a.n a.nm (.slice p a.args.length cap), u] W (tEv (EVA env) W)) := Lib.hid fun env W u hu hW => by rw [← hev]; exact EV.out env W u hu hW
      have KE : Hid (∀ env, (EVA env).2 = if alB env S = true then 0 else 7) := Lib.hid fun env => by rw [← hev]; exact KE.out env
      clear hev hEVA
      generalize a.op = ao at *
      generalize a.n = an at *
      generalize a.nm = am at *
      generalize a.args.length = ak at *
      obtain ⟨i0, hi, hz0, hz1, hz2⟩ := info_parts infoS
      obtain ⟨j0, gi, gz0, gz1, gz2⟩ := info_parts infoSig
      go_enter Tryz.func10, Tryz.ntmps10
      go_wp2_with (first
        | (go_at_call 11; ((with_reducible refine (F1.out _ HB1.out).mono ?_); rintro e w2 ⟨rfl, hb⟩; have f4 := HFA.out.stay hb; clear e0 e1 e2 e3; have e0 := f4.c0; have e1 := f4.c1; have e2 := f4.c2; have e3 := f4.c3; have HF2 := Lib.hid f4; have HB2 := Lib.hid (HB1.out.then_ hb); clear hb f4))
        | (go_at_call 25; ((with_reducible refine (VE.out _ HB2.out).mono ?_); rintro e w3 ⟨rfl, hb⟩; have f4 := HF2.out.stay hb; clear e0 e1 e2 e3; have e0 := f4.c0; have e1 := f4.c1; have e2 := f4.c2; have e3 := f4.c3; have HF3 := Lib.hid f4; have HB3 := Lib.hid (HB2.out.then_ hb); clear hb f4))
        | (go_at_call 21; ((with_reducible refine (NM.out _ HB3.out).mono ?_); rintro e w5 ⟨v5, rfl, hown, hb⟩; have f4 := HF3.out.stay hb; clear e0 e1 e2 e3; have e0 := f4.c0; have e1 := f4.c1; have e2 := f4.c2; have e3 := f4.c3; have HF5 := Lib.hid f4; have HO5 := Lib.hid hown; have HB5 := Lib.hid (HB3.out.then_ hb); clear hb f4 hown))
        | (go_at_call 23; ((with_reducible refine (AR.out _ HB5.out).mono ?_); rintro e w6 ⟨v6, rfl, hown, hb⟩; obtain ⟨p6, c6, rfl, _, _⟩ := strs_own hown; clear e0 e1 e2 e3; have HF6 := Lib.hid (HF5.out.stay hb); have HO6 := Lib.hid hown; have HB56 := Lib.hid hb; have HB6 := Lib.hid (HB5.out.then_ hb); clear hb hown)))
      have KS : Hid (Kst w.heap.size (w.heap.size + 1) w (.int .i64 ao) (.int .i64 an) (.string am) (.slice p ak cap) N A [] v5 (.slice p6 A.length c6) (.slice none 0 0) w6) := Lib.hid
        ⟨HF6.out, by omega, own_base (row_later HO5.out HB56.out) (by have := HF3.out.lt; omega), own_base HO6.out (by have := HF5.out.lt; omega), World.ownsRow_nil _ _ _ _, fun b q1 q2 => by have := (own_lt HO5.out b q1).2.1; have := (own_lt HO6.out b q2).1; omega, HB6.out, by have := HF6.out.lt; omega⟩
      clear F1 VE NM AR HB1 HB2 HB3 HB5 HB6 HB56 HF2 HF3 HF5 HF6 HO5 HO6 HFA
      go_loopw [5, 7] (fun vn i wr => ∃ j : Nat, j ≤ A.length ∧ i = .int .i64 j ∧ Hid (Kst w.heap.size (w.heap.size + 1) w (.int .i64 ao) (.int .i64 an) (.string am) (.slice p ak cap) (N ++ (A.take j).map (fun s => elmN s 0)) A [] vn (.slice p6 A.length c6) (.slice none 0 0) wr)) (fun _ i _ => A.length - (intOf i).toNat)
      case atStart => exact ⟨0, Nat.zero_le _, rfl, Lib.hid (by rw [List.take_zero, List.map_nil, List.append_nil]; exact KS.out)⟩
      case round =>
        obtain ⟨j, hj, rfl, KS1⟩ := hrel
        clear KS
        by_cases hlt : j < A.length
        · obtain ⟨_, _, e6, _, hp6⟩ := strs_own KS1.out.arr
          cases e6
          obtain ⟨b6, o6, rfl, hc6⟩ := hp6 (by omega)
          obtain ⟨s, hs⟩ : ∃ s, A[j]? = some s := ⟨_, List.getElem?_eq_getElem hlt⟩
          have ca := hc6 j s hs
          have EC1 := Lib.hid (EC.out wr s (List.mem_of_getElem? hs))
          have TE := Lib.hid (take_el hs N)
          obtain ⟨q, qn, qc, rfl⟩ := own_slice KS1.out.nms
          have hl1 : (N ++ (A.take j).map (fun s => elmN s 0)).length ≤ 120 := by rw [List.length_append, List.length_map, List.length_take]; omega
          obtain ⟨ns1, hns1⟩ : ∃ x, N ++ (A.take j).map (fun s => elmN s 0) = x := ⟨_, rfl⟩
          rw [hns1] at KS1 TE hl1
          obtain ⟨es, hes⟩ : ∃ x, elmN s 0 = x := ⟨_, rfl⟩
          rw [hes] at EC1 TE
          have KL := Lib.hid (KS1.out.later ((Below.refl _ _).alloc (Nat.le_refl _) (.cells #[.string es] 9)))
          clear hc6 hp6 hs hns1 hes KS1
          go_wp2_with (first
            | (go_at_call 37; ((with_reducible refine EC1.out.mono ?_); rintro e w7 ⟨rfl, rfl⟩))
            | (at_builtin; (refine wpList_append_lies _ rfl _ _ 30 rfl (w.heap.size + 1) 9 i0 (.string ⟨#[]⟩) 1 16 Tryz.underlying30 hi hz0 hz1 hz2 rfl (by decide) _ ns1.length _ rfl KL.out.nms ⟨wr.heap.size, 0, none⟩ 1 1 [.string es] rfl rfl (by exact cell_one_at rfl _ _) (by simp [Value.oneCell']) (by omega) (by unfold maxLen; omega) (by omega) KL.out.hlo _ rfl ?_); intro g7 k7 w7 hown' hgrow hat _; have KS2 := Lib.hid (KL.out.addN hown' hgrow hat); clear hown' hgrow hat))
          go_roundw
          case rel => exact ⟨j + 1, by omega, by go_num, Lib.hid (by rw [TE.out]; exact KS2.out)⟩
          case measure => simp [intOf]; omega
        · have hA : A.take j = A := List.take_of_length_le (by omega)
          rw [hA, ← ND.out] at KS1
          obtain ⟨q5, c5, rfl, _, _⟩ := strs_own KS1.out.nms
          clear hA EC hn2 hn3 ND hi hz0 hz1 hz2
          obtain ⟨w7, rfl⟩ : ∃ x, x = wr := ⟨_, rfl⟩
          go_wp2
          go_loopw [8, 9] (fun ve i wr => ∃ k : Nat, k ≤ S.length ∧ i = .int .i64 k ∧ Hid (Kst w.heap.size (w.heap.size + 1) w (.int .i64 ao) (.int .i64 an) (.string am) (.slice p ak cap) S A (envK ms S k) (.slice q5 S.length c5) (.slice p6 A.length c6) ve wr)) (fun _ i _ => S.length - (intOf i).toNat)
          case atStart => exact ⟨0, Nat.zero_le _, rfl, Lib.hid (by rw [envK_zero]; exact KS1.out)⟩
          case round =>
            obtain ⟨k, hk, rfl, KS3⟩ := hrel
            clear KS1
            by_cases hlt2 : k < S.length
            · obtain ⟨_, _, e5, _, hp5⟩ := strs_own KS3.out.nms
              cases e5
              obtain ⟨b5, o5, rfl, hc5⟩ := hp5 (by omega)
              obtain ⟨s, hs⟩ : ∃ s, S[k]? = some s := ⟨_, List.getElem?_eq_getElem hlt2⟩
              have ca := hc5 k s hs
              obtain ⟨q8, n8, c8, rfl⟩ := own_slice KS3.out.sig
              have hl3 := envK_len ms S k
              have KL := Lib.hid (KS3.out.later ((Below.refl _ _).alloc (Nat.le_refl _) (.cells #[.string s, .int .i64 (3 + (k : Int))] 47)))
              clear hc5 hp5
              by_cases hm : ms.length ≤ k
              · have EY := Lib.hid (envK_yes hs (giv_out hm))
                have hge : ((ms.length : Int) ≤ (k : Int)) := by omega
                clear hs
                go_wp2_with (at_builtin; (refine wpList_append_lies _ rfl _ _ 35 rfl (w.heap.size + 1) 47 j0 (.agg #[.string ⟨#[]⟩, .int .i64 0]) 2 24 Tryz.underlying35 gi gz0 gz1 gz2 rfl (by decide) _ (envK ms S k).length _ rfl KL.out.sig ⟨wr.heap.size, 0, none⟩ 1 1 [.string s, .int .i64 (3 + (k : Int))] rfl rfl (World.news_of_block (cs := #[.string s, .int .i64 (3 + (k : Int))]) (heap_alloc_new _ _)) (by simp [Value.oneCell']) (by omega) (by unfold maxLen; omega) (by omega) KL.out.hlo _ rfl ?_); intro g7 k7 w7 hown' hgrow hat _; have KS4 := Lib.hid (KL.out.addE (x := (s, 3 + (k : Int))) hown' hgrow); clear hown' hgrow hat)
                go_roundw
                case rel => exact ⟨k + 1, by omega, by go_num, Lib.hid (by rw [EY.out]; exact KS4.out)⟩
                case measure => simp [intOf]; omega
              · obtain ⟨mb, hmb⟩ : ∃ b, ms[k]? = some b := ⟨_, List.getElem?_eq_getElem (by omega)⟩
                obtain ⟨bm, om, rfl, hbm, hcm⟩ := HMP.out (by omega)
                have cm0 := (KS3.out.low.cell (p := ⟨bm, om + k, none⟩) hbm).trans (hcm k mb hmb)
                clear hcm hbm
                cases mb
                · have EY := Lib.hid (envK_yes hs (by rw [giv_at hmb]; rfl))
                  clear hs hmb
                  go_wp2_with (at_builtin; (refine wpList_append_lies _ rfl _ _ 35 rfl (w.heap.size + 1) 47 j0 (.agg #[.string ⟨#[]⟩, .int .i64 0]) 2 24 Tryz.underlying35 gi gz0 gz1 gz2 rfl (by decide) _ (envK ms S k).length _ rfl KL.out.sig ⟨wr.heap.size, 0, none⟩ 1 1 [.string s, .int .i64 (3 + (k : Int))] rfl rfl (World.news_of_block (cs := #[.string s, .int .i64 (3 + (k : Int))]) (heap_alloc_new _ _)) (by simp [Value.oneCell']) (by omega) (by unfold maxLen; omega) (by omega) KL.out.hlo _ rfl ?_); intro g7 k7 w7 hown' hgrow hat _; have KS4 := Lib.hid (KL.out.addE (x := (s, 3 + (k : Int))) hown' hgrow); clear hown' hgrow hat)
                  go_roundw
                  case rel => exact ⟨k + 1, by omega, by go_num, Lib.hid (by rw [EY.out]; exact KS4.out)⟩
                  case measure => simp [intOf]; omega
                · have EN := Lib.hid (envK_no hs (by rw [giv_at hmb]; rfl))
                  clear hs hmb
                  go_wp2
                  go_roundw
                  case rel => exact ⟨k + 1, by omega, by go_num, Lib.hid (by rw [EN.out]; exact KS3.out)⟩
                  case measure => simp [intOf]; omega
            · have hel : (envK ms S k).length ≤ 120 := by have := envK_len ms S k; omega
              obtain ⟨env, henv⟩ : ∃ x, envK ms S k = x := ⟨_, rfl⟩
              rw [henv] at KS3 hel
              obtain ⟨q8, c8, rfl⟩ := own_len KS3.out.sig
              clear henv
              obtain ⟨w8, rfl⟩ : ∃ x, x = wr := ⟨_, rfl⟩
              go_wp2
              go_loopw [10, 11] (fun al i wr => ∃ m : Nat, m ≤ S.length ∧ i = .int .i64 m ∧ al = .bool (alB env (S.take m)) ∧ Hid (Kst w.heap.size (w.heap.size + 1) w (.int .i64 ao) (.int .i64 an) (.string am) (.slice p ak cap) S A env (.slice q5 S.length c5) (.slice p6 A.length c6) (.slice q8 env.length c8) wr)) (fun _ i _ => S.length - (intOf i).toNat)
              case atStart => exact ⟨0, Nat.zero_le _, rfl, rfl, KS3⟩
              case round =>
                obtain ⟨m, hm, rfl, rfl, KS5⟩ := hrel
                clear KS3
                by_cases hlt3 : m < S.length
                · obtain ⟨s, hs⟩ : ∃ s, S[m]? = some s := ⟨_, List.getElem?_eq_getElem hlt3⟩
                  have AT := Lib.hid (al_take (env := env) hs)
                  have HS := Lib.hid hs
                  obtain ⟨al, hal⟩ : ∃ al, alB env (S.take m) = al := ⟨_, rfl⟩
                  rw [hal] at AT ⊢
                  clear hal hs
                  obtain ⟨w9, rfl⟩ : ∃ x, x = wr := ⟨_, rfl⟩
                  go_wp2
                  go_loopw [12, 13] (fun fo i wr => ∃ n : Nat, n ≤ env.length ∧ i = .int .i64 n ∧ fo = .bool (fdB (env.take n) s) ∧ Hid (Kst w.heap.size (w.heap.size + 1) w (.int .i64 ao) (.int .i64 an) (.string am) (.slice p ak cap) S A env (.slice q5 S.length c5) (.slice p6 A.length c6) (.slice q8 env.length c8) wr)) (fun _ i _ => env.length - (intOf i).toNat)
                  case atStart => exact ⟨0, Nat.zero_le _, rfl, rfl, KS5⟩
                  case round =>
                    obtain ⟨n, hn, rfl, rfl, KS6⟩ := hrel
                    clear KS5
                    by_cases hlt4 : n < env.length
                    · obtain ⟨_, _, e5, _, hp5⟩ := strs_own KS6.out.nms
                      cases e5
                      obtain ⟨b5, o5, rfl, hc5⟩ := hp5 (by omega)
                      have ca := hc5 m s HS.out
                      obtain ⟨_, _, e8, _, _, hp8⟩ := sigs_own KS6.out.sig (by omega)
                      cases e8
                      obtain ⟨b8, o8, rfl, _, hc8⟩ := hp8 (by omega)
                      obtain ⟨⟨x1, x2⟩, hx⟩ : ∃ x, env[n]? = some x := ⟨_, List.getElem?_eq_getElem hlt4⟩
                      have cb := (hc8 n _ hx).1
                      have FT := Lib.hid (fd_take s hx)
                      obtain ⟨fo, hfo⟩ : ∃ fo, fdB (env.take n) s = fo := ⟨_, rfl⟩
                      rw [hfo] at FT ⊢
                      clear hfo hx hc5 hc8 hp5 hp8
                      obtain ⟨eq, heq⟩ : ∃ eq, (x1.toList == s.toList) = eq := ⟨_, rfl⟩
                      have FT2 : Hid (fdB (env.take (n + 1)) s = (fo || eq)) := Lib.hid (by rw [FT.out, ← heq])
                      clear FT
                      cases fo
                      · cases eq
                        all_goals
                          go_wp2
                          go_quiet (fail)
                          go_wp2
                          go_roundw
                          case rel => exact ⟨n + 1, by omega, by go_num, by rw [FT2.out]; rfl, Lib.hid (KS6.out.later (drew_below _ _))⟩
                          case measure => simp [intOf]; omega
                      · clear heq
                        go_wp2
                        go_quiet (fail)
                        go_wp2
                        go_roundw
                        case rel => exact ⟨n + 1, by omega, by go_num, by rw [FT2.out]; rfl, Lib.hid (KS6.out.later (drew_below _ _))⟩
                        case measure => simp [intOf]; omega
                    · have hfo : fdB (env.take n) s = hasN env s := by rw [List.take_of_length_le (by omega), fd_has]
                      rw [hfo]
                      clear hfo
                      obtain ⟨hb, hhb⟩ : ∃ hb, hasN env s = hb := ⟨_, rfl⟩
                      rw [hhb] at AT ⊢
                      clear hhb
                      cases al
                      all_goals
                        go_wp2
                        go_roundw
                        case rel => exact ⟨m + 1, by omega, by go_num, by rw [AT.out]; rfl, KS6⟩
                        case measure => simp [intOf]; omega
                · have hS2 : S.take m = S := List.take_of_length_le (by omega)
                  rw [hS2]
                  have KQ := KE.out env
                  have EV1 := EV.out env
                  obtain ⟨⟨v1, v2⟩, hv⟩ : ∃ r, EVA env = r := ⟨_, rfl⟩
                  rw [hv] at KQ EV1
                  have EV1 := Lib.hid EV1
                  have f4 := KS5.out.four
                  have e0 := f4.c0
                  have e1 := f4.c1
                  have e2 := f4.c2
                  have e3 := f4.c3
                  generalize alB env S = al at *
                  clear hv hS2 EV KE f4
                  cases al
                  · obtain rfl : v2 = 7 := by simpa using KQ
                    clear KQ
                    go_wp2_with (first
                      | (go_at_call 27; ((with_reducible refine (EV1.out _ _ (sigs_own KS5.out.sig (by omega)) KS5.out.low).mono ?_); rintro e w10 ⟨rfl, hb⟩; have HB10 := Lib.hid (KS5.out.low.then_ hb); clear hb))
                      | (go_at_call 12; ((with_reducible refine (AW.out _ HB10.out).mono ?_); rintro e w11 ⟨rfl, hb⟩; have HBE := Lib.hid (HB10.out.then_ hb); clear hb)))
                    go_ret
                    exact ⟨rfl, HBE.out⟩
                  · obtain rfl : v2 = 0 := by simpa using KQ
                    clear KQ
                    go_wp2_with (first
                      | (go_at_call 27; ((with_reducible refine (EV1.out _ _ (sigs_own KS5.out.sig (by omega)) KS5.out.low).mono ?_); rintro e w10 ⟨rfl, hb⟩; have HB10 := Lib.hid (KS5.out.low.then_ hb); clear hb))
                      | (go_at_call 12; ((with_reducible refine (AW.out _ HB10.out).mono ?_); rintro e w11 ⟨rfl, hb⟩; have HBE := Lib.hid (HB10.out.then_ hb); clear hb)))
                    go_ret
                    exact ⟨rfl, HBE.out⟩
    · have h0 := vld_ne hv
      clear hx ht hb1 FA ha hmp HMP hv
      generalize vld a = vv at *
      generalize a.op = ao at *
      generalize a.n = an at *
      generalize a.nm = am at *
      generalize a.args.length = ak at *
      go_enter Tryz.func10, Tryz.ntmps10
      go_wp2_with (first
        | (go_at_call 11; ((with_reducible refine (F1.out _ HB1.out).mono ?_); rintro e w2 ⟨rfl, hb⟩; have f4 := HFA.out.stay hb; clear e0 e1 e2 e3; have e0 := f4.c0; have e1 := f4.c1; have e2 := f4.c2; have e3 := f4.c3; have HB2 := Lib.hid (HB1.out.then_ hb); clear hb f4))
        | (go_at_call 25; ((with_reducible refine (VE.out _ HB2.out).mono ?_); rintro e w3 ⟨rfl, hb⟩; have HB3 := Lib.hid (HB2.out.then_ hb); clear hb))
        | (go_at_call 12; ((with_reducible refine (AW.out _ HB3.out).mono ?_); rintro e w4 ⟨rfl, hb⟩; have HB4 := Lib.hid (HB3.out.then_ hb); clear hb)))
      go_ret
      exact ⟨rfl, HB4.out⟩
  · rw [decide_eq_false ha] at F1
    clear hx ht hb1 FA ha hmp HMP
    generalize a.op = ao at *
    generalize a.n = an at *
    generalize a.nm = am at *
    generalize a.args.length = ak at *
    go_enter Tryz.func10, Tryz.ntmps10
    go_wp2_with (first
      | (go_at_call 11; ((with_reducible refine (F1.out _ HB1.out).mono ?_); rintro e w2 ⟨rfl, hb⟩; have HB2 := Lib.hid (HB1.out.then_ hb); clear hb))
      | (go_at_call 12; ((with_reducible refine (AW.out _ HB2.out).mono ?_); rintro e w4 ⟨rfl, hb⟩; have HB4 := Lib.hid (HB2.out.then_ hb); clear hb)))
    go_ret
    exact ⟨rfl, HB4.out⟩
end Go.Proofs.YtdiackcefojfkaaGreatDoor.ExW
