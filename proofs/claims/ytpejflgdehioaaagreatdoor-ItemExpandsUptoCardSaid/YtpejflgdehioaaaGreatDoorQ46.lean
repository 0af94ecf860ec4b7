/-
  Laws that the card uses; no conditions beside those that each states (ExReplM ItHoM ItVl).
-/
import Derived.Test.YtpejflgdehioaaaGreatDoorQ13
import Derived.Test.YtpejflgdehioaaaGreatDoorQ39
namespace Go.Proofs.YtpejflgdehioaaaGreatDoor.ExM
open Go Go.Proofs.YtpejflgdehioaaaGreatDoor.WordM Go.Proofs.YtpejflgdehioaaaGreatDoor.LexM Go.Proofs.YtpejflgdehioaaaGreatDoor.LexW Go.Proofs.YtpejflgdehioaaaGreatDoor.ExW
theorem find_cons_ne {env : Env} {a s : ByteArray} {v : Int} (h : a.data.toList ≠ s.data.toList) : findS ((a, v) :: env) s = findS env s := by
  show (if a.data.toList = s.data.toList then some (v % 65536) else findS env s) = _; rw [if_neg h]
theorem find_cons_eq {env : Env} {a s : ByteArray} {v : Int} (h : a.data.toList = s.data.toList) : findS ((a, v) :: env) s = some (v % 65536) := by
  show (if a.data.toList = s.data.toList then some (v % 65536) else findS env s) = _; rw [if_pos h]
theorem elm_ne {a s : ByteArray} {i : Nat} (h : nmB a.data.toList = true) : a.data.toList ≠ (elmN s i).data.toList := fun e => by
  refine nm_no h ?_; rw [e]; show (91 : UInt8) ∈ s.data.toList ++ [91, UInt8.ofNat (48 + i), 93]; simp
theorem elS_cons {env : Env} {a s : ByteArray} {v i : Int} (h : nmB a.data.toList = true) : elS ((a, v) :: env) s i = elS env s i := by
  unfold elS fnd; split
  · rw [find_cons_ne (elm_ne h)]
  · rfl
theorem sumK_cons {env : Env} {a s : ByteArray} {v : Int} (h : nmB a.data.toList = true) (k : Nat) : sumK ((a, v) :: env) s k = sumK env s k := by
  induction k with
  | zero => rfl
  | succ k ih => unfold sumK; rw [ih, elS_cons h]
theorem valS_cons {env : Env} {a s : ByteArray} {v o n : Int} {l : List Int} (h : nmB a.data.toList = true) (hs : ¬ (isVr o = true ∧ s.data.toList = a.data.toList)) : valS ((a, v) :: env) o n s l = valS env o n s l ∧ knwS ((a, v) :: env) o s = knwS env o s := by
  unfold valS knwS hasN fnd; rw [sumK_cons h, elS_cons h, find_cons_ne (elm_ne h)]; by_cases h2 : o = 2
  · have : a.data.toList ≠ s.data.toList := (fun e => hs ⟨by unfold isVr; exact decide_eq_true h2, e.symm⟩); rw [find_cons_ne this]; exact ⟨rfl, rfl⟩
  · simp only [if_neg h2]; exact ⟨trivial, trivial⟩
theorem su_ev {env : Env} {a : ByteArray} {b : Ex} (h : nmB a.data.toList = true) (hb : Ok b) (hk : kn env b = true) (e : Ex) (he : Ok e) :
    ev env (su a b e) = ev ((a, ev env b) :: env) e ∧ kn env (su a b e) = kn ((a, ev env b) :: env) e := by
  induction e using Ex.ind with
  | h o n s ks ih =>
    rw [ok_mk] at he; rw [su_mk]; by_cases hc : isVr o = true ∧ s.data.toList = a.data.toList
    · rw [if_pos hc]; obtain rfl : o = 2 := of_decide_eq_true hc.1; have hl : ks.length = 0 := by
        have := flt_takes he.1; unfold takesS at this; rw [if_neg (by decide), decide_eq_true_eq, show arS 2 = 0 from rfl] at this; omega
      obtain rfl : ks = [] := List.length_eq_zero_iff.1 hl; have hr := ev_range env b hb; have hf := find_cons_eq (env := env) (v := ev env b) hc.2.symm; rw [ev_mk, kn_mk, kns, hk]; constructor
      · show _ = fnd _ s; unfold fnd; rw [hf, Option.getD_some]; omega
      · show true = (true && hasN _ s); unfold hasN; rw [hf]; rfl
    · rw [if_neg hc, ev_mk, kn_mk, ev_mk, kn_mk]; have e1 : evs env (ks.map (su a b)) = evs ((a, ev env b) :: env) ks := by
        rw [evs_map, evs_map, List.map_map]; exact List.map_congr_left fun x hx => (ih x hx (he.2 x hx)).1
      have e2 : kns env (ks.map (su a b)) = kns ((a, ev env b) :: env) ks := by
        rw [kns_all, kns_all, List.all_map]; rw [Bool.eq_iff_iff, List.all_eq_true, List.all_eq_true]; exact ⟨fun g x hx => by have := g x hx; rw [Function.comp, (ih x hx (he.2 x hx)).2] at this; exact this, fun g x hx => by rw [Function.comp, (ih x hx (he.2 x hx)).2]; exact g x hx⟩
      obtain ⟨g1, g2⟩ := valS_cons (env := env) (v := ev env b) (n := n) (l := evs ((a, ev env b) :: env) ks) h hc; rw [e1, e2, g1, g2]; exact ⟨rfl, rfl⟩
theorem kn_iff (env : Env) (e : Ex) : ∀ l, kn env e = true ↔ ∀ x ∈ pre l e, knwS env x.op x.nm = true := by
  induction e using Ex.ind with
  | h o n s ks ih =>
    intro l; rw [kn_mk, Bool.and_eq_true, kns_all, List.all_eq_true, pre_mk]; constructor
    · rintro ⟨h1, h2⟩ x hx; rcases List.mem_cons.1 hx with rfl | hx
      · exact h2
      · obtain ⟨a, ha, hxa⟩ := mem_pres.1 hx; exact (ih a ha _).1 (h1 a ha) x hxa
    · intro h; exact ⟨fun a ha => (ih a ha (l + 1)).2 fun x hx => h x (List.mem_cons_of_mem _ (mem_pres.2 ⟨a, ha, hx⟩)), h _ List.mem_cons_self⟩
end Go.Proofs.YtpejflgdehioaaaGreatDoor.ExM
namespace Go.Proofs.YtpejflgdehioaaaGreatDoor.ItM
open Go Go.Proofs.YtpejflgdehioaaaGreatDoor.WordM Go.Proofs.YtpejflgdehioaaaGreatDoor.LexM Go.Proofs.YtpejflgdehioaaaGreatDoor.ExM
open Go.Proofs.YtpejflgdehioaaaGreatDoor.ClM (Fld firstE_zero)
mutual
/-- Does a constraint hold? -/
def hoI (fs : List Fld) (env : Env) : It → Bool
  | .mk kd e nm ix _ it el _ _ =>
    if kd = 1 then !decide ((evalS env e).1 = 0)
    else if kd = 4 then (if (evalS env e).1 = 0 then hoL fs env el else hoL fs env it)
    else if kd = 5 then (List.range (szI fs nm).toNat).all (fun (k : Nat) => hoL fs ((ix, (k : Int)) :: env) it)
    else true
def hoL (fs : List Fld) (env : Env) : List It → Bool
  | [] => true
  | a :: r => hoI fs env a && hoL fs env r
end
theorem hoI_eq (fs : List Fld) (env : Env) (x : It) : hoI fs env x =
    if x.kd = 1 then !decide ((evalS env x.e).1 = 0)
    else if x.kd = 4 then (if (evalS env x.e).1 = 0 then hoL fs env x.el else hoL fs env x.it)
    else if x.kd = 5 then (List.range (szI fs x.nm).toNat).all (fun (k : Nat) => hoL fs ((x.ix, (k : Int)) :: env) x.it)
    else true := by cases x; rw [hoI]; rfl
theorem hoL_nil (fs : List Fld) (env : Env) : hoL fs env [] = true := by rw [hoL]
theorem hoL_cons (fs : List Fld) (env : Env) (a : It) (r : List It) : hoL fs env (a :: r) = (hoI fs env a && hoL fs env r) := by rw [hoL]
theorem hoL_all (fs : List Fld) (env : Env) (l : List It) : hoL fs env l = l.all (hoI fs env) := by
  induction l with
  | nil => rw [hoL_nil]; rfl
  | cons a r ih => rw [hoL_cons, ih]; rfl
def EqE (E1 E2 : Env) : Prop := ∀ s, findS E1 s = findS E2 s
theorem EqE.el {E1 E2 : Env} (h : EqE E1 E2) (a : ByteArray) (i : Int) : elS E1 a i = elS E2 a i := by unfold elS fnd; rw [h]
theorem EqE.sum {E1 E2 : Env} (h : EqE E1 E2) (a : ByteArray) : ∀ k, sumK E1 a k = sumK E2 a k
  | 0 => rfl
  | k + 1 => by unfold sumK; rw [h.sum a k, h.el]
theorem EqE.ev {E1 E2 : Env} (h : EqE E1 E2) (e : Ex) : ExM.ev E1 e = ExM.ev E2 e ∧ kn E1 e = kn E2 e := by
  induction e using Ex.ind with
  | h o n s ks ih =>
    rw [ev_mk, ev_mk, kn_mk, kn_mk]; have e1 : evs E1 ks = evs E2 ks := by
      rw [evs_map, evs_map]; exact List.map_congr_left fun a ha => (ih a ha).1
    have e2 : kns E1 ks = kns E2 ks := by
      rw [kns_all, kns_all, Bool.eq_iff_iff, List.all_eq_true, List.all_eq_true]; exact ⟨fun g x hx => by rw [← (ih x hx).2]; exact g x hx, fun g x hx => by rw [(ih x hx).2]; exact g x hx⟩
    rw [e1, e2]; have e3 : ∀ l, valS E1 o n s l = valS E2 o n s l := (fun l => by unfold valS fnd; rw [h, h.el, h.sum]); have e4 : knwS E1 o s = knwS E2 o s := (by unfold knwS hasN; rw [h, h]); rw [e3, e4]; exact ⟨rfl, rfl⟩
theorem EqE.swap {bs env : Env} {a : ByteArray} {v : Int} (h : a ∉ bs.map Prod.fst) : EqE (bs ++ (a, v) :: env) ((a, v) :: (bs ++ env)) := fun s => by
  induction bs with
  | nil => rfl
  | cons p r ih =>
    obtain ⟨b, u⟩ := p; simp only [List.map_cons, List.mem_cons, not_or] at h; have ih := ih h.2; show (if b.data.toList = s.data.toList then some (u % 65536) else findS (r ++ (a, v) :: env) s) = (if a.data.toList = s.data.toList then some (v % 65536) else (if b.data.toList = s.data.toList then some (u % 65536) else findS (r ++ env) s)); rw [ih]; show (if b.data.toList = s.data.toList then some (u % 65536) else (if a.data.toList = s.data.toList then some (v % 65536) else findS (r ++ env) s)) = _; by_cases h1 : b.data.toList = s.data.toList
    · by_cases h2 : a.data.toList = s.data.toList
      · exact absurd (bs_ext (h2.trans h1.symm)) h.1
      · rw [if_pos h1, if_neg h2, if_pos h1]
    · rw [if_neg h1, if_neg h1]
theorem hasN_app {bs env : Env} {s : ByteArray} (h : hasN env s = true) : hasN (bs ++ env) s = true := by
  induction bs with
  | nil => exact h
  | cons p r ih =>
    obtain ⟨a, v⟩ := p; show (if a.data.toList = s.data.toList then some (v % 65536) else findS (r ++ env) s).isSome = true; split
    · rfl
    · exact ih
def SG (σ : Ex → Ex) (bs : Env) : Prop := ∀ e, Ok e → Ok (σ e) ∧ ∀ env, ev env (σ e) = ev (bs ++ env) e ∧ kn env (σ e) = kn (bs ++ env) e
theorem SG.id : SG (fun a => a) [] := fun _ h => ⟨h, fun _ => ⟨rfl, rfl⟩⟩
theorem ok_su {a : ByteArray} {b : Ex} (hb : Ok b) (e : Ex) (he : Ok e) : Ok (su a b e) := by
  induction e using Ex.ind with
  | h o n s ks ih =>
    rw [ok_mk] at he; rw [su_mk]; split
    · exact hb
    · rw [ok_mk]; refine ⟨by rw [List.length_map]; exact he.1, fun x hx => ?_⟩; obtain ⟨y, hy, rfl⟩ := List.mem_map.1 hx; exact ih y hy (he.2 y hy)
theorem ok_cst {k : Nat} (hk : k ≤ 65535) : Ok (cst (k : Int)) := by
  unfold cst; rw [ok_mk]; refine ⟨?_, fun _ h => by simp at h⟩; have h1 : decide ((k : Int) < 0) = false := decide_eq_false (by omega); have h2 : decide ((65535 : Int) < (k : Int)) = false := decide_eq_false (by omega); unfold fltS badA badN; simp only [List.length_nil, h1, show greatS 1 = 65535 from rfl, h2]; rfl
theorem SG.step {σ : Ex → Ex} {bs : Env} (h : SG σ bs) {ix : ByteArray} {k : Nat} (hk : k ≤ 65535) (hn : nmB ix.data.toList = true) (hx : ix ∉ bs.map Prod.fst) : SG (fun a => su ix (cst (k : Int)) (σ a)) ((ix, (k : Int)) :: bs) := fun e he => by
  obtain ⟨h1, h2⟩ := h e he; refine ⟨ok_su (ok_cst hk) _ h1, fun env => ?_⟩; obtain ⟨g1, g2⟩ := su_ev (env := env) hn (ok_cst hk) (kn_cst env k) (σ e) h1; rw [ev_cst] at g1 g2; obtain ⟨q1, q2⟩ := h2 ((ix, (k : Int)) :: env); obtain ⟨r1, r2⟩ := (EqE.swap (env := env) (v := (k : Int)) hx).ev e; exact ⟨g1.trans (q1.trans r1), g2.trans (q2.trans r2)⟩
section
variable {fs : List Fld}
theorem kn_chk {vs : List Int} {bs : Env} {B : List ByteArray} (hB : ∀ s, memB B s = true → s ∈ bs.map Prod.fst) {e : Ex} (h : exE fs B e = 0) : kn (bs ++ envS (varsN fs) vs) e = true := by
  rw [kn_iff _ _ 1]; intro x hx; have hz : nodE fs B x = 0 := firstE_zero.1 h _ (List.mem_map.2 ⟨x, hx, rfl⟩); have hf : (envS (varsN fs) vs).map Prod.fst = varsN fs := envS_fst _ _; have hin : ∀ (a : ByteArray) (k : Nat), (k : Int) < szI fs a → hasN (bs ++ envS (varsN fs) vs) (elmN a k) = true := (fun a k hk => hasN_app (khas_mem (by rw [hf]; exact in_elm hk))); unfold nodE at hz; unfold knwS; by_cases ha : isAr x.op = true
  · rw [if_pos ha] at hz; have h3 : x.op = 3 ∨ x.op = 24 := (by unfold isAr at ha; simpa using ha); have h2 : x.op ≠ 2 := (by omega); rw [if_neg h2, if_pos h3]; unfold arrE at hz; split at hz
    · cases hz
    · split at hz
      · rename_i hh; have := of_decide_eq_true hh; exact hin _ 0 (by omega)
      · cases hz
  · rw [if_neg ha] at hz; have h3 : ¬ (x.op = 3 ∨ x.op = 24) := (fun h => ha (by unfold isAr; simpa using h)); by_cases h2 : x.op = 2
    · rw [if_pos h2]; have hv : isVr x.op = true := (by unfold isVr; exact decide_eq_true h2); rw [hv, Bool.true_and] at hz; cases hm : memB B x.nm with
      | true =>
        have := hB _ hm; have h4 : hasN bs x.nm = true := khas_mem this; clear hz hin hB; generalize envS (varsN fs) vs = env at *
        induction bs with
        | nil => simp at this
        | cons p r ih =>
          obtain ⟨a, v⟩ := p; show (if a.data.toList = x.nm.data.toList then some (v % 65536) else findS (r ++ env) x.nm).isSome = true; split
          · rfl
          · rename_i hne; have h5 : (if a.data.toList = x.nm.data.toList then some (v % 65536) else findS r x.nm).isSome = true := h4; rw [if_neg hne] at h5; have h6 : x.nm ∈ r.map Prod.fst := by
              simp only [List.map_cons, List.mem_cons] at this; rcases this with rfl | h
              · exact absurd rfl hne
              · exact h
            exact ih h6 h5
      | false =>
        rw [hm] at hz; have hz : varE fs x.nm = 0 := hz; unfold varE at hz; split at hz
        · cases hz
        · split at hz
          · rename_i hh; unfold hasV at hh; rcases Bool.or_eq_true_iff.1 hh with h | h
            · exact hasN_app (khas_mem (by rw [hf]; exact in_plain h))
            · obtain ⟨hE, hK⟩ := (Bool.and_eq_true _ _).mp h; obtain ⟨k, hk7, hck, hs, _⟩ := isE_form hE; rw [hs]; have := of_decide_eq_true hK; exact hin _ k (by omega)
          · cases hz
    · rw [if_neg h2, if_neg h3]
end
def hOk (env : Env) (x : It) : Bool := !decide (x.kd = 1) || !decide (ev env x.e = 0)
def qNo (env : Env) (q : Option Ex) : Bool := match q with | none => false | some c => decide (ev env c = 0)
def qOk (env : Env) (q : Option Ex) : Prop := ∀ c, q = some c → Ok c ∧ kn env c = true
theorem ok_two {o : Int} (ho : takesS o 2 = true) (h0 : greatS o = 0) (hv : isVr o = false) (ha : isAr o = false) {a b : Ex} (h1 : Ok a) (h2 : Ok b) : Ok (.mk o 0 ⟨#[]⟩ [a, b]) := by
  rw [ok_mk]; refine ⟨?_, fun x hx => ?_⟩
  · unfold fltS badA badN; simp only [List.length_cons, List.length_nil, ho, h0, hv, ha]; rfl
  · simp only [List.mem_cons, List.not_mem_nil, or_false] at hx; rcases hx with rfl | rfl
    · exact h1
    · exact h2
theorem ok_not {a : Ex} (h1 : Ok a) : Ok (notE a) := by
  unfold notE; rw [ok_mk]; refine ⟨by rfl, fun x hx => ?_⟩; simp only [List.mem_cons, List.not_mem_nil, or_false] at hx; rcases hx with rfl
  exact h1
theorem kn_two {env : Env} {o : Int} (ho : ∀ s, knwS env o s = true) {a b : Ex} (h1 : kn env a = true) (h2 : kn env b = true) : kn env (.mk o 0 ⟨#[]⟩ [a, b]) = true := by
  rw [kn_mk, kns_all]; simp only [List.all_cons, List.all_nil, Bool.and_true]; rw [h1, h2, ho]; rfl
theorem kn_not {env : Env} {a : Ex} (h1 : kn env a = true) : kn env (notE a) = true := by
  unfold notE; rw [kn_mk, kns_all]; simp only [List.all_cons, List.all_nil, Bool.and_true]; rw [h1]; rfl
theorem und_ok {env : Env} {q : Option Ex} (hq : qOk env q) {e : Ex} (h1 : Ok e) (h2 : kn env e = true) (o : Int) (ho : o = 19 ∨ o = 21) : Ok (und q o e) ∧ kn env (und q o e) = true := by
  cases q with
  | none => exact ⟨h1, h2⟩
  | some c =>
    obtain ⟨g1, g2⟩ := hq c rfl; rcases ho with rfl | rfl
    · exact ⟨ok_two (by rfl) (by rfl) (by rfl) (by rfl) g1 h1, kn_two (fun _ => rfl) g2 h2⟩
    · exact ⟨ok_two (by rfl) (by rfl) (by rfl) (by rfl) g1 h1, kn_two (fun _ => rfl) g2 h2⟩
theorem ev_not (env : Env) (a : Ex) : ev env (notE a) = 0 ↔ ev env a ≠ 0 := by
  have : ev env (notE a) = tr (decide (ev env a = 0)) := (by unfold notE; rw [ev_mk, evs_cons, evs_nil]; rfl); rw [this]; by_cases h : ev env a = 0 <;> simp [h, tr]
theorem ev_both (env : Env) (q : Option Ex) (e : Ex) : ev env (und q 19 e) = 0 ↔ qNo env q = true ∨ ev env e = 0 := by
  cases q with
  | none => simp [und, qNo]
  | some c =>
    have : ev env (und (some c) 19 e) = tr (!decide (ev env c = 0) && !decide (ev env e = 0)) := (by unfold und; rw [ev_mk, evs_cons, evs_cons, evs_nil]; rfl); rw [this]; unfold qNo; by_cases h1 : ev env c = 0 <;> by_cases h2 : ev env e = 0 <;> simp [h1, h2, tr]
theorem ev_imp (env : Env) (q : Option Ex) (e : Ex) : ev env (und q 21 e) = 0 ↔ qNo env q = false ∧ ev env e = 0 := by
  cases q with
  | none => simp [und, qNo]
  | some c =>
    have : ev env (und (some c) 21 e) = tr (decide (ev env c = 0) || !decide (ev env e = 0)) := (by unfold und; rw [ev_mk, evs_cons, evs_cons, evs_nil]; rfl); rw [this]; unfold qNo; by_cases h1 : ev env c = 0 <;> by_cases h2 : ev env e = 0 <;> simp [h1, h2, tr]
theorem qNo_some (env : Env) (c : Ex) : qNo env (some c) = true ↔ ev env c = 0 := by simp [qNo]
section
variable {fs : List Fld} (hS : ∀ f ∈ fs, 0 ≤ f.sz ∧ f.sz ≤ 8)
include hS
def OutK (env : Env) (y : It) : Prop := (y.kd = 1 ∨ y.kd = 2 ∨ y.kd = 3 ∨ y.kd = 6) ∧ ((y.kd = 1 ∨ y.kd = 2) → Ok y.e ∧ kn env y.e = true)
theorem exp_ho {vs : List Int} (l : List It) : ∀ (q : Option Ex) (σ : Ex → Ex) (bs : Env) (B : List ByteArray) (d : Nat),
    (∀ p ∈ wks d B l, fltP p = 0 ∧ chkP fs p = 0) → (∀ s, memB B s = true ↔ s ∈ bs.map Prod.fst) → SG σ bs → qOk (envS (varsN fs) vs) q →
    ((exL fs q σ l).all (hOk (envS (varsN fs) vs)) = true ↔ qNo (envS (varsN fs) vs) q = true ∨ hoL fs (bs ++ envS (varsN fs) vs) l = true) ∧ ∀ y ∈ exL fs q σ l, OutK (envS (varsN fs) vs) y := by
  induction l using its_rec with
  | h0 =>
    intro q σ bs B d _ _ _ _; rw [exL_nil, hoL_nil]; simp
  | h1 x r h1 h2 h3 =>
    intro q σ bs B d hp hB hσ hq; rw [wks_cons, wk_eq] at hp; have hpx := hp _ (List.mem_append_left _ List.mem_cons_self); have hpi : ∀ p ∈ wks (d + 1) (inn x.kd x.ix B) x.it, fltP p = 0 ∧ chkP fs p = 0 := (fun p h => hp p (List.mem_append_left _ (List.mem_cons_of_mem _ (List.mem_append_left _ h)))); have hpe : ∀ p ∈ wks (d + 1) B x.el, fltP p = 0 ∧ chkP fs p = 0 := (fun p h => hp p (List.mem_append_left _ (List.mem_cons_of_mem _ (List.mem_append_right _ h)))); have hpr : ∀ p ∈ wks d B r, fltP p = 0 ∧ chkP fs p = 0 := (fun p h => hp p (List.mem_append_right _ h)); obtain ⟨r1, r2⟩ := h3 q σ bs B d hpr hB hσ hq; rw [exL_cons, hoL_cons, List.all_append, Bool.and_eq_true, Bool.and_eq_true, r1]
    suffices h : ((exI fs q σ x).all (hOk (envS (varsN fs) vs)) = true ↔ qNo (envS (varsN fs) vs) q = true ∨ hoI fs (bs ++ envS (varsN fs) vs) x = true) ∧ ∀ y ∈ exI fs q σ x, OutK (envS (varsN fs) vs) y by
      refine ⟨?_, fun y hy => (List.mem_append.1 hy).elim (h.2 y) (r2 y)⟩; rw [h.1]; constructor
      · rintro ⟨h4 | h4, h5 | h5⟩
        · exact .inl h4
        · exact .inl h4
        · exact .inl h5
        · exact .inr ⟨h4, h5⟩
      · rintro (h4 | ⟨h4, h5⟩)
        · exact ⟨.inl h4, .inl h4⟩
        · exact ⟨.inr h4, .inr h5⟩
    have hfl : fltI d x = 0 := hpx.1; have hck : chkI fs B x = 0 := hpx.2; clear r1 r2 h3 hp hpx hpr; obtain ⟨env, hE⟩ : ∃ env, envS (varsN fs) vs = env := ⟨_, rfl⟩; have hKn : ∀ {e : Ex}, exE fs B e = 0 → kn (bs ++ env) e = true := (fun h => by rw [← hE]; exact kn_chk (fun s h => (hB s).1 h) h); rw [hE] at h1 h2 hq ⊢; have hev : ∀ {e : Ex}, vld e = 0 → exE fs B e = 0 → (Ok (σ e) ∧ kn env (σ e) = true ∧ ev env (σ e) = ev (bs ++ env) e) ∧ evalS (bs ++ env) e = (ev (bs ++ env) e, 0) := fun {e} hv hx => by
      obtain ⟨g1, g2⟩ := hσ e ((vld_zero e).1 hv).1; have hk := hKn hx; refine ⟨⟨g1, by rw [(g2 env).2]; exact hk, (g2 env).1⟩, ?_⟩; unfold evalS; rw [if_pos hv, if_pos hk]
    rw [exI_eq, hoI_eq]; unfold fltI at hfl; unfold chkI at hck; split at hfl
    · cases hfl
    · rename_i hkb; have hkd : 1 ≤ x.kd ∧ x.kd ≤ 6 := by
        simp only [Bool.or_eq_true, not_or, Bool.not_eq_true', Bool.not_eq_false, kindB, Bool.and_eq_true, decide_eq_true_eq] at hkb; exact hkb.1
      by_cases k4 : x.kd = 4
      · have hv : vld x.e = 0 := by
          rw [if_neg (by omega), if_neg (by omega), if_neg (by omega)] at hfl; exact hfl
        have hx : exE fs B x.e = 0 := by
          rw [if_neg (by omega), if_neg (by omega), if_neg (by omega)] at hck; exact hck
        obtain ⟨⟨g1, g2, g3⟩, g4⟩ := hev hv hx; have hin : inn x.kd x.ix B = B := (by unfold inn; rw [if_neg (by omega)]); rw [hin] at hpi; obtain ⟨a1, a2⟩ := h1 (some (und q 19 (σ x.e))) σ bs B (d + 1) hpi hB hσ (fun c hc => by cases hc; exact und_ok hq g1 g2 19 (.inl rfl)); obtain ⟨b1, b2⟩ := h2 (some (und q 19 (notE (σ x.e)))) σ bs B (d + 1) hpe hB hσ (fun c hc => by cases hc; exact und_ok hq (ok_not g1) (kn_not g2) 19 (.inl rfl)); rw [if_pos k4, if_neg (by omega), if_pos k4, g4]; refine ⟨?_, fun y hy => (List.mem_append.1 hy).elim (a2 y) (b2 y)⟩; rw [List.all_append, Bool.and_eq_true, a1, b1, qNo_some, qNo_some, ev_both, ev_both, ev_not, g3]; by_cases hz : ev (bs ++ env) x.e = 0
        · rw [if_pos hz]; constructor
          · rintro ⟨_, (h | h) | h⟩
            · exact .inl h
            · exact absurd hz h
            · exact .inr h
          · rintro (h | h)
            · exact ⟨.inl (.inl h), .inl (.inl h)⟩
            · exact ⟨.inl (.inr hz), .inr h⟩
        · rw [if_neg hz]; constructor
          · rintro ⟨(h | h) | h, _⟩
            · exact .inl h
            · exact absurd h hz
            · exact .inr h
          · rintro (h | h)
            · exact ⟨.inl (.inl h), .inl (.inl h)⟩
            · exact ⟨.inr h, .inl (.inr hz)⟩
      · rw [if_neg k4]; by_cases k5 : x.kd = 5
        · have hnm : nameB x.nm = true ∧ nameB x.ix = true := by
            rw [if_neg (by omega), if_neg (by omega), if_pos k5] at hfl; split at hfl
            · assumption
            · cases hfl
          have hdu : memB B x.ix = false := by
            rw [if_neg (by omega), if_neg (by omega), if_pos k5] at hck; split at hck
            · split at hck
              · cases hck
              · rename_i hh; cases hm : memB B x.ix with
                | false => rfl
                | true => exact absurd (by rw [hm]; simp) hh
            · rename_i hh; exact absurd hck hh
          have hnb : x.ix ∉ bs.map Prod.fst := (fun h => by rw [(hB _).2 h] at hdu; cases hdu); have hin : inn x.kd x.ix B = x.ix :: B := (by unfold inn; rw [if_pos k5]); rw [hin] at hpi; have h8 := szI_le fs hS x.nm; rw [if_pos k5, if_neg (by omega), if_neg (by omega), if_pos k5]; have hall : ∀ k : Nat, k < (szI fs x.nm).toNat → ((exL fs q (fun a => su x.ix (cst (k : Int)) (σ a)) x.it).all (hOk env) = true ↔ qNo env q = true ∨ hoL fs ((x.ix, (k : Int)) :: (bs ++ env)) x.it = true) ∧ ∀ y ∈ exL fs q (fun a => su x.ix (cst (k : Int)) (σ a)) x.it, OutK env y := fun k hk =>
            h1 q _ ((x.ix, (k : Int)) :: bs) (x.ix :: B) (d + 1) hpi (fun s => by
              simp only [List.map_cons, List.mem_cons]; rw [← hB s]; unfold memB; rw [List.any_cons, Bool.or_eq_true, ClM.same_iff]; exact ⟨fun h => h.elim (fun e => .inl e.symm) .inr, fun h => h.elim (fun e => .inl e.symm) .inr⟩) (hσ.step (by omega) hnm.2 hnb) hq
          constructor
          · rw [List.all_eq_true, List.all_eq_true]; constructor
            · intro h; by_cases hqn : qNo env q = true
              · exact .inl hqn
              · refine (.inr fun k hk => ?_); have hk' := List.mem_range.1 hk; have := (hall k hk').1.1 (List.all_eq_true.2 fun y hy => h y (List.mem_flatMap.2 ⟨k, hk, hy⟩)); exact this.resolve_left hqn
            · intro h y hy; obtain ⟨k, hk, hy⟩ := List.mem_flatMap.1 hy; have hk' := List.mem_range.1 hk; exact List.all_eq_true.1 ((hall k hk').1.2 (h.imp_right fun g => g k hk)) y hy
          · intro y hy; obtain ⟨k, hk, hy⟩ := List.mem_flatMap.1 hy; exact (hall k (List.mem_range.1 hk)).2 y hy
        · rw [if_neg k5]; by_cases k12 : x.kd = 1 ∨ x.kd = 2
          · have hv : vld x.e = 0 := by
              rw [if_neg (by omega), if_neg (by omega), if_neg (by omega)] at hfl; exact hfl
            have hx : exE fs B x.e = 0 := by
              rw [if_neg (by omega), if_neg (by omega), if_neg (by omega)] at hck; exact hck
            obtain ⟨⟨g1, g2, g3⟩, g4⟩ := hev hv hx; obtain ⟨u1, u2⟩ := und_ok hq g1 g2 21 (.inr rfl); rw [if_pos k12, g4]; refine ⟨?_, fun y hy => ?_⟩
            · simp only [List.all_cons, List.all_nil, Bool.and_true]; by_cases k1 : x.kd = 1
              · rw [if_pos k1]; have e1 : hOk env (hardI x.kd (und q 21 (σ x.e))) = !decide (ev env (und q 21 (σ x.e)) = 0) := by
                  unfold hOk; show (!decide (x.kd = 1) || _) = _; rw [decide_eq_true k1]; rfl
                rw [e1, Bool.not_eq_true', decide_eq_false_iff_not, ev_imp, g3, Bool.not_eq_true', decide_eq_false_iff_not]; cases qNo env q <;> simp
              · rw [if_neg k1, if_neg (by omega), if_neg (by omega)]; have e1 : hOk env (hardI x.kd (und q 21 (σ x.e))) = true := by
                  unfold hOk; show (!decide (x.kd = 1) || _) = true; rw [decide_eq_false k1]; rfl
                rw [e1]; simp
            · simp only [List.mem_cons, List.not_mem_nil, or_false] at hy; subst hy; exact ⟨k12.elim .inl (fun h => .inr (.inl h)), fun _ => ⟨u1, u2⟩⟩
          · rw [if_neg k12]; have k36 : x.kd = 3 ∨ x.kd = 6 := (by omega); rw [if_neg (by omega), if_neg (by omega), if_neg (by omega)]; refine ⟨?_, fun y hy => ?_⟩
            · simp only [List.all_cons, List.all_nil, Bool.and_true]; have e1 : hOk env (outI x) = true := by
                unfold hOk; show (!decide (x.kd = 1) || _) = true; rw [decide_eq_false (by omega)]; rfl
              rw [e1]; simp
            · simp only [List.mem_cons, List.not_mem_nil, or_false] at hy; subst hy; refine ⟨k36.elim (fun h => .inr (.inr (.inl h))) (fun h => .inr (.inr (.inr h))), fun h => ?_⟩; have : (outI x).kd = x.kd := rfl; omega
end
end Go.Proofs.YtpejflgdehioaaaGreatDoor.ItM
namespace Go.Proofs.YtpejflgdehioaaaGreatDoor.ItW
open Go Go.RowKit Go.Proofs.YtpejflgdehioaaaGreatDoor.NumM Go.Proofs.YtpejflgdehioaaaGreatDoor.LexW Go.Proofs.YtpejflgdehioaaaGreatDoor.LexM Go.Proofs.YtpejflgdehioaaaGreatDoor.ExM Go.Proofs.YtpejflgdehioaaaGreatDoor.ExW Go.Proofs.YtpejflgdehioaaaGreatDoor.ItM
open Go.Proofs.YtpejflgdehioaaaGreatDoor.ClM (Fld)
set_option maxRecDepth 100000 in
set_option maxHeartbeats 4000000 in
theorem valF_any (env : Env) (sv v : Value) (e : Ex) (w : World) (hx : ExAt w.heap.size w v e) (hE : SigsAt w sv env) (hr : ∀ x ∈ env, -9223372036854775808 ≤ x.2 ∧ x.2 ≤ 9223372036854775807) (hsz : sz e ≤ 10000) :
    Calls Tryz.prog 31 #[v, sv] w (tInt (evalS env e).1 w) := by
  have EV0 : Hid (∀ W, Below w.heap.size w W → Calls Tryz.prog 33 #[v, sv] W (tEv (evalS env e) W)) := (Lib.hid fun W hW => evalR_any env sv v e W ((hx.under hW).wide hW.size) (hE.later hW) hr hsz); obtain ⟨p, cap, pl, cl, rfl, hs, _⟩ := hx.form; generalize evalS env e = r at *
  obtain ⟨r1, r2⟩ := r; generalize e.op = o at *
  generalize e.n = num at *
  generalize e.nm = s at *
  generalize e.args.length = K at *
  have four := Four.new w (.int .i64 o) (.int .i64 num) (.string s) (.slice p K cap) 43; have HB := Lib.hid (ba w (.cells #[.int .i64 o, .int .i64 num, .string s, .slice p K cap] 43)); have EV : Hid (∀ W, Below w.heap.size w W → Calls Tryz.prog 33 #[xv o num s (.slice p K cap), sv] W fun e w' => e = .returned (.tuple #[.int .i64 r1, .int .i64 r2]) ∧ Below W.heap.size W w') := EV0; have c0 := four.c0; have c1 := four.c1; have c2 := four.c2; have c3 := four.c3; clear four EV0 hx hs hE
  go_enter Tryz.func31, Tryz.ntmps31
  go_wp2_with (go_at_call 33; ((with_reducible refine (EV.out _ HB.out).mono ?_); rintro e w1 ⟨rfl, hb⟩; have HB1 := Lib.hid (HB.out.then_ hb); clear hb))
  go_ret; exact tInt_mk rfl HB1.out
set_option maxRecDepth 100000 in
set_option maxHeartbeats 4000000 in
theorem sizeF_any (fs : List Fld) (cv : Value) (s : ByteArray) (N : Nat) (w : World) (hc : ClA N w cv fs) (hN : N ≤ w.heap.size) :
    Calls Tryz.prog 63 #[cv, .string s] w (tInt (szI fs s) w) := by
  obtain ⟨cnm, par, vf, pb, kb, cb, rfl, p, cap, rfl, hl, hcap, hz, hp⟩ := hc; have HP := Lib.hid hp; obtain ⟨K, hK⟩ : ∃ K, fs.length = K := ⟨_, rfl⟩; have HK := Lib.hid hK; rw [hK] at hl ⊢; have hk47 : K ≤ 140737488351232 := (by omega); have B0 := Blk.new w [.string cnm, .string par, .slice p K cap, .slice pb kb cb] 34; have hb0 := ba w (.cells #[.string cnm, .string par, .slice p K cap, .slice pb kb cb] 34); have d2 := B0.c 2 _ rfl; have HB := Lib.hid hb0; clear hK hl hp hcap hz B0 hb0
  go_enter Tryz.func63, Tryz.ntmps63
  go_wp2; obtain ⟨W0, hW0⟩ : ∃ W0, w.alloc (.cells #[.string cnm, .string par, .slice p K cap, .slice pb kb cb] 34) = W0 := ⟨_, rfl⟩; simp only [List.toArray] at d2; rw [hW0] at HB d2 ⊢; clear hW0; go_loop [5] (fun i => ∃ k : Nat, k ≤ K ∧ i = .int .i64 k ∧ Hid (∀ (j : Nat) f, j < k → fs[j]? = some f → f.nm.data.toList ≠ s.data.toList)) (fun i => K - (intOf i).toNat)
  case atStart => exact ⟨0, Nat.zero_le _, rfl, Lib.hid fun j _ h => by omega⟩
  case round =>
    obtain ⟨k, hk, rfl, NO⟩ := hrel; by_cases hlt : k < K
    · obtain ⟨b, off, rfl, hbN, hcell⟩ := HP.out (by rw [HK.out]; omega); obtain ⟨y, hyk⟩ : ∃ y, fs[k]? = some y := ⟨_, List.getElem?_eq_getElem (by rw [HK.out]; exact hlt)⟩; obtain ⟨q0, q1, q2, q3, q4⟩ := hcell k y hyk; have c0 := low_cells (HB.out.mono hN) _ _ hbN _ q0; have c2 := low_cells (HB.out.mono hN) _ _ hbN _ q2; have HY := Lib.hid hyk; clear hcell hyk q0 q1 q2 q3 q4; obtain ⟨yn, hyn⟩ : ∃ x, y.nm = x := ⟨_, rfl⟩; obtain ⟨ys, hys⟩ : ∃ x, y.sz = x := ⟨_, rfl⟩; rw [hyn] at c0; rw [hys] at c2; have HYN := Lib.hid hyn; have HYS := Lib.hid hys; clear hyn hys; by_cases e : yn.data.toList = s.data.toList
      · have e1 : (yn.toList == s.toList) = true := (by rw [Lib.toList_data, Lib.toList_data, e]; simp); have EE : Hid (szO fs s = some ys) := Lib.hid (by rw [← HYS.out]; exact szO_at HY.out (by rw [HYN.out]; exact e) NO.out); clear e; go_wp2; go_ret; exact tInt_mk (szI_some EE.out) HB.out
      · have e1 : (yn.toList == s.toList) = false := (by rw [Lib.toList_data, Lib.toList_data]; simpa using e); have NO2 : Hid (∀ (j : Nat) f, j < k + 1 → fs[j]? = some f → f.nm.data.toList ≠ s.data.toList) := Lib.hid fun j t hj ht => by
          rcases Nat.lt_or_ge j k with h | h
          · exact NO.out j t h ht
          · obtain rfl : j = k := (by omega); rw [HY.out] at ht; cases ht; rw [HYN.out]; exact e
        clear e; go_wp2; go_round
        case rel => exact ⟨k + 1, by omega, by go_num, NO2⟩
        case measure => simp [intOf]; omega
    · have EE := Lib.hid (szO_no (s := s) (fs := fs) (fun i t hi ht => NO.out i t (by rw [HK.out] at hi; omega) ht)); go_wp2; go_ret; exact tInt_mk (szI_none EE.out) HB.out
end Go.Proofs.YtpejflgdehioaaaGreatDoor.ItW
