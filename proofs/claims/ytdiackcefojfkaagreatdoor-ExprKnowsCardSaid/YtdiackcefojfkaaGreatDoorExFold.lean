/-
  Folding and replacing, with no Go in sight.
-/
import Derived.Test.YtdiackcefojfkaaGreatDoorExVal
namespace Go.Proofs.YtdiackcefojfkaaGreatDoor.ExM
open Go Go.Proofs.YtdiackcefojfkaaGreatDoor.WordM Go.Proofs.YtdiackcefojfkaaGreatDoor.LexM

def isC (a : Ex) : Bool := decide (a.op = 1)
def foldN (o n : Int) (s : ByteArray) (ks : List Ex) : Ex := if (!asksB o && ks.all isC) = true then .mk 1 (opS o (ks.map Ex.n)) ⟨#[]⟩ [] else .mk o n s ks
mutual
def fo : Ex → Ex
  | .mk o n s ks => foldN o n s (fos ks)
def fos : List Ex → List Ex
  | [] => []
  | a :: r => fo a :: fos r
end
theorem fos_map (ks : List Ex) : fos ks = ks.map fo := by
  induction ks with
  | nil => rw [fos]; rfl
  | cons a r ih => rw [fos, ih]; rfl
theorem fo_mk (o n : Int) (s : ByteArray) (ks : List Ex) : fo (.mk o n s ks) = foldN o n s (ks.map fo) := by rw [fo, fos_map]
theorem bs_emp {s : ByteArray} (h : s.size = 0) : s = ⟨#[]⟩ := by
  obtain ⟨d⟩ := s
  have : d.size = 0 := h
  rw [Array.eq_empty_of_size_eq_zero this]
theorem flt_c {lv : Nat} {n : Int} {s : ByteArray} {k : Nat} (h : fltS ⟨lv, 1, n, s, k⟩ = 0) : k = 0 ∧ s = ⟨#[]⟩ ∧ 0 ≤ n ∧ n ≤ 65535 := by
  have hn := flt_one h
  unfold fltS at h
  split at h
  · omega
  · rename_i hb
    simp [badA, takesS, arS, greatS, isVr, isAr] at hb
    exact ⟨hb.1, hb.2.2.2, hn⟩
theorem const_flt (lv : Nat) (n : Int) (h0 : 0 ≤ n) (h1 : n ≤ 65535) : fltS ⟨lv, 1, n, ⟨#[]⟩, 0⟩ = 0 := by
  unfold fltS
  have h2 : badA ⟨lv, 1, n, ⟨#[]⟩, 0⟩ = false := by
    unfold badA takesS arS greatS
    have g1 : ¬ n < 0 := by omega
    have g2 : ¬ 65535 < n := by omega
    simp [g1, g2]
    exact fun h => absurd rfl h
  have h3 : badN ⟨lv, 1, n, ⟨#[]⟩, 0⟩ = false := by simp [badN, isVr, isAr]
  rw [h2, h3]; rfl
theorem const_ok (n : Int) (h0 : 0 ≤ n) (h1 : n ≤ 65535) : Ok (.mk 1 n ⟨#[]⟩ []) := by
  rw [ok_mk]
  exact ⟨const_flt 0 n h0 h1, by simp⟩
/-- An expression without faults that is a constant. -/
theorem isC_form {a : Ex} (ha : Ok a) (h : isC a = true) : a = .mk 1 a.n ⟨#[]⟩ [] ∧ 0 ≤ a.n ∧ a.n ≤ 65535 := by
  obtain ⟨o, n, s, ks⟩ := a
  obtain rfl : o = 1 := of_decide_eq_true h
  have := (ok_mk 1 n s ks).1 ha
  obtain ⟨h1, h2, h3, h4⟩ := flt_c this.1
  have : ks = [] := List.length_eq_zero_iff.1 h1
  subst this
  subst h2
  exact ⟨rfl, h3, h4⟩
theorem wd_consts {ks : List Ex} (h : ∀ a ∈ ks, Ok a) (hc : ks.all isC = true) : Wd (ks.map Ex.n) := fun v hv => by
  obtain ⟨a, ha, rfl⟩ := List.mem_map.1 hv
  exact (isC_form (h a ha) (List.all_eq_true.1 hc a ha)).2
theorem foldN_ok {o n : Int} {s : ByteArray} {ks : List Ex} (h : Ok (.mk o n s ks)) : Ok (foldN o n s ks) := by
  unfold foldN
  split
  · rename_i hc
    simp only [Bool.and_eq_true] at hc
    have hw := wd_consts ((ok_mk _ _ _ _).1 h).2 hc.2
    have := opS_range (o := o) hw
    exact const_ok _ this.1 this.2
  · exact h
theorem fo_ok (e : Ex) (h : Ok e) : Ok (fo e) := by
  induction e using Ex.ind with
  | h o n s ks ih =>
    rw [ok_mk] at h
    rw [fo_mk]
    apply foldN_ok
    rw [ok_mk]
    refine ⟨by rw [List.length_map]; exact h.1, fun a ha => ?_⟩
    obtain ⟨b, hb, rfl⟩ := List.mem_map.1 ha
    exact ih b hb (h.2 b hb)
theorem szs_map {ks : List Ex} {f : Ex → Ex} (h : ∀ a ∈ ks, sz (f a) ≤ sz a) : szs (ks.map f) ≤ szs ks := by
  induction ks with
  | nil => simp
  | cons a r ih =>
    rw [List.map_cons, szs_cons, szs_cons]
    have := h a (by simp)
    have := ih (fun b hb => h b (by simp [hb]))
    omega
theorem deps_map {ks : List Ex} {f : Ex → Ex} (h : ∀ a ∈ ks, dep (f a) ≤ dep a) : deps (ks.map f) ≤ deps ks := by
  induction ks with
  | nil => simp
  | cons a r ih =>
    rw [List.map_cons, deps_cons, deps_cons]
    have := h a (by simp)
    have := ih (fun b hb => h b (by simp [hb]))
    omega
theorem foldN_size (o n : Int) (s : ByteArray) (ks : List Ex) : sz (foldN o n s ks) ≤ szs ks + 1 ∧ dep (foldN o n s ks) ≤ deps ks + 1 := by
  unfold foldN
  split
  · rw [sz_mk, dep_mk, szs_nil, deps_nil]; omega
  · rw [sz_mk, dep_mk]; omega
theorem fo_size (e : Ex) : sz (fo e) ≤ sz e ∧ dep (fo e) ≤ dep e := by
  induction e using Ex.ind with
  | h o n s ks ih =>
    rw [fo_mk, sz_mk, dep_mk]
    have h := foldN_size o n s (ks.map fo)
    have h1 := szs_map (ks := ks) (f := fo) (fun a ha => (ih a ha).1)
    have h2 := deps_map (ks := ks) (f := fo) (fun a ha => (ih a ha).2)
    omega
theorem fo_vld (e : Ex) (h : vld e = 0) : vld (fo e) = 0 := by
  rw [vld_zero] at h ⊢
  have := fo_size e
  exact ⟨fo_ok e h.1, by omega, by omega⟩
theorem evs_consts {env : Env} {ks : List Ex} (h : ∀ a ∈ ks, Ok a) (hc : ks.all isC = true) : evs env ks = ks.map Ex.n ∧ kns env ks = true := by
  rw [evs_map, kns_all]
  constructor
  · apply List.map_congr_left
    intro a ha
    obtain ⟨e, _⟩ := isC_form (h a ha) (List.all_eq_true.1 hc a ha)
    rw [e, ev_mk]; rfl
  · rw [List.all_eq_true]
    intro a ha
    obtain ⟨e, _⟩ := isC_form (h a ha) (List.all_eq_true.1 hc a ha)
    rw [e, kn_mk, kns]; rfl
theorem asks_no {o : Int} (h : asksB o = false) : o ≠ 1 ∧ o ≠ 2 ∧ o ≠ 3 ∧ o ≠ 24 := by
  unfold asksB isVr isAr at h
  simp only [Bool.or_eq_false_iff, decide_eq_false_iff_not] at h
  exact ⟨h.1, h.2.1, h.2.2.1, h.2.2.2⟩
theorem valS_comp {env : Env} {o n : Int} {s : ByteArray} {l : List Int} (h : asksB o = false) : valS env o n s l = opS o l ∧ knwS env o s = true := by
  obtain ⟨h1, h2, h3, h4⟩ := asks_no h
  exact ⟨by unfold valS; rw [if_neg h1, if_neg h2, if_neg h3, if_neg h4], by unfold knwS; rw [if_neg h2, if_neg (by omega)]⟩
theorem foldN_ev {env : Env} {o n : Int} {s : ByteArray} {ks : List Ex} (h : ∀ a ∈ ks, Ok a) : ev env (foldN o n s ks) = valS env o n s (evs env ks) ∧ kn env (foldN o n s ks) = (kns env ks && knwS env o s) := by
  unfold foldN
  split
  · rename_i hc
    simp only [Bool.and_eq_true, Bool.not_eq_true'] at hc
    obtain ⟨h1, h2⟩ := evs_consts (env := env) h hc.2
    obtain ⟨h3, h4⟩ := valS_comp (env := env) (n := n) (s := s) (l := evs env ks) hc.1
    rw [h3, h4, h2, ev_mk, kn_mk, h1]
    exact ⟨rfl, by rw [kns]; rfl⟩
  · rw [ev_mk, kn_mk]; exact ⟨rfl, rfl⟩
theorem fo_ev (env : Env) (e : Ex) (h : Ok e) : ev env (fo e) = ev env e ∧ kn env (fo e) = kn env e := by
  induction e using Ex.ind with
  | h o n s ks ih =>
    rw [ok_mk] at h
    have hk : ∀ a ∈ ks.map fo, Ok a := fun a ha => by
      obtain ⟨b, hb, rfl⟩ := List.mem_map.1 ha
      exact fo_ok b (h.2 b hb)
    obtain ⟨h1, h2⟩ := foldN_ev (env := env) (o := o) (n := n) (s := s) hk
    rw [fo_mk, h1, h2, ev_mk, kn_mk]
    have e1 : evs env (ks.map fo) = evs env ks := by
      rw [evs_map, evs_map, List.map_map]
      exact List.map_congr_left fun a ha => (ih a ha (h.2 a ha)).1
    have e2 : kns env (ks.map fo) = kns env ks := by
      rw [kns_all, kns_all, List.all_map]
      rw [Bool.eq_iff_iff, List.all_eq_true, List.all_eq_true]
      exact ⟨fun g a ha => by have := g a ha; rw [Function.comp, (ih a ha (h.2 a ha)).2] at this; exact this, fun g a ha => by rw [Function.comp, (ih a ha (h.2 a ha)).2]; exact g a ha⟩
    rw [e1, e2]; exact ⟨rfl, rfl⟩
theorem fo_fo (e : Ex) : fo (fo e) = fo e := by
  induction e using Ex.ind with
  | h o n s ks ih =>
    rw [fo_mk]
    by_cases hc : (!asksB o && (ks.map fo).all isC) = true
    · have : foldN o n s (ks.map fo) = .mk 1 (opS o ((ks.map fo).map Ex.n)) ⟨#[]⟩ [] := if_pos hc
      rw [this, fo_mk]
      unfold foldN
      rw [if_neg (by simp [asksB])]
      rfl
    · have : foldN o n s (ks.map fo) = .mk o n s (ks.map fo) := if_neg hc
      have h2 : (ks.map fo).map fo = ks.map fo := by
        rw [List.map_map]
        exact List.map_congr_left fun a ha => ih a ha
      rw [this, fo_mk, h2, this]
/-- The value that Eval gives a node over constants. -/
theorem eval_node {o n : Int} {s : ByteArray} {ks : List Ex} (h : Ok (.mk o n s ks)) (hc : ks.all isC = true) (ha : asksB o = false) (hk : ks.length ≤ 100) : evalS [] (.mk o n s ks) = (opS o (ks.map Ex.n), 0) := by
  have hch := ((ok_mk _ _ _ _).1 h).2
  have one : ∀ a ∈ ks, sz a = 1 ∧ dep a = 1 := fun a hm => by
    obtain ⟨e, _⟩ := isC_form (hch a hm) (List.all_eq_true.1 hc a hm)
    rw [e, sz_mk, dep_mk, szs_nil, deps_nil]; exact ⟨rfl, rfl⟩
  have h1 : szs ks = ks.length := by
    clear h hc hk hch
    induction ks with
    | nil => rw [szs_nil]; rfl
    | cons a r ih => rw [szs_cons, ih (fun b hb => one b (by simp [hb])), (one a (by simp)).1]; simp; omega
  have h2 : deps ks ≤ 1 := by
    clear h hc hk hch h1
    induction ks with
    | nil => rw [deps_nil]; omega
    | cons a r ih => rw [deps_cons, (one a (by simp)).2]; have := ih (fun b hb => one b (by simp [hb])); omega
  have hv : vld (.mk o n s ks) = 0 := by
    rw [vld_zero, sz_mk, dep_mk]
    exact ⟨h, by omega, by omega⟩
  obtain ⟨g1, g2⟩ := evs_consts (env := []) hch hc
  obtain ⟨g3, g4⟩ := valS_comp (env := []) (n := n) (s := s) (l := evs [] ks) ha
  unfold evalS
  rw [if_pos hv, kn_mk, g2, g4, ev_mk, g3, g1]; rfl
mutual
def su (nm : ByteArray) (by_ : Ex) : Ex → Ex
  | .mk o n s ks => if isVr o = true ∧ s.data.toList = nm.data.toList then by_ else .mk o n s (sus nm by_ ks)
def sus (nm : ByteArray) (by_ : Ex) : List Ex → List Ex
  | [] => []
  | a :: r => su nm by_ a :: sus nm by_ r
end
theorem sus_map (nm : ByteArray) (b : Ex) (ks : List Ex) : sus nm b ks = ks.map (su nm b) := by
  induction ks with
  | nil => rw [sus]; rfl
  | cons a r ih => rw [sus, ih]; rfl
theorem su_mk (nm : ByteArray) (b : Ex) (o n : Int) (s : ByteArray) (ks : List Ex) : su nm b (.mk o n s ks) = if isVr o = true ∧ s.data.toList = nm.data.toList then b else .mk o n s (ks.map (su nm b)) := by rw [su, sus_map]
theorem su_sz (nm : ByteArray) (b e : Ex) : sz (su nm b e) ≤ sz e * sz b := by
  induction e using Ex.ind with
  | h o n s ks ih =>
    rw [su_mk, sz_mk]
    have hb := sz_pos b
    split
    · exact Nat.le_mul_of_pos_left _ (by omega)
    · rw [sz_mk]
      have : szs (ks.map (su nm b)) ≤ szs ks * sz b := by
        clear hb
        induction ks with
        | nil => simp [szs_nil]
        | cons a r ih2 =>
          rw [List.map_cons, szs_cons, szs_cons, Nat.add_mul]
          have h1 := ih a (by simp)
          have h2 := ih2 (fun c hc => ih c (by simp [hc]))
          omega
      rw [Nat.add_mul]
      omega
end Go.Proofs.YtdiackcefojfkaaGreatDoor.ExM
