/-
  Laws that the card uses; no conditions beside those that each states (ItMath ItNames ClMem ItCntM).
-/
import Derived.Test.YtpejflgdehioaaaGreatDoorQ32
namespace Go.Proofs.YtpejflgdehioaaaGreatDoor.ItM
open Go Go.Proofs.YtpejflgdehioaaaGreatDoor.WordM Go.Proofs.YtpejflgdehioaaaGreatDoor.LexM Go.Proofs.YtpejflgdehioaaaGreatDoor.ExM
open Go.Proofs.YtpejflgdehioaaaGreatDoor.ClM (Fld firstE firstE_zero firstE_at)
theorem len_iszs (l : List It) : l.length ≤ iszs l := by
  induction l with
  | nil => simp
  | cons a r ih => rw [iszs_cons, isz_eq]; simp; omega
theorem isz_mem {l : List It} {a : It} (h : a ∈ l) : isz a ≤ iszs l := by
  induction l with
  | nil => cases h
  | cons b r ih =>
    rw [iszs_cons]; rcases List.mem_cons.1 h with rfl | h
    · omega
    · have := ih h; omega
theorem rsL_mem {l : List It} : RsL l ↔ ∀ x ∈ l, RsI x := by
  induction l with
  | nil => simp [rsL_nil]
  | cons a r ih => rw [rsL_cons, ih]; simp
end Go.Proofs.YtpejflgdehioaaaGreatDoor.ItM
namespace Go.Proofs.YtpejflgdehioaaaGreatDoor.ItW
open Go Go.RowKit Go.Shelf Go.Proofs.YtpejflgdehioaaaGreatDoor.LexW Go.Proofs.YtpejflgdehioaaaGreatDoor.LexM Go.Proofs.YtpejflgdehioaaaGreatDoor.ExM Go.Proofs.YtpejflgdehioaaaGreatDoor.ExW Go.Proofs.YtpejflgdehioaaaGreatDoor.ItM
open Go.Proofs.YtpejflgdehioaaaGreatDoor.ClM (Fld firstE firstE_zero)
attribute [local go_sem] Oper.semAt_some
theorem SetM.kept {W W' : World} {mb : Nat} {l : List ByteArray} {row : Option Nat} (h : SetM W mb l) (hg : W.grownBy W' row) (hr : some mb ≠ row) : SetM W' mb l := World.ownsMap.kept h hg hr
end Go.Proofs.YtpejflgdehioaaaGreatDoor.ItW
namespace Go.Proofs.YtpejflgdehioaaaGreatDoor.ClW
open Go Go.RowKit Go.Proofs.YtpejflgdehioaaaGreatDoor.LexW Go.Proofs.YtpejflgdehioaaaGreatDoor.LexM Go.Proofs.YtpejflgdehioaaaGreatDoor.ClM
theorem At.bInv {S : Nat → Prop} {w : World} {v : Value} {lf : Lf} (h : At S w .b v lf) : ∃ i, v = .bool i ∧ lf = .b i := by cases h; exact ⟨_, rfl, rfl⟩
theorem RowA.wt {S : Nat → Prop} {w : World} {p : Option Addr} {cap : Nat} {F : Nat → Nat → Value} {l : List (List Lf)} (h : RowA S w .weights p cap F l) {i : Nat} {x : List Lf} (hi : l[i]? = some x) :
    ∃ b off a c d e, x = [.n a, .n c, .n d, .b e] ∧ p = some ⟨b, off, none⟩ ∧ S b ∧ w.cell? ⟨b, off + i * 4, none⟩ = some (.int .i64 a) ∧ w.cell? ⟨b, off + i * 4 + 1, none⟩ = some (.int .i64 c) ∧ w.cell? ⟨b, off + i * 4 + 2, none⟩ = some (.int .i64 d) ∧ w.cell? ⟨b, off + i * 4 + 3, none⟩ = some (.bool e) := by
  have hil := (List.getElem?_eq_some_iff.1 hi).1; obtain ⟨b, off, rfl, hb, hcell⟩ := h.hp (by omega); have hw := h.hw i x hi; match x, hw with
  | [y0, y1, y2, y3], _ =>
    obtain ⟨a, e0, rfl⟩ := (h.hx i _ 0 y0 .n hi rfl rfl).nInv; obtain ⟨c, e1, rfl⟩ := (h.hx i _ 1 y1 .n hi rfl rfl).nInv; obtain ⟨d, e2, rfl⟩ := (h.hx i _ 2 y2 .n hi rfl rfl).nInv; obtain ⟨e, e3, rfl⟩ := (h.hx i _ 3 y3 .b hi rfl rfl).bInv; have c0 := hcell i 0 hil (by decide); have c1 := hcell i 1 hil (by decide); have c2 := hcell i 2 hil (by decide); have c3 := hcell i 3 hil (by decide); rw [e0] at c0; rw [e1] at c1; rw [e2] at c2; rw [e3] at c3; exact ⟨b, off, a, c, d, e, rfl, rfl, hb, c0, c1, c2, c3⟩
end Go.Proofs.YtpejflgdehioaaaGreatDoor.ClW
namespace Go.Proofs.YtpejflgdehioaaaGreatDoor.ItM
open Go Go.Proofs.YtpejflgdehioaaaGreatDoor.WordM Go.Proofs.YtpejflgdehioaaaGreatDoor.LexM Go.Proofs.YtpejflgdehioaaaGreatDoor.ExM
def okB (x : It) : Bool := decide (sz x.e ≤ 60) && (decide (x.ws.length ≤ 20) && (decide (x.bf.length ≤ 20) && (decide (x.af.length ≤ 20) && (decide (x.nm.size ≤ 40) && decide (x.ix.size ≤ 40)))))
mutual
/-- What a constraint's own lists add. -/
def lcI : It → Int → Int
  | .mk _ _ _ _ _ it el _ _, m => lcL it m it.length + lcL el m el.length
/-- What count returns, k being counted. -/
def lcL : List It → Int → Int → Int
  | [], _, k => k
  | a :: r, n, k => if k ≤ n then (if okB a = true then lcL r n (k + lcI a (n - k)) else n + 1) else k
end
theorem lcI_eq (x : It) (m : Int) : lcI x m = lcL x.it m x.it.length + lcL x.el m x.el.length := by cases x; rw [lcI]; rfl
theorem lcL_nil (n k : Int) : lcL [] n k = k := by rw [lcL]
theorem lcL_cons (a : It) (r : List It) (n k : Int) : lcL (a :: r) n k = if k ≤ n then (if okB a = true then lcL r n (k + lcI a (n - k)) else n + 1) else k := by rw [lcL]
mutual
def FwI : It → Prop
  | .mk kd e nm ix ws it el bf af => okB (.mk kd e nm ix ws it el bf af) = true ∧ FwL it ∧ FwL el
/-- All constraints, at any depth, are played. -/
def FwL : List It → Prop
  | [] => True
  | a :: r => FwI a ∧ FwL r
end
theorem fwI_eq (x : It) : FwI x ↔ okB x = true ∧ FwL x.it ∧ FwL x.el := by cases x; rw [FwI]; rfl
theorem fwL_nil : FwL [] := by rw [FwL]; trivial
theorem fwL_cons (a : It) (r : List It) : FwL (a :: r) ↔ FwI a ∧ FwL r := by rw [FwL]
theorem okB_iff {x : It} : okB x = true ↔ sz x.e ≤ 60 ∧ x.ws.length ≤ 20 ∧ x.bf.length ≤ 20 ∧ x.af.length ≤ 20 ∧ x.nm.size ≤ 40 ∧ x.ix.size ≤ 40 := by
  unfold okB; simp only [Bool.and_eq_true, decide_eq_true_eq]
theorem fw_rs (l : List It) : FwL l → RsL l := by
  induction l using its_rec with
  | h0 => intro _; exact rsL_nil
  | h1 x r h1 h2 h3 =>
    intro h; rw [fwL_cons, fwI_eq, okB_iff] at h; rw [rsL_cons, rsI_eq]; refine ⟨⟨⟨?_, ?_, ?_, ?_⟩, h1 h.1.2.1, h2 h.1.2.2⟩, h3 h.2⟩ <;> omega
theorem lc_ge (l : List It) : ∀ n k : Int, (0 ≤ k → k ≤ lcL l n k) ∧ (n ≤ 70 → 0 ≤ k → lcL l n k ≤ k + 73 * (iszs l : Int) - (l.length : Int)) := by
  induction l using its_rec with
  | h0 => intro n k; rw [lcL_nil, iszs_nil, List.length_nil]; omega
  | h1 x r h1 h2 h3 =>
    intro n k; rw [lcL_cons, iszs_cons, isz_eq, List.length_cons]; have l0 := len_iszs r; have a1 := h1 (n - k) x.it.length; have a2 := h2 (n - k) x.el.length; have l1 := len_iszs x.it; have l2 := len_iszs x.el; split
    · split
      · have e := lcI_eq x (n - k); have a3 := h3 n (k + lcI x (n - k)); have b1 := a1.1 (by omega); have b2 := a2.1 (by omega); refine ⟨fun hk => ?_, fun hn hk => ?_⟩
        · have := a3.1 (by omega); omega
        · have c1 := a1.2 (by omega) (by omega); have c2 := a2.2 (by omega) (by omega); have := a3.2 hn (by omega); omega
      · omega
    · omega
theorem lc_true (l : List It) : ∀ n k : Int, 0 ≤ k → lcL l n k ≤ n → FwL l ∧ lcL l n k = k + (iszs l : Int) - (l.length : Int) := by
  induction l using its_rec with
  | h0 => intro n k _ _; rw [lcL_nil, iszs_nil]; exact ⟨fwL_nil, by simp⟩
  | h1 x r h1 h2 h3 =>
    intro n k hk h; rw [lcL_cons] at h ⊢; rw [iszs_cons, isz_eq, fwL_cons, fwI_eq, List.length_cons]; split at h
    · rename_i hkn; rw [if_pos hkn]; split at h
      · rename_i hok; rw [if_pos hok]; have e := lcI_eq x (n - k); have a1 := (lc_ge x.it (n - k) x.it.length).1 (by omega); have a2 := (lc_ge x.el (n - k) x.el.length).1 (by omega); have a3 := (lc_ge r n (k + lcI x (n - k))).1 (by omega); obtain ⟨f1, g1⟩ := h1 (n - k) x.it.length (by omega) (by omega); obtain ⟨f2, g2⟩ := h2 (n - k) x.el.length (by omega) (by omega); obtain ⟨f3, g3⟩ := h3 n (k + lcI x (n - k)) (by omega) h; refine ⟨⟨⟨hok, f1, f2⟩, f3⟩, ?_⟩; rw [g3]; omega
      · omega
    · omega
def fewB (l : List It) : Bool := decide (lcL l 70 (l.length : Int) ≤ 70)
theorem few_true {l : List It} (h : fewB l = true) : FwL l ∧ iszs l ≤ 70 := by
  obtain ⟨h1, h2⟩ := lc_true l 70 l.length (by omega) (of_decide_eq_true h); have := of_decide_eq_true h; exact ⟨h1, by omega⟩
end Go.Proofs.YtpejflgdehioaaaGreatDoor.ItM
