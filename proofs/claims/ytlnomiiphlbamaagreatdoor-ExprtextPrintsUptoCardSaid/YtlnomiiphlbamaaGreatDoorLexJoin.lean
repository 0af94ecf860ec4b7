/-
  What the lexer's Join returns, for lists of tokens of bounded texts.
-/
import Derived.Test.YtlnomiiphlbamaaGreatDoorLexTok
import Derived.Deep.OwnRows
namespace Go.Proofs.YtlnomiiphlbamaaGreatDoor.LexW
open Go Go.RowKit Go.Proofs.YtlnomiiphlbamaaGreatDoor.NumM Go.Proofs.YtlnomiiphlbamaaGreatDoor.LexM

/-- The value is a slice of these tokens. -/
def ToksAt (w : World) (v : Value) (l : List Tk) : Prop :=
  ∃ p cap, v = .slice p l.length cap ∧ l.length ≤ cap ∧ (0 < l.length → ∃ b off, p = some ⟨b, off, none⟩ ∧ b < w.heap.size ∧ ∀ i t, l[i]? = some t →
    w.cell? ⟨b, off + i * 4, none⟩ = some (.int .i64 t.kind) ∧ w.cell? ⟨b, off + i * 4 + 1, none⟩ = some (.int .i64 t.n) ∧ w.cell? ⟨b, off + i * 4 + 2, none⟩ = some (.string (bs t.text)) ∧ w.cell? ⟨b, off + i * 4 + 3, none⟩ = some (.int .i64 t.line))
theorem ToksAt.later {w w' : World} {v : Value} {l : List Tk} (h : ToksAt w v l) (hb : Below w.heap.size w w') : ToksAt w' v l := by
  obtain ⟨p, cap, rfl, hc, hx⟩ := h
  refine ⟨p, cap, rfl, hc, fun h0 => ?_⟩
  obtain ⟨b, off, hp, hbs, hcell⟩ := hx h0
  refine ⟨b, off, hp, Nat.lt_of_lt_of_le hbs hb.size, fun i t hi => ?_⟩
  rw [hb.cell hbs, hb.cell hbs, hb.cell hbs, hb.cell hbs]
  exact hcell i t hi
theorem tkCells_at : ∀ (l : List Tk) (i : Nat) (t : Tk), l[i]? = some t → (tkCells l)[i * 4]? = some (.int .i64 t.kind) ∧ (tkCells l)[i * 4 + 1]? = some (.int .i64 t.n) ∧ (tkCells l)[i * 4 + 2]? = some (.string (bs t.text)) ∧ (tkCells l)[i * 4 + 3]? = some (.int .i64 t.line)
  | [], i, t, h => by simp at h
  | u :: r, 0, t, h => by
    have : u = t := by simpa using h
    subst this
    exact ⟨rfl, rfl, rfl, rfl⟩
  | u :: r, i + 1, t, h => by
    have ih := tkCells_at r i t (by simpa using h)
    have e : tkCells (u :: r) = [.int .i64 u.kind, .int .i64 u.n, .string (bs u.text), .int .i64 u.line] ++ tkCells r := by unfold tkCells; rw [List.flatMap_cons]
    have e1 : ∀ j, (tkCells (u :: r))[(i + 1) * 4 + j]? = (tkCells r)[i * 4 + j]? := fun j => by
      rw [e, List.getElem?_append_right (by simp; omega)]
      congr 1
      simp; omega
    exact ⟨(e1 0).trans ih.1, (e1 1).trans ih.2.1, (e1 2).trans ih.2.2.1, (e1 3).trans ih.2.2.2⟩
theorem ToksAt.ofOwn {w : World} {B : Nat} {v : Value} {l : List Tk} (h : w.ownsRow B 41 4 v l.length (tkCells l)) : ToksAt w v l := by
  obtain ⟨_, ⟨hv, hn⟩ | ⟨g, cap, cur, hv, _, hg, hle, _, _, htake⟩⟩ := h
  · exact ⟨none, 0, by rw [hv, hn], by omega, fun x => by omega⟩
  · refine ⟨some ⟨g, 0, none⟩, cap, hv, hle, fun _ => ⟨g, 0, rfl, (Array.getElem?_eq_some_iff.1 hg).1, fun i t hi => ?_⟩⟩
    have hil : i < l.length := (List.getElem?_eq_some_iff.1 hi).1
    have at_ : ∀ j, j < l.length * 4 → w.cell? ⟨g, 0 + j, none⟩ = (tkCells l)[j]? := fun j hj => by
      rw [Nat.zero_add, cell_of_row w g j cur 41 (0, 0) hg, ← htake, List.getElem?_take, if_pos hj]
      simp
    have q := tkCells_at l i t hi
    refine ⟨?_, ?_, ?_, ?_⟩
    · rw [at_ _ (by omega)]; exact q.1
    · rw [Nat.add_assoc, at_ _ (by omega)]; exact q.2.1
    · rw [Nat.add_assoc, at_ _ (by omega)]; exact q.2.2.1
    · rw [Nat.add_assoc, at_ _ (by omega)]; exact q.2.2.2
theorem infoStr : (Tryz.prog.info? 9).map (fun i => (i.zero, i.size, i.bytes)) = some (some (.string ⟨#[]⟩), 1, 16) := by kernel_rfl
def txt (l : List Tk) (j : Nat) : List UInt8 := ((l[j]?).map (·.text)).getD []
/-- The first k texts, and empty ones. -/
def strF (l : List Tk) (k : Nat) : Nat → Value := fun j => if j < k then .string (bs (txt l j)) else .string ⟨#[]⟩
theorem strF_next {l : List Tk} {k : Nat} {t : Tk} (h : l[k]? = some t) (j : Nat) : (if j = k then Value.string (bs t.text) else strF l k j) = strF l (k + 1) j := by
  unfold strF
  by_cases e : j = k
  · subst e
    rw [if_pos rfl, if_pos (by omega), txt, h]; rfl
  · rw [if_neg e]
    by_cases g : j < k
    · rw [if_pos g, if_pos (by omega)]
    · rw [if_neg g, if_neg (by omega)]
theorem join_eq (l : List Tk) : Lib.join (l.map (·.text)) [32] = joinT l := by
  induction l with
  | nil => rfl
  | cons t r ih =>
    cases r with
    | nil => exact Lib.join_one _ _
    | cons u r =>
      rw [joinT, ← ih]
      rw [List.map_cons, List.map_cons, Lib.join_cons, Lib.join_cons]
      simp [Lib.joinTail]
theorem joinT_len (M : Nat) (l : List Tk) (h : ∀ t ∈ l, t.text.length ≤ M) : (joinT l).length ≤ l.length * (M + 1) := by
  induction l with
  | nil => simp [joinT]
  | cons t r ih =>
    have h1 := h t (by simp)
    have h2 := ih (fun u hu => h u (by simp [hu]))
    rw [List.length_cons, Nat.succ_mul]
    cases r with
    | nil => rw [joinT]; simp; omega
    | cons u r => rw [joinT, List.length_append, List.length_cons]; omega
def tStr (w : World) (r : List UInt8 × Int) (e : Ending) (w' : World) : Prop := e = .returned (.tuple #[.string (bs r.1), .int .i64 r.2]) ∧ Below w.heap.size w w'
theorem tStr_mk {w w' : World} {x : ByteArray} {er : Int} {r : List UInt8 × Int} (h : r = (x.data.toList, er)) (hb : Below w.heap.size w w') : tStr w r (.returned (.tuple #[.string x, .int .i64 er])) w' := by subst h; exact ⟨rfl, hb⟩
theorem take_all {l : List Tk} {k : Nat} {t : Tk} (h : (l.take k).all validS = true) (ht : l[k]? = some t) (hv : validS t = true) : (l.take (k + 1)).all validS = true := by
  have hk := (List.getElem?_eq_some_iff.1 ht)
  obtain ⟨hk, he⟩ := hk
  rw [List.take_succ_eq_append_getElem hk, List.all_append, h, he]
  simp [hv]
theorem not_all {l : List Tk} {k : Nat} {t : Tk} (ht : l[k]? = some t) (hv : validS t = false) : joinS l = ([], 1) := by
  unfold joinS
  have : l.all validS = false := by
    rw [Bool.eq_false_iff]
    intro e
    have := List.all_eq_true.1 e t (List.mem_of_getElem? ht)
    rw [hv] at this
    cases this
  rw [this]; rfl
set_option maxRecDepth 100000 in
set_option maxHeartbeats 8000000 in
theorem join_any (l : List Tk) (v : Value) (w : World) (h : ToksAt w v l) (hn : l.length ≤ 16384) (hM : ∀ t ∈ l, t.text.length ≤ 16384) (ht : Tab w) :
    Calls Tryz.prog 113 #[v] w (tStr w (joinS l)) := by
  obtain ⟨p, cap, rfl, hcap, hx⟩ := h
  have HX := Lib.hid hx
  have HT := Lib.hid ht
  have HMx := Lib.hid hM
  clear hx ht hM
  obtain ⟨n, hnn⟩ : ∃ n, l.length = n := ⟨_, rfl⟩
  have hmk := run_make_row' (P := Tryz.prog) 45 9 (.string ⟨#[]⟩) 16 Tryz.underlying45 infoStr rfl .i64 .i64 l.length (by omega) (by omega)
  have HR : Hid ((w.alloc (.cells (madeCells #[.string ⟨#[]⟩] n) 9)).rowIs w.heap.size 9 n (strF l 0)) := Lib.hid (World.rowIs_made w (.string ⟨#[]⟩) n 9)
  have HB0 : Hid (Below w.heap.size w (w.alloc (.cells (madeCells #[.string ⟨#[]⟩] n) 9))) := Lib.hid ((Below.refl _ _).alloc (Nat.le_refl _) _)
  rw [hnn] at hmk hcap hn ⊢
  have HN := Lib.hid hnn
  clear hnn
  go_enter Tryz.func113, Tryz.ntmps113
  go_wp2
  go_loopw [12] (fun i wr => ∃ k : Nat, k ≤ n ∧ i = .int .i64 k ∧ Hid (wr.rowIs w.heap.size 9 n (strF l k)) ∧ Hid (Below w.heap.size w wr) ∧ Hid ((l.take k).all validS = true)) (fun i _ => n - (intOf i).toNat)
  case atStart => exact ⟨0, Nat.zero_le _, rfl, HR, HB0, Lib.hid rfl⟩
  case round =>
    obtain ⟨k, hk, rfl, ROW, BW, VA⟩ := hrel
    by_cases hlt : k < n
    · obtain ⟨b, off, rfl, hbs, hcell⟩ := HX.out (by rw [HN.out]; omega)
      obtain ⟨t, htk⟩ : ∃ t, l[k]? = some t := ⟨_, List.getElem?_eq_getElem (by rw [HN.out]; exact hlt)⟩
      obtain ⟨q0, q1, q2, q3⟩ := hcell k t htk
      have ca0 : wr.cell? ⟨b, off + k * 4, none⟩ = some (.int .i64 t.kind) := by rw [BW.out.cell hbs]; exact q0
      have ca1 : wr.cell? ⟨b, off + k * 4 + 1, none⟩ = some (.int .i64 t.n) := by rw [BW.out.cell hbs]; exact q1
      have ca2 : wr.cell? ⟨b, off + k * 4 + 2, none⟩ = some (.string (bs t.text)) := by rw [BW.out.cell hbs]; exact q2
      have ca3 : wr.cell? ⟨b, off + k * 4 + 3, none⟩ = some (.int .i64 t.line) := by rw [BW.out.cell hbs]; exact q3
      have hlen : t.text.length ≤ 16384 := HMx.out t (List.mem_of_getElem? htk)
      have VC : Hid (∀ W, Below w.heap.size w W → Calls Tryz.prog 102 #[tv t.kind t.n (bs t.text) t.line] W fun e w' => e = .returned (.bool (validS t)) ∧ Below W.heap.size W w') :=
        Lib.hid fun W hb => valid_any t W (by omega) (HT.out.later hb)
      have SN := Lib.hid (strF_next htk)
      have HTK := Lib.hid htk
      clear hcell q0 q1 q2 q3 htk hlen
      cases hv : validS t
      · have EE := Lib.hid (not_all HTK.out hv)
        rw [hv] at VC
        clear hv
        obtain ⟨kd, nn, y, ln, e0, e1, e2, e3⟩ : ∃ kd nn y ln, t.kind = kd ∧ t.n = nn ∧ bs t.text = y ∧ t.line = ln := ⟨_, _, _, _, rfl, rfl, rfl, rfl⟩
        rw [e0] at ca0 VC
        rw [e1] at ca1 VC
        rw [e2] at ca2 VC SN
        rw [e3] at ca3 VC
        clear e0 e1 e2 e3
        go_wp2_with (go_at_call 102; ((with_reducible refine (VC.out _ (BW.out.alloc BW.out.size _)).mono ?_); rintro e w1 ⟨rfl, hb⟩; have BW1 := Lib.hid (BW.out.trans ((below_new hb).mono BW.out.size)); clear hb))
        go_ret2
        exact tStr_mk EE.out BW1.out
      · have VA2 := Lib.hid (take_all VA.out HTK.out hv)
        rw [hv] at VC
        clear hv
        obtain ⟨kd, nn, y, ln, e0, e1, e2, e3⟩ : ∃ kd nn y ln, t.kind = kd ∧ t.n = nn ∧ bs t.text = y ∧ t.line = ln := ⟨_, _, _, _, rfl, rfl, rfl, rfl⟩
        rw [e0] at ca0 VC
        rw [e1] at ca1 VC
        rw [e2] at ca2 VC SN
        rw [e3] at ca3 VC
        clear e0 e1 e2 e3
        go_wp2_with (go_at_call 102; ((with_reducible refine (VC.out _ (BW.out.alloc BW.out.size _)).mono ?_); rintro e w1 ⟨rfl, hb⟩; have BW1 := Lib.hid (BW.out.trans ((below_new hb).mono BW.out.size)); have F := Lib.hid ((Four.new wr _ _ _ _ _).stay hb); have R1 := Lib.hid (ROW.out.of_block ((below_new hb).block _ ROW.out.lt)); clear hb ca0 ca1 ca2 ca3; have c2 := F.out.c2; have ck := R1.out.cell hlt; have fk := R1.out.frozen k))
        go_roundw
        case rel => exact ⟨k + 1, by omega, by go_num, Lib.hid ((R1.out.set k _).congr (fun j _ => SN.out j)), Lib.hid (BW1.out.setCell (Nat.le_refl _) _), VA2⟩
        case measure => simp [intOf]; omega
    · obtain rfl : n = k := by omega
      have hall : l.all validS = true := by have := VA.out; rw [List.take_of_length_le (by rw [HN.out]; exact Nat.le_refl _)] at this; exact this
      have EJ : Hid (joinS l = (joinT l, 0)) := Lib.hid (by unfold joinS; rw [hall]; rfl)
      have HL := joinT_len 16384 l HMx.out
      rw [HN.out] at HL
      have SJ : Hid (Calls Tryz.prog 105 #[.slice (some ⟨w.heap.size, 0, none⟩) n n, .string ⟨#[32]⟩] wr fun e w' => e = .returned (.string (bs (joinT l))) ∧ Below wr.heap.size wr w') := Lib.hid (by
        have e1 : (l.map fun t => bs t.text).map (·.data.toList) = l.map (·.text) := by rw [List.map_map]; rfl
        have q := Tryz.strings_Join w.heap.size 0 n (l.map fun t => bs t.text) ⟨#[32]⟩ wr (fun j x hj => by
          rw [Nat.zero_add]
          have hjn : j < n := by
            have := (List.getElem?_eq_some_iff.1 hj).1
            rw [List.length_map, HN.out] at this; exact this
          rw [ROW.out.cell hjn]
          rw [List.getElem?_map] at hj
          rcases g : l[j]? with _ | t
          · rw [g] at hj; cases hj
          · rw [g] at hj
            have : bs t.text = x := by simpa using hj
            rw [strF, if_pos hjn, txt, g, ← this]; rfl) ROW.out.lt (by rw [List.length_map, HN.out]; omega) (by rw [List.length_map, HN.out]; exact Nat.le_refl _) (by rw [e1]; show (Lib.join _ [32]).length ≤ _; rw [join_eq]; omega)
        rw [List.length_map, HN.out, e1] at q
        have e2 : Lib.join (l.map (·.text)) (⟨#[32]⟩ : ByteArray).data.toList = joinT l := join_eq l
        rw [e2] at q
        exact q)
      clear hall HL
      go_wp2_with (go_at_call 105; ((with_reducible refine SJ.out.mono ?_); rintro e w1 ⟨rfl, hb⟩))
      go_ret2
      exact tStr_mk EJ.out (BW.out.trans (hb.mono BW.out.size))
end Go.Proofs.YtlnomiiphlbamaaGreatDoor.LexW
