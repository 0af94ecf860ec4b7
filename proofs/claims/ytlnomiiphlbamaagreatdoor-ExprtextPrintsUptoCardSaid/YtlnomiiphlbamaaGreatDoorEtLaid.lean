/-
  What the package-level variables that a row of this seat lists give its walks; the world of the witness.
-/
import Derived.Test.YtlnomiiphlbamaaGreatDoorCards
import Derived.Test.YtlnomiiphlbamaaGreatDoorTie
import Derived.Test.YtlnomiiphlbamaaGreatDoorEtLev
import Derived.ProofKit
import Derived.LaidMore
import Derived.OpenShut
import Derived.Stop.Joined
import Derived.Stop.LaidErr
import Derived.SizedLaws
import Derived.Carry
import Derived.Deep.DeepHandedRow
import Derived.Deep.DeepWitnessRowRef
import Derived.Deep.Slices
namespace Go.Proofs.YtlnomiiphlbamaaGreatDoor.EtW
open Go Go.RowKit Go.ChangeShapes Go.WideShapes Go.ChangeAt Go.Proofs.YtlnomiiphlbamaaGreatDoor.LexM Go.Proofs.YtlnomiiphlbamaaGreatDoor.LexW

/-- The list that every row of this seat bears. -/
def laidAll : List (String × DataW Unit) := Rows.exprtextCanonicalRow.laid

theorem own : ownKnob Tryz.prog.godebug = none := by kernel_rfl
theorem tPow10 : (Tryz.prog.globals[3]?).map (·.type) = some 150 := by kernel_rfl
theorem tRange : (Tryz.prog.globals[5]?).map (·.type) = some 119 := by kernel_rfl
theorem cellsU64 : Tryz.prog.cellsOf 132 = 1 := by kernel_rfl
theorem cellsPow10 : Tryz.prog.cellsOf 150 = 20 := by kernel_rfl
theorem cellsErr : Tryz.prog.cellsOf 162 = 1 := by kernel_rfl
theorem cellsStr : Tryz.prog.cellsOf 9 = 1 := by kernel_rfl
theorem star : "*" ++ "errors.errorString" = "*errors.errorString" := by decide
theorem rowErr (u : TypeId) (h : Tryz.prog.typeName? 3 u = some "*errors.errorString") : u = 160 :=
  typeName_ptr_named (nm := "errors.errorString") (by rw [star]; kernel_rfl) (by kernel_rfl) (by decide) u (by rw [star]; exact h)
theorem gBin : Tryz.prog.globalNamed "testbench/exprtext.binaries" = some 0 := by kernel_rfl
theorem tBinS : (Tryz.prog.globals[0]?).map (·.type) = some 110 := by kernel_rfl
theorem gPre : Tryz.prog.globalNamed "testbench/exprtext.prefixes" = some 1 := by kernel_rfl
theorem tPreS : (Tryz.prog.globals[1]?).map (·.type) = some 111 := by kernel_rfl
theorem cellsE : Tryz.prog.cellsOf 3 = 1 ∧ Tryz.prog.cellsOf 9 = 1 ∧ Tryz.prog.cellsOf 4 = 1 ∧ Tryz.prog.cellsOf 90 = 4 ∧ Tryz.prog.cellsOf 94 = 2 := by
  refine ⟨?_, ?_, ?_, ?_, ?_⟩ <;> kernel_rfl
theorem add_at' (b off k : Nat) : (⟨b, off, none⟩ : Addr).add k = ⟨b, off + k, none⟩ := by
  unfold Addr.add
  by_cases h : k = 0
  · subst h; simp
  · simp [h]
abbrev encU : TypeId × Value → Unit := fun _ => ()
set_option maxRecDepth 100000 in
theorem row_bin {W : World} {fuel : Nat} {cs : List Value} {x : DataW Unit × List MemPlace} (hl : cs.length = 4) (h : DataW.trod encU Tryz.prog W 0 (fun _ => true) false fuel 90 cs = some x) :
    ∃ (s : ByteArray) (k o : Int) (b : Bool), cs = [.string s, .int .i64 k, .int .i64 o, .bool b] ∧ x.1 = .agg [.lit (.string s.data.toList), .lit (.int .i64 k), .lit (.int .i64 o), .lit (.bool b)] := by
  obtain ⟨k1, k2, k3, _, _⟩ := cellsE
  obtain ⟨xs, n, _, hx, _, hlen, hfd⟩ := DataW.trod_struct Tryz.underlying90 h
  match cs, hl with
  | [c0, c1, c2, c3], _ =>
    match xs, hlen with
    | [y0, y1, y2, y3], _ =>
      have h0 : DataW.trod encU Tryz.prog W 0 (fun _ => true) false n 9 ([c0, c1, c2, c3].take (Tryz.prog.cellsOf 9)) = some y0 := hfd 0 _ rfl
      rw [k2, show [c0, c1, c2, c3].take 1 = [c0] from rfl] at h0
      have h1 : DataW.trod encU Tryz.prog W 0 (fun _ => true) false n 3 ([c1, c2, c3].take (Tryz.prog.cellsOf 3)) = some y1 := hfd 1 _ rfl
      rw [k1, show [c1, c2, c3].take 1 = [c1] from rfl] at h1
      have h2 : DataW.trod encU Tryz.prog W 0 (fun _ => true) false n 3 ([c2, c3].take (Tryz.prog.cellsOf 3)) = some y2 := hfd 2 _ rfl
      rw [k1, show [c2, c3].take 1 = [c2] from rfl] at h2
      have h3 : DataW.trod encU Tryz.prog W 0 (fun _ => true) false n 4 ([c3].take (Tryz.prog.cellsOf 4)) = some y3 := hfd 3 _ rfl
      rw [k3, show [c3].take 1 = [c3] from rfl] at h3
      obtain ⟨s0, e0, z0, _⟩ := DataW.trod_string Tryz.underlying9 h0
      obtain ⟨m1, e1, z1, _⟩ := DataW.trod_int Tryz.underlying3 h1
      obtain ⟨m2, e2, z2, _⟩ := DataW.trod_int Tryz.underlying3 h2
      obtain ⟨b3, e3, z3⟩ := DataW.trod_bool Tryz.underlying4 h3
      obtain rfl : c0 = .string s0 := by simpa using e0
      obtain rfl : c1 = .int .i64 m1 := by simpa using e1
      obtain rfl : c2 = .int .i64 m2 := by simpa using e2
      obtain rfl : c3 = .bool b3 := by simpa using e3
      subst z0 z1 z2 z3
      exact ⟨s0, m1, m2, b3, rfl, by rw [hx]; rfl⟩
set_option maxRecDepth 100000 in
theorem row_pre {W : World} {fuel : Nat} {cs : List Value} {x : DataW Unit × List MemPlace} (hl : cs.length = 2) (h : DataW.trod encU Tryz.prog W 0 (fun _ => true) false fuel 94 cs = some x) :
    ∃ (s : ByteArray) (k : Int), cs = [.string s, .int .i64 k] ∧ x.1 = .agg [.lit (.string s.data.toList), .lit (.int .i64 k)] := by
  obtain ⟨k1, k2, _, _, _⟩ := cellsE
  obtain ⟨xs, n, _, hx, _, hlen, hfd⟩ := DataW.trod_struct Tryz.underlying94 h
  match cs, hl with
  | [c0, c1], _ =>
    match xs, hlen with
    | [y0, y1], _ =>
      have h0 : DataW.trod encU Tryz.prog W 0 (fun _ => true) false n 9 ([c0, c1].take (Tryz.prog.cellsOf 9)) = some y0 := hfd 0 _ rfl
      rw [k2, show [c0, c1].take 1 = [c0] from rfl] at h0
      have h1 : DataW.trod encU Tryz.prog W 0 (fun _ => true) false n 3 ([c1].take (Tryz.prog.cellsOf 3)) = some y1 := hfd 1 _ rfl
      rw [k1, show [c1].take 1 = [c1] from rfl] at h1
      obtain ⟨s0, e0, z0, _⟩ := DataW.trod_string Tryz.underlying9 h0
      obtain ⟨m1, e1, z1, _⟩ := DataW.trod_int Tryz.underlying3 h1
      obtain rfl : c0 = .string s0 := by simpa using e0
      obtain rfl : c1 = .int .i64 m1 := by simpa using e1
      subst z0 z1
      exact ⟨s0, m1, rfl, by rw [hx]; rfl⟩
def dBin (r : Row) : DataW Unit := .agg [.lit (.string r.1), .lit (.int .i64 r.2.1), .lit (.int .i64 r.2.2.1), .lit (.bool r.2.2.2)]
def dPre (r : List UInt8 × Int) : DataW Unit := .agg [.lit (.string r.1), .lit (.int .i64 r.2)]
theorem var_cell {W : World} {n : String} {g : Nat} {cs : Array Value} (hg : Tryz.prog.globalNamed n = some g) (h : W.var? Tryz.prog n = some cs) (hf : ∃ c t, W.heap[g]? = some (.cells c t (0, 0))) : W.cell? ⟨g, 0, none⟩ = cs[0]? := by
  obtain ⟨c, t, hc⟩ := hf
  unfold World.var? at h
  rw [hg] at h
  simp only [Option.bind_some, hc] at h
  cases h
  exact cell_of_row W g 0 _ _ (0, 0) hc
theorem bin_of_laid {W : World} {r : List (String × DataW Unit)} (h : laidMet Tryz.prog (("testbench/exprtext.binaries", Rows.laid_testbench_exprtext_binaries) :: r) W) : BinAt W := by
  obtain ⟨ps, hv, _, hpl⟩ := h
  obtain ⟨g, t, cs, fuel, p, q, hg, ht, hvar, htrod, _, hps⟩ := hv
  rw [gBin] at hg
  cases hg
  rw [tBinS] at ht
  cases ht
  rcases DataW.trod_slice Tryz.underlying110 htrod with ⟨_, hx⟩ | ⟨a, len, cap, elems, rest, m, _, hcs, hx, _, hlc, _, hel, hE, _, _⟩
  · exact absurd (congrArg Prod.fst hx) (by unfold Rows.laid_testbench_exprtext_binaries; simp)
  · have hd : Rows.laid_testbench_exprtext_binaries = DataW.slice (elems.map (·.1)) (rest.map (·.1)) := congrArg Prod.fst hx
    have hp : p = _ := congrArg Prod.snd hx
    have hrows : elems.map (·.1) = binRow.map dBin := by
      have : Rows.laid_testbench_exprtext_binaries = DataW.slice (binRow.map dBin) ([] : List (DataW Unit)) := rfl
      rw [this] at hd
      injection hd with q1 q2
      exact q1.symm
    have hlen : len = 17 := by rw [← hel, ← List.length_map (f := (·.1)), hrows]; rfl
    subst hlen
    rw [cellsE.2.2.2.1] at hE hp
    have hcz : cs[0]? = some (.slice (some a) 17 cap) := by
      rw [← Array.getElem?_toList, hcs]; rfl
    have hcsz : cs.size = 1 := by rw [← Array.length_toList, hcs]; rfl
    have each : ∀ i y, binRow[i]? = some y → ∀ j, j < 4 → W.cell? ((a.add (i * 4)).add j) = ([.string (bs y.1), .int .i64 y.2.1, .int .i64 y.2.2.1, .bool y.2.2.2] : List Value)[j]? := fun i y hy => by
      have hi : i < 17 := (List.getElem?_eq_some_iff.1 hy).1
      have hb := hE i hi
      rw [List.getElem?_eq_getElem (by omega), Option.bind_eq_some_iff] at hb
      obtain ⟨cs', hc', ht'⟩ := hb
      obtain ⟨_, hcl, hat⟩ := World.cells?_some hc'
      obtain ⟨s, k, o, b, rfl, hxd⟩ := row_bin hcl ht'
      have e : (elems.map (·.1))[i]? = some (elems[i]'(by omega)).1 := by rw [List.getElem?_map, List.getElem?_eq_getElem (by omega)]; rfl
      rw [hrows, List.getElem?_map, hy, hxd] at e
      have e2 := Option.some.inj e
      unfold dBin at e2
      injection e2 with e3
      simp only [List.cons.injEq, DataW.lit.injEq, Lit.string.injEq, Lit.int.injEq, Lit.bool.injEq, true_and, and_true] at e3
      obtain ⟨r1, r2, r3, r4⟩ := e3
      rw [r1, r2, r3, r4]
      exact hat
    obtain ⟨b, off, spot⟩ := a
    have hspot : spot = none := by
      have := each 0 _ rfl 0 (by omega)
      simpa [Addr.add] using World.cell?_spot this
    subst hspot
    have hin : MemPlace.cell b off ∈ ps := by
      rw [hps, hp]
      exact List.mem_append.2 (.inl (List.mem_append.2 (.inr (List.mem_append.2 (.inl (MemPlace.mem_row.2 ⟨0, by omega, by simp⟩))))))
    have hing : MemPlace.cell 0 0 ∈ ps := by
      rw [hps]
      exact List.mem_append.2 (.inl (List.mem_append.2 (.inl (MemPlace.mem_row.2 ⟨0, by omega, by simp⟩))))
    obtain ⟨⟨c1, t1, hh⟩, _⟩ := hpl b off hin
    refine ⟨b, off, cap, (var_cell gBin hvar (hpl _ _ hing).1).trans hcz, hlc, (Array.getElem?_eq_some_iff.1 hh).1, fun i y hy => ?_⟩
    have q := each i y hy
    simp only [add_at'] at q
    exact ⟨q 0 (by omega), q 1 (by omega), q 2 (by omega), q 3 (by omega)⟩
theorem pre_of_laid {W : World} {r : List (String × DataW Unit)} (h : laidMet Tryz.prog (("testbench/exprtext.prefixes", Rows.laid_testbench_exprtext_prefixes) :: r) W) : PreAt W := by
  obtain ⟨ps, hv, _, hpl⟩ := h
  obtain ⟨g, t, cs, fuel, p, q, hg, ht, hvar, htrod, _, hps⟩ := hv
  rw [gPre] at hg
  cases hg
  rw [tPreS] at ht
  cases ht
  rcases DataW.trod_slice Tryz.underlying111 htrod with ⟨_, hx⟩ | ⟨a, len, cap, elems, rest, m, _, hcs, hx, _, hlc, _, hel, hE, _, _⟩
  · exact absurd (congrArg Prod.fst hx) (by unfold Rows.laid_testbench_exprtext_prefixes; simp)
  · have hd : Rows.laid_testbench_exprtext_prefixes = DataW.slice (elems.map (·.1)) (rest.map (·.1)) := congrArg Prod.fst hx
    have hp : p = _ := congrArg Prod.snd hx
    have hrows : elems.map (·.1) = preRow.map dPre := by
      have : Rows.laid_testbench_exprtext_prefixes = DataW.slice (preRow.map dPre) ([] : List (DataW Unit)) := rfl
      rw [this] at hd
      injection hd with q1 q2
      exact q1.symm
    have hlen : len = 3 := by rw [← hel, ← List.length_map (f := (·.1)), hrows]; rfl
    subst hlen
    rw [cellsE.2.2.2.2] at hE hp
    have hcz : cs[0]? = some (.slice (some a) 3 cap) := by
      rw [← Array.getElem?_toList, hcs]; rfl
    have hcsz : cs.size = 1 := by rw [← Array.length_toList, hcs]; rfl
    have each : ∀ i y, preRow[i]? = some y → ∀ j, j < 2 → W.cell? ((a.add (i * 2)).add j) = ([.string (bs y.1), .int .i64 y.2] : List Value)[j]? := fun i y hy => by
      have hi : i < 3 := (List.getElem?_eq_some_iff.1 hy).1
      have hb := hE i hi
      rw [List.getElem?_eq_getElem (by omega), Option.bind_eq_some_iff] at hb
      obtain ⟨cs', hc', ht'⟩ := hb
      obtain ⟨_, hcl, hat⟩ := World.cells?_some hc'
      obtain ⟨s, k, rfl, hxd⟩ := row_pre hcl ht'
      have e : (elems.map (·.1))[i]? = some (elems[i]'(by omega)).1 := by rw [List.getElem?_map, List.getElem?_eq_getElem (by omega)]; rfl
      rw [hrows, List.getElem?_map, hy, hxd] at e
      have e2 := Option.some.inj e
      unfold dPre at e2
      injection e2 with e3
      simp only [List.cons.injEq, DataW.lit.injEq, Lit.string.injEq, Lit.int.injEq, true_and, and_true] at e3
      obtain ⟨r1, r2⟩ := e3
      rw [r1, r2]
      exact hat
    obtain ⟨b, off, spot⟩ := a
    have hspot : spot = none := by
      have := each 0 _ rfl 0 (by omega)
      simpa [Addr.add] using World.cell?_spot this
    subst hspot
    have hin : MemPlace.cell b off ∈ ps := by
      rw [hps, hp]
      exact List.mem_append.2 (.inl (List.mem_append.2 (.inr (List.mem_append.2 (.inl (MemPlace.mem_row.2 ⟨0, by omega, by simp⟩))))))
    have hing : MemPlace.cell 1 0 ∈ ps := by
      rw [hps]
      exact List.mem_append.2 (.inl (List.mem_append.2 (.inl (MemPlace.mem_row.2 ⟨0, by omega, by simp⟩))))
    obtain ⟨⟨c1, t1, hh⟩, _⟩ := hpl b off hin
    refine ⟨b, off, cap, (var_cell gPre hvar (hpl _ _ hing).1).trans hcz, hlc, (Array.getElem?_eq_some_iff.1 hh).1, fun i y hy => ?_⟩
    have q := each i y hy
    simp only [add_at'] at q
    exact ⟨q 0 (by omega), q 1 (by omega)⟩
theorem tab_of_laid {W : World} (h : laidMetH Tryz.prog laidAll W) : TabE W := by
  rw [MakeChecks.laidMetH_plain _ _ _ (by kernel_rfl)] at h
  have h1 : laidMet Tryz.prog (("internal/strconv.uint64pow10", Lib.tabData .u64 Lib.pow10Tab) :: ("strconv.ErrRange", Rows.laid_strconv_ErrRange) :: ("strconv.ErrSyntax", Rows.laid_strconv_ErrSyntax) :: ("testbench/exprtext.binaries", Rows.laid_testbench_exprtext_binaries) :: ("testbench/exprtext.prefixes", Rows.laid_testbench_exprtext_prefixes) :: []) W := h.tail.tail
  obtain ⟨a0, _, hv0, _⟩ := laid_sentinel h1.tail gRange tRange Tryz.underlying119 rowErr Tryz.underlying160 Tryz.underlying162 rfl rfl Tryz.underlying9 cellsErr cellsStr
  exact ⟨⟨_, _, hv0⟩, Lib.tabIs_of_head gPow10 tPow10 Tryz.underlying150 Tryz.underlying132 cellsU64 cellsPow10 h1, bin_of_laid h1.tail.tail.tail, pre_of_laid h1.tail.tail.tail.tail⟩
/-- The heap that the variables' own initialisers leave meets the condition. -/
theorem door_met (os : Os) (args : Array Value) : laidMetH Tryz.prog laidAll ((World.doorLaid Tryz.prog 400 os).forCall (fun _ _ => 0) ⟨#[], args, []⟩).memory :=
  laidMetH_of_parts3 (fuel := 8) (laidMet_of_run' 8 (by kernel_rfl) (by kernel_rfl)) (by kernel_rfl) (by kernel_rfl)
theorem bounds {a : Int} (h : (Lit.int .i64 a).wf = true) : -9223372036854775808 ≤ a ∧ a ≤ 9223372036854775807 := by
  have e1 : IntKind.i64.min = -9223372036854775808 := rfl
  have e2 : IntKind.i64.max = 9223372036854775807 := rfl
  simp [Lit.wf, e1, e2] at h
  exact h
theorem laidOut : laidOutB Tryz.prog = true := by kernel_rfl
theorem reach_le {n : Nat} (h : decide (n ≤ reachBytes) = true) : n ≤ 140737488351232 := of_decide_eq_true h
end Go.Proofs.YtlnomiiphlbamaaGreatDoor.EtW
