/-
  Laws that the card uses; no conditions beside those that each states (ItRVar ItAsk ExSigO ItSmall).
-/
import Derived.Test.YtpejflgdehioaaaGreatDoorQ14
import Derived.Test.YtpejflgdehioaaaGreatDoorQ25
import Derived.Test.YtpejflgdehioaaaGreatDoorQ32
namespace Go.Proofs.YtpejflgdehioaaaGreatDoor.ItW
open Go Go.RowKit Go.Proofs.YtpejflgdehioaaaGreatDoor.NumM Go.Proofs.YtpejflgdehioaaaGreatDoor.LexW Go.Proofs.YtpejflgdehioaaaGreatDoor.LexM Go.Proofs.YtpejflgdehioaaaGreatDoor.ExM Go.Proofs.YtpejflgdehioaaaGreatDoor.ExW Go.Proofs.YtpejflgdehioaaaGreatDoor.ItM
open Go.Proofs.YtpejflgdehioaaaGreatDoor.ClM (Fld)
theorem szO_mem {fs : List Fld} {s : ByteArray} {n : Int} (h : szO fs s = some n) : ∃ f ∈ fs, f.nm = s ∧ f.sz = n := by
  unfold szO at h; obtain ⟨f, hf, rfl⟩ := Option.map_eq_some_iff.1 h; exact ⟨f, List.mem_of_find?_eq_some hf, ClM.same_iff.1 (by simpa using List.find?_some hf), rfl⟩
theorem cutK_pos (s : ByteArray) : 0 ≤ cutK s := by unfold cutK; omega
set_option maxRecDepth 100000 in
set_option maxHeartbeats 8000000 in
theorem variableR_any (fs : List Fld) (hNm : ∀ f ∈ fs, nmB f.nm.data.toList = true) (cv : Value) (s : ByteArray) (N : Nat) (w : World) (hc : ClA N w cv fs) (hN : N ≤ w.heap.size) (hs : s.size ≤ 140737488351232) :
    Calls Tryz.prog 103 #[cv, .string s] w (tInt (varE fs s) w) := by
  have FC : Hid (∀ W t, Below w.heap.size w W → Calls Tryz.prog 91 #[cv, .string t] W (tFld fs t W)) := (Lib.hid fun W t hW => fieldR_any fs cv t N W (hc.under (hW.mono hN)) (by have := hW.size; omega)); have SC : Hid (∀ W, Calls Tryz.prog 154 #[.string s] W (tSplitV s (isE s) W)) := (Lib.hid fun W => splitV_any s W hs); obtain ⟨cnm, par, vf, pb, kb, cb, rfl, p, cap, rfl, _⟩ := hc; have B0 := Blk.new w [.string cnm, .string par, .slice p fs.length cap, .slice pb kb cb] 34; have hb0 := ba w (.cells #[.string cnm, .string par, .slice p fs.length cap, .slice pb kb cb] 34); have d0 := B0.c 0 _ rfl; have d1 := B0.c 1 _ rfl; have d2 := B0.c 2 _ rfl; have d3 := B0.c 3 _ rfl; have HB := Lib.hid hb0; have H0 := Lib.hid B0; have VE : Hid (varE fs s = if (hasA fs s || misP fs s) = true then 9 else if hasV fs s = true then 0 else 7) := Lib.hid rfl; have HA : Hid (hasA fs s = decide (0 < szI fs s)) := Lib.hid rfl; have HV : Hid (hasV fs s = (hasP fs s || (isE s && decide (cutK s < szI fs (cutA s))))) := Lib.hid rfl; have HM : Hid (misP fs s = (isE s && hasP fs (cutA s))) := Lib.hid rfl; have HI : Hid (∀ n, szO fs s = some n → isE s = false) := Lib.hid fun n h => by
    obtain ⟨f, hf, rfl, _⟩ := szO_mem h; exact isE_name (hNm f hf)
  have hk0 := cutK_pos s; clear B0 hb0 hNm hN; generalize fs.length = KF at *
  cases ho : szO fs s with
  | some n =>
    have hI := HI.out n ho; have F1 : Hid (∀ W, Below w.heap.size w W → Calls Tryz.prog 91 #[.agg #[.string cnm, .string par, .slice p KF cap, .slice pb kb cb], .string s] W fun e w' => e = .returned (.tuple #[.int .i64 n, .bool true]) ∧ Below W.heap.size W w') := Lib.hid fun W hW => (FC.out W s hW).mono fun e w' h => by
      unfold tFld at h; rw [szI_some ho, ho] at h; exact h
    by_cases hn : 0 < n
    · have E : Hid (varE fs s = 9) := Lib.hid (by rw [VE.out, HA.out, szI_some ho, decide_eq_true hn]; rfl); clear FC SC ho VE HA HV HM HI hI
      go_enter Tryz.func103, Tryz.ntmps103
      go_wp2_with (go_at_call 91; ((with_reducible refine (F1.out _ HB.out).mono ?_); rintro e w1 ⟨rfl, hb⟩; have HB1 := Lib.hid (HB.out.then_ hb); have G := H0.out.stay hb; clear d0 d1 d2 d3; have d0 := G.c 0 _ rfl; have d1 := G.c 1 _ rfl; have d2 := G.c 2 _ rfl; have d3 := G.c 3 _ rfl; have H0 := Lib.hid G; clear hb G))
      go_ret; exact tInt_mk E.out HB1.out
    · have E : Hid (varE fs s = 0) := Lib.hid (by rw [VE.out, HA.out, szI_some ho, decide_eq_false hn, HM.out, hI, HV.out, hasP_some ho, decide_eq_true (by omega)]; rfl); clear FC SC ho VE HA HV HM HI hI
      go_enter Tryz.func103, Tryz.ntmps103
      go_wp2_with (go_at_call 91; ((with_reducible refine (F1.out _ HB.out).mono ?_); rintro e w1 ⟨rfl, hb⟩; have HB1 := Lib.hid (HB.out.then_ hb); have G := H0.out.stay hb; clear d0 d1 d2 d3; have d0 := G.c 0 _ rfl; have d1 := G.c 1 _ rfl; have d2 := G.c 2 _ rfl; have d3 := G.c 3 _ rfl; have H0 := Lib.hid G; clear hb G))
      go_ret; exact tInt_mk E.out HB1.out
  | none =>
    have F1 : Hid (∀ W, Below w.heap.size w W → Calls Tryz.prog 91 #[.agg #[.string cnm, .string par, .slice p KF cap, .slice pb kb cb], .string s] W fun e w' => e = .returned (.tuple #[.int .i64 0, .bool false]) ∧ Below W.heap.size W w') := Lib.hid fun W hW => (FC.out W s hW).mono fun e w' h => by
      unfold tFld at h; rw [szI_none ho, ho] at h; exact h
    have FA2 : Hid (∀ W t, Below w.heap.size w W → Calls Tryz.prog 91 #[.agg #[.string cnm, .string par, .slice p KF cap, .slice pb kb cb], .string t] W (fun e w' => ∃ a b, e = .returned (.tuple #[.int .i64 a, .bool b]) ∧ Below W.heap.size W w')) := (Lib.hid fun W t hW => (FC.out W t hW).mono fun e w' h => ⟨_, _, h.1, h.2⟩); cases hE : isE s with
    | false =>
      have E : Hid (varE fs s = 7) := Lib.hid (by rw [VE.out, HA.out, szI_none ho, HM.out, hE, HV.out, hasP_none ho, hE]; rfl); rw [hE] at SC; clear FC ho VE HA HV HM HI hE
      go_enter Tryz.func103, Tryz.ntmps103
      go_wp2_with (first
        | (go_at_call 91; ((with_reducible refine (F1.out _ HB.out).mono ?_); rintro e w1 ⟨rfl, hb⟩; have HB1 := Lib.hid (HB.out.then_ hb); have G := H0.out.stay hb; clear d0 d1 d2 d3; have d0 := G.c 0 _ rfl; have d1 := G.c 1 _ rfl; have d2 := G.c 2 _ rfl; have d3 := G.c 3 _ rfl; have H0 := Lib.hid G; clear hb G))
        | (go_at_call 154; ((with_reducible refine (SC.out _).mono ?_); rintro e w2 ⟨t, i, rfl, hb, _⟩; have HB2 := Lib.hid (HB1.out.then_ hb); have G := H0.out.stay hb; clear d0 d1 d2 d3; have d0 := G.c 0 _ rfl; have d1 := G.c 1 _ rfl; have d2 := G.c 2 _ rfl; have d3 := G.c 3 _ rfl; have H0 := Lib.hid G; clear hb G))
        | (go_at_call 91; ((with_reducible refine (FA2.out _ _ HB2.out).mono ?_); rintro e w3 ⟨fa, fbb, rfl, hb⟩; have HB3 := Lib.hid (HB2.out.then_ hb); clear hb)))
      go_ret; exact tInt_mk E.out HB3.out
    | true =>
      have SC2 : Hid (∀ W, Calls Tryz.prog 154 #[.string s] W fun e w' => e = .returned (.tuple #[.string (cutA s), .int .i64 (cutK s), .bool true]) ∧ Below W.heap.size W w') := Lib.hid fun W => (SC.out W).mono fun e w' h => by
        obtain ⟨t, i, h1, h2, h3⟩ := h; obtain ⟨rfl, rfl⟩ := split_parts hE (h3 hE); rw [hE] at h1; exact ⟨h1, h2⟩
      cases ho2 : szO fs (cutA s) with
      | none =>
        have F2 : Hid (∀ W, Below w.heap.size w W → Calls Tryz.prog 91 #[.agg #[.string cnm, .string par, .slice p KF cap, .slice pb kb cb], .string (cutA s)] W fun e w' => e = .returned (.tuple #[.int .i64 0, .bool false]) ∧ Below W.heap.size W w') := Lib.hid fun W hW => (FC.out W (cutA s) hW).mono fun e w' h => by
          unfold tFld at h; rw [szI_none ho2, ho2] at h; exact h
        have E : Hid (varE fs s = 7) := Lib.hid (by rw [VE.out, HA.out, szI_none ho, HM.out, hE, hasP_none ho2, HV.out, hasP_none ho, hE, szI_none ho2, decide_eq_false (by omega)]; rfl); clear FC SC ho ho2 VE HA HV HM HI hE FA2; generalize cutA s = ca at *
        generalize cutK s = ck at *
        go_enter Tryz.func103, Tryz.ntmps103
        go_wp2_with (first
          | (go_at_call 91; ((with_reducible refine (F1.out _ HB.out).mono ?_); rintro e w1 ⟨rfl, hb⟩; have HB1 := Lib.hid (HB.out.then_ hb); have G := H0.out.stay hb; clear d0 d1 d2 d3; have d0 := G.c 0 _ rfl; have d1 := G.c 1 _ rfl; have d2 := G.c 2 _ rfl; have d3 := G.c 3 _ rfl; have H0 := Lib.hid G; clear hb G))
          | (go_at_call 154; ((with_reducible refine (SC2.out _).mono ?_); rintro e w2 ⟨rfl, hb⟩; have HB2 := Lib.hid (HB1.out.then_ hb); have G := H0.out.stay hb; clear d0 d1 d2 d3; have d0 := G.c 0 _ rfl; have d1 := G.c 1 _ rfl; have d2 := G.c 2 _ rfl; have d3 := G.c 3 _ rfl; have H0 := Lib.hid G; clear hb G))
          | (go_at_call 91; ((with_reducible refine (F2.out _ HB2.out).mono ?_); rintro e w3 ⟨rfl, hb⟩; have HB3 := Lib.hid (HB2.out.then_ hb); have G := H0.out.stay hb; clear d0 d1 d2 d3; have d0 := G.c 0 _ rfl; have d1 := G.c 1 _ rfl; have d2 := G.c 2 _ rfl; have d3 := G.c 3 _ rfl; have H0 := Lib.hid G; clear hb G)))
        go_ret; exact tInt_mk E.out HB3.out
      | some m =>
        have F2 : Hid (∀ W, Below w.heap.size w W → Calls Tryz.prog 91 #[.agg #[.string cnm, .string par, .slice p KF cap, .slice pb kb cb], .string (cutA s)] W fun e w' => e = .returned (.tuple #[.int .i64 m, .bool true]) ∧ Below W.heap.size W w') := Lib.hid fun W hW => (FC.out W (cutA s) hW).mono fun e w' h => by
          unfold tFld at h; rw [szI_some ho2, ho2] at h; exact h
        by_cases hm : m < 1
        · have E : Hid (varE fs s = 9) := Lib.hid (by rw [VE.out, HA.out, szI_none ho, HM.out, hE, hasP_some ho2, decide_eq_true (show m ≤ 0 by omega)]; rfl); clear FC SC ho ho2 VE HA HV HM HI hE FA2; generalize cutA s = ca at *
          generalize cutK s = ck at *
          go_enter Tryz.func103, Tryz.ntmps103
          go_wp2_with (first
            | (go_at_call 91; ((with_reducible refine (F1.out _ HB.out).mono ?_); rintro e w1 ⟨rfl, hb⟩; have HB1 := Lib.hid (HB.out.then_ hb); have G := H0.out.stay hb; clear d0 d1 d2 d3; have d0 := G.c 0 _ rfl; have d1 := G.c 1 _ rfl; have d2 := G.c 2 _ rfl; have d3 := G.c 3 _ rfl; have H0 := Lib.hid G; clear hb G))
            | (go_at_call 154; ((with_reducible refine (SC2.out _).mono ?_); rintro e w2 ⟨rfl, hb⟩; have HB2 := Lib.hid (HB1.out.then_ hb); have G := H0.out.stay hb; clear d0 d1 d2 d3; have d0 := G.c 0 _ rfl; have d1 := G.c 1 _ rfl; have d2 := G.c 2 _ rfl; have d3 := G.c 3 _ rfl; have H0 := Lib.hid G; clear hb G))
            | (go_at_call 91; ((with_reducible refine (F2.out _ HB2.out).mono ?_); rintro e w3 ⟨rfl, hb⟩; have HB3 := Lib.hid (HB2.out.then_ hb); have G := H0.out.stay hb; clear d0 d1 d2 d3; have d0 := G.c 0 _ rfl; have d1 := G.c 1 _ rfl; have d2 := G.c 2 _ rfl; have d3 := G.c 3 _ rfl; have H0 := Lib.hid G; clear hb G)))
          go_ret; exact tInt_mk E.out HB3.out
        · by_cases hk : cutK s < m
          · have hk' : ¬ m ≤ cutK s := (by omega); have E : Hid (varE fs s = 0) := Lib.hid (by rw [VE.out, HA.out, szI_none ho, HM.out, hE, hasP_some ho2, decide_eq_false (show ¬ m ≤ 0 by omega), HV.out, hasP_none ho, hE, szI_some ho2, decide_eq_true hk]; rfl); clear FC SC ho ho2 VE HA HV HM HI hE FA2; generalize cutA s = ca at *
            generalize cutK s = ck at *
            go_enter Tryz.func103, Tryz.ntmps103
            go_wp2_with (first
              | (go_at_call 91; ((with_reducible refine (F1.out _ HB.out).mono ?_); rintro e w1 ⟨rfl, hb⟩; have HB1 := Lib.hid (HB.out.then_ hb); have G := H0.out.stay hb; clear d0 d1 d2 d3; have d0 := G.c 0 _ rfl; have d1 := G.c 1 _ rfl; have d2 := G.c 2 _ rfl; have d3 := G.c 3 _ rfl; have H0 := Lib.hid G; clear hb G))
              | (go_at_call 154; ((with_reducible refine (SC2.out _).mono ?_); rintro e w2 ⟨rfl, hb⟩; have HB2 := Lib.hid (HB1.out.then_ hb); have G := H0.out.stay hb; clear d0 d1 d2 d3; have d0 := G.c 0 _ rfl; have d1 := G.c 1 _ rfl; have d2 := G.c 2 _ rfl; have d3 := G.c 3 _ rfl; have H0 := Lib.hid G; clear hb G))
              | (go_at_call 91; ((with_reducible refine (F2.out _ HB2.out).mono ?_); rintro e w3 ⟨rfl, hb⟩; have HB3 := Lib.hid (HB2.out.then_ hb); have G := H0.out.stay hb; clear d0 d1 d2 d3; have d0 := G.c 0 _ rfl; have d1 := G.c 1 _ rfl; have d2 := G.c 2 _ rfl; have d3 := G.c 3 _ rfl; have H0 := Lib.hid G; clear hb G)))
            go_ret; exact tInt_mk E.out HB3.out
          · have hk' : m ≤ cutK s := (by omega); have E : Hid (varE fs s = 7) := Lib.hid (by rw [VE.out, HA.out, szI_none ho, HM.out, hE, hasP_some ho2, decide_eq_false (show ¬ m ≤ 0 by omega), HV.out, hasP_none ho, hE, szI_some ho2, decide_eq_false hk]; rfl); clear FC SC ho ho2 VE HA HV HM HI hE FA2; generalize cutA s = ca at *
            generalize cutK s = ck at *
            go_enter Tryz.func103, Tryz.ntmps103
            go_wp2_with (first
              | (go_at_call 91; ((with_reducible refine (F1.out _ HB.out).mono ?_); rintro e w1 ⟨rfl, hb⟩; have HB1 := Lib.hid (HB.out.then_ hb); have G := H0.out.stay hb; clear d0 d1 d2 d3; have d0 := G.c 0 _ rfl; have d1 := G.c 1 _ rfl; have d2 := G.c 2 _ rfl; have d3 := G.c 3 _ rfl; have H0 := Lib.hid G; clear hb G))
              | (go_at_call 154; ((with_reducible refine (SC2.out _).mono ?_); rintro e w2 ⟨rfl, hb⟩; have HB2 := Lib.hid (HB1.out.then_ hb); have G := H0.out.stay hb; clear d0 d1 d2 d3; have d0 := G.c 0 _ rfl; have d1 := G.c 1 _ rfl; have d2 := G.c 2 _ rfl; have d3 := G.c 3 _ rfl; have H0 := Lib.hid G; clear hb G))
              | (go_at_call 91; ((with_reducible refine (F2.out _ HB2.out).mono ?_); rintro e w3 ⟨rfl, hb⟩; have HB3 := Lib.hid (HB2.out.then_ hb); have G := H0.out.stay hb; clear d0 d1 d2 d3; have d0 := G.c 0 _ rfl; have d1 := G.c 1 _ rfl; have d2 := G.c 2 _ rfl; have d3 := G.c 3 _ rfl; have H0 := Lib.hid G; clear hb G)))
            go_ret; exact tInt_mk E.out HB3.out
end Go.Proofs.YtpejflgdehioaaaGreatDoor.ItW
namespace Go.Proofs.YtpejflgdehioaaaGreatDoor.ItW
open Go Go.RowKit Go.Proofs.YtpejflgdehioaaaGreatDoor.NumM Go.Proofs.YtpejflgdehioaaaGreatDoor.LexW Go.Proofs.YtpejflgdehioaaaGreatDoor.LexM Go.Proofs.YtpejflgdehioaaaGreatDoor.ExM Go.Proofs.YtpejflgdehioaaaGreatDoor.ExW Go.Proofs.YtpejflgdehioaaaGreatDoor.ItM
open Go.Proofs.YtpejflgdehioaaaGreatDoor.ClM (Fld firstE)
set_option maxRecDepth 100000 in
set_option maxHeartbeats 4000000 in
theorem nodesR_any (e : Ex) (N : Nat) (va : Value) (w : World) (hx : ExAt N w va e) (hN : N ≤ w.heap.size) (hsz : sz e ≤ 10000) :
    Calls Tryz.prog 102 #[va] w fun x w' => ∃ v' M2, x = .returned v' ∧ w'.ownsRow w.heap.size 43 4 v' (M2 : List NdV).length (M2.flatMap ndC) ∧ M2.map NdV.x = pre 1 e ∧ Below w.heap.size w w' := by
  have hb := ba w (.cells #[.int .i64 e.op, .int .i64 e.n, .string e.nm, (fun v : Value => match v with | .agg a => a.getD 3 undef | _ => undef) va] 43); obtain ⟨p, cap, pl, cl, rfl, hs, _⟩ := hx.form; have hb1 := ba w (.cells #[.int .i64 e.op, .int .i64 e.n, .string e.nm, .slice p e.args.length cap] 43); have GC0 := gatherR_any e N w.heap.size [] (.slice none 0 0) _ 1 (w.alloc (.cells #[.int .i64 e.op, .int .i64 e.n, .string e.nm, .slice p e.args.length cap] 43)) (hx.under (hb1.mono hN)) hN (by rw [World.size_alloc]; omega) (World.ownsRow_nil _ _ _ _) (by simpa using hsz); have GC := Lib.hid GC0; have B0 := Blk.new w [.int .i64 e.op, .int .i64 e.n, .string e.nm, .slice p e.args.length cap] 43; have c0 := B0.c 0 _ rfl; have c1 := B0.c 1 _ rfl; have c2 := B0.c 2 _ rfl; have c3 := B0.c 3 _ rfl; have HB := Lib.hid hb1; clear hx hs hb hb1 GC0 B0; generalize pre 1 e = L at *
  generalize e.op = o at *
  generalize e.n = n at *
  generalize e.nm = s at *
  generalize e.args.length = K at *
  go_enter Tryz.func102, Tryz.ntmps102
  go_wp2_with (go_at_call 153; ((with_reducible refine GC.out.mono ?_); rintro e w5 ⟨v5, M5, rfl, ho5, hm5, hg5, _⟩; have HO5 := Lib.hid ho5; have HM5 := Lib.hid hm5; have HG5 := Lib.hid hg5; clear ho5 hm5 hg5))
  go_ret; refine ⟨_, M5, rfl, by simpa using HO5.out, HM5.out, HB.out.then_ ?_⟩; exact below_of_grown (by simpa [Value.ownBlock] using HG5.out)
theorem row4 {w : World} {B : Nat} {v : Value} {M : List NdV} (h : w.ownsRow B 43 4 v M.length (M.flatMap ndC)) : ∃ p cap, v = .slice p M.length cap ∧ (0 < M.length → ∃ g, p = some ⟨g, 0, none⟩ ∧ ∀ (j : Nat) (y : NdV), M[j]? = some y →
    w.cell? ⟨g, j * 4, none⟩ = some (.int .i64 y.x.op) ∧ w.cell? ⟨g, j * 4 + 1, none⟩ = some (.int .i64 y.x.n) ∧ w.cell? ⟨g, j * 4 + 2, none⟩ = some (.string y.x.nm) ∧ w.cell? ⟨g, j * 4 + 3, none⟩ = some (.slice y.p y.x.k y.c)) := by
  obtain ⟨p, cap, rfl, hc, h0⟩ := own_at h (flat_len ndC_len M); refine ⟨p, cap, rfl, fun hp => ?_⟩; obtain ⟨g, rfl, hg, _, hcell⟩ := h0 hp; refine ⟨g, rfl, fun j y hy => ?_⟩; have q := (fun r hr => flat_at ndC_len M j r y hy hr); exact ⟨hcell _ _ (q 0 (by decide)), hcell _ _ (q 1 (by decide)), hcell _ _ (q 2 (by decide)), hcell _ _ (q 3 (by decide))⟩
theorem fst_take {g : In → Int} {M : List NdV} {j : Nat} {y : NdV} (h : M[j]? = some y) (h0 : firstE ((M.take j).map fun y => g y.x) = 0) : (g y.x = 0 → firstE ((M.take (j + 1)).map fun y => g y.x) = 0) ∧ (g y.x ≠ 0 → firstE (M.map fun y => g y.x) = g y.x) := by
  obtain ⟨hj, he⟩ := List.getElem?_eq_some_iff.1 h; refine ⟨fun h1 => ?_, fun h1 => ?_⟩
  · rw [List.take_succ_eq_append_getElem hj, List.map_append, firstE_append, if_pos h0, he, List.map_cons, List.map_nil, firstE_cons, firstE_nil, h1]; rfl
  · have hs : M = M.take j ++ y :: M.drop (j + 1) := (by rw [← he, List.getElem_cons_drop hj, List.take_append_drop]); have e : firstE (M.map fun y => g y.x) = firstE ((M.take j ++ y :: M.drop (j + 1)).map fun y => g y.x) := (by rw [← hs]); rw [e, List.map_append, firstE_append, if_pos h0, List.map_cons, firstE_cons, if_neg h1]
theorem nod_eq (fs : List Fld) (B : List ByteArray) (y : In) : nodE fs B y = if isAr y.op = true then arrE fs y.nm else if (isVr y.op && !memB B y.nm) = true then varE fs y.nm else 0 := rfl
set_option maxRecDepth 100000 in
set_option maxHeartbeats 16000000 in
theorem askedR_any (fs : List Fld) (hNm : ∀ f ∈ fs, nmB f.nm.data.toList = true) (B B' : List ByteArray) (hBB : ∀ s, memB B' s = memB B s) (e : Ex) (va cv vi : Value) (N : Nat) (w : World) (hx : ExAt N w va e) (hc : ClA N w cv fs) (hi : StA N w vi B') (hN : N ≤ w.heap.size) (hsz : sz e ≤ 10000) (hnms : ∀ y ∈ pre 1 e, y.nm.size ≤ 140737488351232) :
    Calls Tryz.prog 58 #[va, cv, vi] w (tInt (exE fs B e) w) := by
  have NC : Hid (∀ W, Below w.heap.size w W → Calls Tryz.prog 102 #[va] W fun x w' => ∃ v' M2, x = .returned v' ∧ w'.ownsRow W.heap.size 43 4 v' (M2 : List NdV).length (M2.flatMap ndC) ∧ M2.map NdV.x = pre 1 e ∧ Below W.heap.size W w') := (Lib.hid fun W hW => nodesR_any e N va W (hx.under (hW.mono hN)) (by have := hW.size; omega) hsz); have VC : Hid (∀ W s, Below w.heap.size w W → s.size ≤ 140737488351232 → Calls Tryz.prog 103 #[cv, .string s] W (tInt (varE fs s) W)) := (Lib.hid fun W s hW hs => variableR_any fs hNm cv s N W (hc.under (hW.mono hN)) (by have := hW.size; omega) hs); have AC : Hid (∀ W s, Below w.heap.size w W → Calls Tryz.prog 104 #[cv, .string s] W (tInt (arrE fs s) W)) := (Lib.hid fun W s hW => arrayR_any fs cv s N W (hc.under (hW.mono hN)) (by have := hW.size; omega)); have BC : Hid (∀ W s, Below w.heap.size w W → Calls Tryz.prog 39 #[vi, .string s] W fun e w' => e = .returned (.bool (memB B s)) ∧ W = w') := (Lib.hid fun W s hW => by rw [← hBB]; exact boundR_any B' vi s N W (hi.under (hW.mono hN))); have HNS := Lib.hid hnms; have EE : Hid (exE fs B e = firstE ((pre 1 e).map (nodE fs B))) := Lib.hid rfl; have hlen := pre_len e 1; obtain ⟨p, cap, pl, cl, rfl, hs, _⟩ := hx.form; obtain ⟨cnm, par, vf, pb, kb, cb, rfl, pf, cf, rfl, _⟩ := hc; obtain ⟨pi, ci, rfl, _⟩ := hi; clear hx hNm hBB hs hnms; generalize fs.length = KF at *
  generalize B'.length = KB at *
  generalize exE fs B e = R at *
  generalize pre 1 e = PL at *
  generalize sz e = Z at *
  generalize e.op = o at *
  generalize e.n = n at *
  generalize e.nm = s at *
  generalize e.args.length = K at *
  have B3 := (Blk.new w [.int .i64 o, .int .i64 n, .string s, .slice p K cap] 43).stay (ba _ (.cells #[.string cnm, .string par, .slice pf KF cf, .slice pb kb cb] 34)); have B4 := Blk.new (w.alloc (.cells #[.int .i64 o, .int .i64 n, .string s, .slice p K cap] 43)) [.string cnm, .string par, .slice pf KF cf, .slice pb kb cb] 34; have hb2 := (ba w (.cells #[.int .i64 o, .int .i64 n, .string s, .slice p K cap] 43)).then_ (ba _ (.cells #[.string cnm, .string par, .slice pf KF cf, .slice pb kb cb] 34)); rw [World.size_alloc] at B4; simp only [List.toArray] at B3 B4; obtain ⟨W0, hW0⟩ : ∃ W0, (w.alloc (.cells #[.int .i64 o, .int .i64 n, .string s, .slice p K cap] 43)).alloc (.cells #[.string cnm, .string par, .slice pf KF cf, .slice pb kb cb] 34) = W0 := ⟨_, rfl⟩; rw [hW0] at B3 B4 hb2; have a0 := B3.c 0 _ rfl; have a1 := B3.c 1 _ rfl; have a2 := B3.c 2 _ rfl; have a3 := B3.c 3 _ rfl; have HB2 := Lib.hid hb2; have H4 := Lib.hid B4; clear B3 B4 hb2
  go_enter Tryz.func58, Tryz.ntmps58
  go_wp2_with fail
  clear hW0; go_wp2_with (go_at_call 102; ((with_reducible refine (NC.out _ HB2.out).mono ?_); rintro e w1 ⟨v1, M, rfl, ho, hm, hb⟩; obtain ⟨q1, k1, rfl, hrow⟩ := row4 ho; have HM := Lib.hid hm; have HRW := Lib.hid hrow; have HB3 := Lib.hid (HB2.out.then_ hb); have H41 := Lib.hid (H4.out.stay hb); clear ho hm hb hrow a0 a1 a2 a3))
  have hml : M.length = Z := (by have := congrArg List.length HM.out; rw [List.length_map] at this; omega); have HER : Hid (R = firstE (M.map fun y => nodE fs B y.x)) := Lib.hid (by rw [EE.out, ← HM.out, List.map_map]; rfl); have HNN : Hid (∀ y ∈ M, y.x.nm.size ≤ 140737488351232) := (Lib.hid fun y hy => HNS.out _ (by rw [← HM.out]; exact List.mem_map_of_mem hy)); obtain ⟨Q, hQ⟩ : ∃ Q, M.length = Q := ⟨_, rfl⟩; have HQ := Lib.hid hQ; rw [hQ] at hml ⊢; have hq : Q ≤ 10000 := (by omega); clear hQ hml EE HM HNS hlen hsz; go_loopw [8] (fun i wr => ∃ j : Nat, j ≤ Q ∧ i = .int .i64 j ∧ Hid (firstE ((M.take j).map fun y => nodE fs B y.x) = 0) ∧ Hid (Below w.heap.size w wr) ∧ Hid (Below w1.heap.size w1 wr) ∧ Hid (Blk wr (w.heap.size + 1) [.string cnm, .string par, .slice pf KF cf, .slice pb kb cb])) (fun i _ => Q - (intOf i).toNat)
  case atStart => exact ⟨0, Nat.zero_le _, rfl, Lib.hid rfl, HB3, Lib.hid (Below.refl _ _), H41⟩
  case round =>
    obtain ⟨j, hj, rfl, FW, BW, B1W, CW⟩ := hrel; by_cases hlt : j < Q
    · obtain ⟨y, hy⟩ : ∃ y, M[j]? = some y := ⟨_, List.getElem?_eq_getElem (by rw [HQ.out]; exact hlt)⟩; obtain ⟨g, rfl, hcell⟩ := HRW.out (by rw [HQ.out]; omega); obtain ⟨q0, _, q2, _⟩ := hcell j y hy; have d0 := (B1W.out.cell (p := ⟨g, j * 4, none⟩) (cell_lt q0)).trans q0; have d2 := (B1W.out.cell (p := ⟨g, j * 4 + 2, none⟩) (cell_lt q0)).trans q2; have c0 := CW.out.c 0 _ rfl; have c1 := CW.out.c 1 _ rfl; have c2 := CW.out.c 2 _ rfl; have c3 := CW.out.c 3 _ rfl; have NS := Lib.hid (HNN.out y (List.mem_of_getElem? hy)); have FT := Lib.hid (fst_take hy FW.out); have NE := Lib.hid (nod_eq fs B y.x); have hslt := B1W.out.size; clear hcell q0 q2 hy; generalize nodE fs B y.x = E at *
      generalize y.x.op = yo at *
      generalize y.x.nm = ys at *
      by_cases o2 : yo = 2
      · subst o2; cases hm : memB B ys
        · have BC2 : Hid (∀ W, Below w.heap.size w W → Calls Tryz.prog 39 #[.slice pi KB ci, .string ys] W fun e w' => e = .returned (.bool false) ∧ W = w') := (Lib.hid fun W hW => hm ▸ BC.out W ys hW); have HE : Hid (E = varE fs ys) := Lib.hid (by rw [NE.out, hm]; rfl); have CC : Hid (∀ W, Below wr.heap.size wr W → Calls Tryz.prog 103 #[.agg #[.string cnm, .string par, .slice pf KF cf, .slice pb kb cb], .string ys] W (tInt E W)) := Lib.hid fun W hW => by
            rw [HE.out]; exact VC.out W ys (BW.out.then_ hW) NS.out
          clear HE NE; by_cases h0 : E = 0
          · subst h0; have FN := Lib.hid (FT.out.1 rfl); clear FT; have E1 := reB (v := .int .i64 0) (fun W hW => CC.out W hW); have r0 := cell_regrown c0; have r1 := cell_regrown c1; have r2 := cell_regrown c2; have r3 := cell_regrown c3; have s2 := cell_regrown d2; go_wp2_with (go_at_call 39; ((with_reducible refine (BC2.out _ BW.out).mono ?_); rintro e w2 ⟨rfl, rfl⟩))
            refine wp_region_quiet_below (by kernel_rfl) (by kernel_rfl) ?_; repeat (first | go_big_quiet_step ((go_at_call 103; with_reducible exact E1 _ _)) | quiet_step ((go_at_call 103; with_reducible exact E1 _ _)))
            refine wpQuiet_nil ?_; intro w4 hw'; obtain ⟨pq, hw''⟩ := hw'; have HB24 : Hid (Below wr.heap.size wr w4) := Lib.hid (by rw [hw'']; exact below_regrown _ _ _); have d04 := (HB24.out.cell (p := ⟨g, j * 4, none⟩) (cell_lt d0)).trans d0; clear hw'' E1 r0 r1 r2 r3 s2 c0 c1 c2 c3 d0 d2; go_wp2; go_roundw
            case rel => exact ⟨j + 1, by omega, by go_num, FN, Lib.hid (BW.out.then_ HB24.out), Lib.hid (B1W.out.then_ HB24.out), Lib.hid (CW.out.stay HB24.out)⟩
            case measure => simp [intOf]; omega
          · have FN := Lib.hid (HER.out.trans (FT.out.2 h0)); have f1 : (E != 0) = true := (by simpa using h0); clear FT; have E1 := reB (v := .int .i64 E) (fun W hW => CC.out W hW); have r0 := cell_regrown c0; have r1 := cell_regrown c1; have r2 := cell_regrown c2; have r3 := cell_regrown c3; have s2 := cell_regrown d2; go_wp2_with (go_at_call 39; ((with_reducible refine (BC2.out _ BW.out).mono ?_); rintro e w2 ⟨rfl, rfl⟩))
            refine wp_region_quiet_below (by kernel_rfl) (by kernel_rfl) ?_; repeat (first | go_big_quiet_step ((go_at_call 103; with_reducible exact E1 _ _)) | quiet_step ((go_at_call 103; with_reducible exact E1 _ _)))
            refine wpQuiet_nil ?_; intro w4 hw'; obtain ⟨pq, hw''⟩ := hw'; have HB24 : Hid (Below wr.heap.size wr w4) := Lib.hid (by rw [hw'']; exact below_regrown _ _ _); have d04 := (HB24.out.cell (p := ⟨g, j * 4, none⟩) (cell_lt d0)).trans d0; clear hw'' E1 r0 r1 r2 r3 s2 c0 c1 c2 c3 d0 d2; go_wp2; go_ret; exact tInt_mk FN.out (BW.out.then_ HB24.out)
        · have BC2 : Hid (∀ W, Below w.heap.size w W → Calls Tryz.prog 39 #[.slice pi KB ci, .string ys] W fun e w' => e = .returned (.bool true) ∧ W = w') := (Lib.hid fun W hW => hm ▸ BC.out W ys hW); have FN := Lib.hid (FT.out.1 (by rw [NE.out, hm]; rfl)); clear FT NE; go_wp2_with (go_at_call 39; ((with_reducible refine (BC2.out _ BW.out).mono ?_); rintro e w2 ⟨rfl, rfl⟩))
          go_roundw
          case rel => exact ⟨j + 1, by omega, by go_num, FN, BW, B1W, CW⟩
          case measure => simp [intOf]; omega
      · have f2 : (yo == 2) = false := (by rw [beq_eq_false_iff_ne]; exact o2); by_cases o3 : yo = 3
        · subst o3; have HE : Hid (E = arrE fs ys) := Lib.hid (by rw [NE.out]; rfl); have CC : Hid (∀ W, Below wr.heap.size wr W → Calls Tryz.prog 104 #[.agg #[.string cnm, .string par, .slice pf KF cf, .slice pb kb cb], .string ys] W (tInt E W)) := Lib.hid fun W hW => by
            rw [HE.out]; exact AC.out W ys (BW.out.then_ hW)
          clear HE NE; by_cases h0 : E = 0
          · subst h0; have FN := Lib.hid (FT.out.1 rfl); clear FT; have E1 := reB (v := .int .i64 0) (fun W hW => CC.out W hW); have r0 := cell_regrown c0; have r1 := cell_regrown c1; have r2 := cell_regrown c2; have r3 := cell_regrown c3; have s2 := cell_regrown d2; go_wp2; refine wp_region_quiet_below (by kernel_rfl) (by kernel_rfl) ?_; repeat (first | go_big_quiet_step ((go_at_call 104; with_reducible exact E1 _ _)) | quiet_step ((go_at_call 104; with_reducible exact E1 _ _)))
            refine wpQuiet_nil ?_; intro w4 hw'; obtain ⟨pq, hw''⟩ := hw'; have HB24 : Hid (Below wr.heap.size wr w4) := Lib.hid (by rw [hw'']; exact below_regrown _ _ _); have d04 := (HB24.out.cell (p := ⟨g, j * 4, none⟩) (cell_lt d0)).trans d0; clear hw'' E1 r0 r1 r2 r3 s2 c0 c1 c2 c3 d0 d2; go_wp2; go_roundw
            case rel => exact ⟨j + 1, by omega, by go_num, FN, Lib.hid (BW.out.then_ HB24.out), Lib.hid (B1W.out.then_ HB24.out), Lib.hid (CW.out.stay HB24.out)⟩
            case measure => simp [intOf]; omega
          · have FN := Lib.hid (HER.out.trans (FT.out.2 h0)); have f1 : (E != 0) = true := (by simpa using h0); clear FT; have E1 := reB (v := .int .i64 E) (fun W hW => CC.out W hW); have r0 := cell_regrown c0; have r1 := cell_regrown c1; have r2 := cell_regrown c2; have r3 := cell_regrown c3; have s2 := cell_regrown d2; go_wp2; refine wp_region_quiet_below (by kernel_rfl) (by kernel_rfl) ?_; repeat (first | go_big_quiet_step ((go_at_call 104; with_reducible exact E1 _ _)) | quiet_step ((go_at_call 104; with_reducible exact E1 _ _)))
            refine wpQuiet_nil ?_; intro w4 hw'; obtain ⟨pq, hw''⟩ := hw'; have HB24 : Hid (Below wr.heap.size wr w4) := Lib.hid (by rw [hw'']; exact below_regrown _ _ _); have d04 := (HB24.out.cell (p := ⟨g, j * 4, none⟩) (cell_lt d0)).trans d0; clear hw'' E1 r0 r1 r2 r3 s2 c0 c1 c2 c3 d0 d2; go_wp2; go_ret; exact tInt_mk FN.out (BW.out.then_ HB24.out)
        · have f3 : (yo == 3) = false := (by rw [beq_eq_false_iff_ne]; exact o3); by_cases o24 : yo = 24
          · subst o24; have HE : Hid (E = arrE fs ys) := Lib.hid (by rw [NE.out]; rfl); have CC : Hid (∀ W, Below wr.heap.size wr W → Calls Tryz.prog 104 #[.agg #[.string cnm, .string par, .slice pf KF cf, .slice pb kb cb], .string ys] W (tInt E W)) := Lib.hid fun W hW => by
              rw [HE.out]; exact AC.out W ys (BW.out.then_ hW)
            clear HE NE; by_cases h0 : E = 0
            · subst h0; have FN := Lib.hid (FT.out.1 rfl); clear FT; have E1 := reB (v := .int .i64 0) (fun W hW => CC.out W hW); have r0 := cell_regrown c0; have r1 := cell_regrown c1; have r2 := cell_regrown c2; have r3 := cell_regrown c3; have s2 := cell_regrown d2; go_wp2; refine wp_region_quiet_below (by kernel_rfl) (by kernel_rfl) ?_; repeat (first | go_big_quiet_step ((go_at_call 104; with_reducible exact E1 _ _)) | quiet_step ((go_at_call 104; with_reducible exact E1 _ _)))
              refine wpQuiet_nil ?_; intro w4 hw'; obtain ⟨pq, hw''⟩ := hw'; have HB24 : Hid (Below wr.heap.size wr w4) := Lib.hid (by rw [hw'']; exact below_regrown _ _ _); have d04 := (HB24.out.cell (p := ⟨g, j * 4, none⟩) (cell_lt d0)).trans d0; clear hw'' E1 r0 r1 r2 r3 s2 c0 c1 c2 c3 d0 d2; go_wp2; go_roundw
              case rel => exact ⟨j + 1, by omega, by go_num, FN, Lib.hid (BW.out.then_ HB24.out), Lib.hid (B1W.out.then_ HB24.out), Lib.hid (CW.out.stay HB24.out)⟩
              case measure => simp [intOf]; omega
            · have FN := Lib.hid (HER.out.trans (FT.out.2 h0)); have f1 : (E != 0) = true := (by simpa using h0); clear FT; have E1 := reB (v := .int .i64 E) (fun W hW => CC.out W hW); have r0 := cell_regrown c0; have r1 := cell_regrown c1; have r2 := cell_regrown c2; have r3 := cell_regrown c3; have s2 := cell_regrown d2; go_wp2; refine wp_region_quiet_below (by kernel_rfl) (by kernel_rfl) ?_; repeat (first | go_big_quiet_step ((go_at_call 104; with_reducible exact E1 _ _)) | quiet_step ((go_at_call 104; with_reducible exact E1 _ _)))
              refine wpQuiet_nil ?_; intro w4 hw'; obtain ⟨pq, hw''⟩ := hw'; have HB24 : Hid (Below wr.heap.size wr w4) := Lib.hid (by rw [hw'']; exact below_regrown _ _ _); have d04 := (HB24.out.cell (p := ⟨g, j * 4, none⟩) (cell_lt d0)).trans d0; clear hw'' E1 r0 r1 r2 r3 s2 c0 c1 c2 c3 d0 d2; go_wp2; go_ret; exact tInt_mk FN.out (BW.out.then_ HB24.out)
          · have f24 : (yo == 24) = false := (by rw [beq_eq_false_iff_ne]; exact o24); have hA : isAr yo = false := (by unfold isAr; rw [decide_eq_false o3, decide_eq_false o24]; rfl); have hV : isVr yo = false := (by unfold isVr; exact decide_eq_false o2); have FN := Lib.hid (FT.out.1 (by rw [NE.out, hA, hV]; rfl)); clear FT NE hA hV; go_wp2; go_roundw
            case rel => exact ⟨j + 1, by omega, by go_num, FN, BW, B1W, CW⟩
            case measure => simp [intOf]; omega
    · have FN : Hid (R = 0) := Lib.hid (by rw [HER.out]; have := FW.out; rw [List.take_of_length_le (by rw [HQ.out]; omega)] at this; exact this); go_wp2; go_ret; exact tInt_mk FN.out BW.out
end Go.Proofs.YtpejflgdehioaaaGreatDoor.ItW
namespace Go.Proofs.YtpejflgdehioaaaGreatDoor.ExW
open Go Go.RowKit Go.Proofs.YtpejflgdehioaaaGreatDoor.NumM Go.Proofs.YtpejflgdehioaaaGreatDoor.LexW Go.Proofs.YtpejflgdehioaaaGreatDoor.LexM Go.Proofs.YtpejflgdehioaaaGreatDoor.ExM
theorem at_names {N : Nat} {w : World} {v : Value} {e : Ex} (h : ExAt N w v e) : ∀ (l : Nat), ∀ x ∈ pre l e, x.nm.size ≤ 140737488351232 := by
  induction h with
  | mk pl cl hs hl hc hp hx ih =>
    intro l x hm; rw [pre_mk] at hm; rcases List.mem_cons.1 hm with rfl | hm
    · exact hs
    · obtain ⟨a, ha, hxa⟩ := mem_pres.1 hm; obtain ⟨i, hi⟩ := List.getElem?_of_mem ha; exact ih i a hi _ x hxa
end Go.Proofs.YtpejflgdehioaaaGreatDoor.ExW
namespace Go.Proofs.YtpejflgdehioaaaGreatDoor.ItW
open Go Go.RowKit Go.Proofs.YtpejflgdehioaaaGreatDoor.NumM Go.Proofs.YtpejflgdehioaaaGreatDoor.LexW Go.Proofs.YtpejflgdehioaaaGreatDoor.LexM Go.Proofs.YtpejflgdehioaaaGreatDoor.ExM Go.Proofs.YtpejflgdehioaaaGreatDoor.ExW Go.Proofs.YtpejflgdehioaaaGreatDoor.ItM
open Go.Proofs.YtpejflgdehioaaaGreatDoor.ClM (Fld)
def tSml (fs : List Fld) (w : World) (e : Ending) (w' : World) : Prop := ∃ b, e = .returned (.bool b) ∧ Below w.heap.size w w' ∧ (b = true → fs.length ≤ 20 ∧ ∀ f ∈ fs, SmF f)
theorem tSml_no {fs : List Fld} {w w' : World} (h : Below w.heap.size w w') : tSml fs w (.returned (.bool false)) w' := ⟨false, rfl, h, fun h => by cases h⟩
set_option maxRecDepth 100000 in
set_option maxHeartbeats 8000000 in
theorem small_any (fs : List Fld) (cv : Value) (N : Nat) (w : World) (hc : ClA N w cv fs) (hN : N ≤ w.heap.size) :
    Calls Tryz.prog 19 #[cv] w (tSml fs w) := by
  have NC : Hid (∀ W s, s.size ≤ 140737488351232 → Calls Tryz.prog 42 #[.string s] W (tBool (nmB s.data.toList) W)) := (Lib.hid fun W s hs => nameR_any s W hs); obtain ⟨cnm, par, vf, pb, kb, cb, rfl, p, cap, rfl, hl, hcap, hz, hp⟩ := hc; have HP := Lib.hid hp; have HZ := Lib.hid hz; obtain ⟨K, hK⟩ : ∃ K, fs.length = K := ⟨_, rfl⟩; have HK := Lib.hid hK; rw [hK] at hl ⊢; have hk47 : K ≤ 140737488351232 := (by omega); have B0 := Blk.new w [.string cnm, .string par, .slice p K cap, .slice pb kb cb] 34; have hb0 := ba w (.cells #[.string cnm, .string par, .slice p K cap, .slice pb kb cb] 34); have d2 := B0.c 2 _ rfl; have HB := Lib.hid hb0; clear hK hl hp hcap hz B0 hb0; by_cases h20 : 20 < K
  · have e20 : decide ((20 : Int) < (K : Int)) = true := decide_eq_true (by omega)
    go_enter Tryz.func19, Tryz.ntmps19
    go_wp2; go_ret; exact tSml_no HB.out
  · have e20 : decide ((20 : Int) < (K : Int)) = false := decide_eq_false (by omega); have hk20 : K ≤ 20 := (by omega); clear h20
    go_enter Tryz.func19, Tryz.ntmps19
    go_wp2; obtain ⟨W0, hW0⟩ : ∃ W0, w.alloc (.cells #[.string cnm, .string par, .slice p K cap, .slice pb kb cb] 34) = W0 := ⟨_, rfl⟩; simp only [List.toArray] at d2; rw [hW0] at HB d2 ⊢; have HD2 := Lib.hid d2; clear hW0 e20 d2; go_loopw [3] (fun i wr => ∃ j : Nat, j ≤ K ∧ i = .int .i64 j ∧ Hid (∀ f ∈ fs.take j, SmF f) ∧ Hid (Below w.heap.size w wr) ∧ Hid (wr.cell? ⟨w.heap.size, 2, none⟩ = some (.slice p K cap))) (fun i _ => K - (intOf i).toNat)
    case atStart => exact ⟨0, Nat.zero_le _, rfl, Lib.hid (fun f hf => by simp at hf), HB, HD2⟩
    case round =>
      obtain ⟨j, hj, rfl, FW, BW, CW⟩ := hrel; have d2 := CW.out; by_cases hlt : j < K
      · obtain ⟨b, off, rfl, hbN, hcell⟩ := HP.out (by rw [HK.out]; omega); obtain ⟨y, hyk⟩ : ∃ y, fs[j]? = some y := ⟨_, List.getElem?_eq_getElem (by rw [HK.out]; exact hlt)⟩; obtain ⟨q0, q1, q2, q3, q4⟩ := hcell j y hyk; have HCC : Hid (∀ W, Below w.heap.size w W → ∀ (i : Nat) (f : Fld), fs[i]? = some f → W.cell? ⟨b, off + i * 5, none⟩ = some (.string f.nm)) := (Lib.hid fun W hW i f hi => low_cells (hW.mono hN) _ _ hbN _ (hcell i f hi).1); have c0 := low_cells (BW.out.mono hN) _ _ hbN _ q0; have c2 := low_cells (BW.out.mono hN) _ _ hbN _ q2; have hys := HZ.out y (List.mem_of_getElem? hyk); have NC2 := Lib.hid (fun W => NC.out W y.nm hys); have HY := Lib.hid hyk; have HSF : Hid ((0 ≤ y.sz ∧ y.sz ≤ 8) → nmB y.nm.data.toList = true → ∀ f ∈ fs.take (j + 1), SmF f) := Lib.hid fun h1 h2 f hf => by
          obtain ⟨hjl, he⟩ := List.getElem?_eq_some_iff.1 hyk; rw [List.take_succ_eq_append_getElem hjl] at hf; rcases List.mem_append.1 hf with h | h
          · exact FW.out f h
          · simp at h; rw [h, he]; exact ⟨h1, h2⟩
        clear hcell hyk q0 q1 q2 q3 q4; generalize nmB y.nm.data.toList = u at *
        generalize y.sz = z at *
        generalize hyn : y.nm = yn at *
        by_cases h1 : z < 0
        · have e1 : decide (z < 0) = true := decide_eq_true h1; clear h1 HSF; go_wp2; go_ret; exact tSml_no BW.out
        · have e1 : decide (z < 0) = false := decide_eq_false h1; by_cases h2 : 8 < z
          · have e2 : decide (8 < z) = true := decide_eq_true h2; clear h1 h2 HSF; go_wp2; go_ret; exact tSml_no BW.out
          · have e2 : decide (8 < z) = false := decide_eq_false h2; cases u
            · clear h1 h2 HSF; go_wp2_with (go_at_call 42; ((with_reducible refine (NC2.out _).mono ?_); rintro e w1 ⟨rfl, hb⟩; have HB1 := Lib.hid (BW.out.then_ hb); clear hb))
              go_ret; exact tSml_no HB1.out
            · have HF2 := Lib.hid (HSF.out ⟨by omega, by omega⟩ rfl); clear h1 h2 HSF; go_wp2_with (go_at_call 42; ((with_reducible refine (NC2.out _).mono ?_); rintro e w1 ⟨rfl, hb⟩; have HB1 := Lib.hid (BW.out.then_ hb); have HD1 : Hid (w1.cell? ⟨w.heap.size, 2, none⟩ = some (.slice (some ⟨b, off, none⟩) K cap)) := Lib.hid (by rw [hb.cell (World.block_lt_of_cell? wr _ CW.out)]; exact CW.out); clear hb d2 c0 c2))
              go_loopw [4] (fun i w2 => ∃ i2 : Nat, i2 ≤ j ∧ i = .int .i64 i2 ∧ Hid (Below w.heap.size w w2) ∧ Hid (w2.cell? ⟨w.heap.size, 2, none⟩ = some (.slice (some ⟨b, off, none⟩) K cap))) (fun i _ => j - (intOf i).toNat)
              case atStart => exact ⟨0, Nat.zero_le _, rfl, HB1, HD1⟩
              case round =>
                rename_i w2 _ _ _; obtain ⟨i2, hi2, rfl, BW2, CW2⟩ := hrel; have d2 := CW2.out; by_cases hlt2 : i2 < j
                · obtain ⟨g, hg⟩ : ∃ g, fs[i2]? = some g := ⟨_, List.getElem?_eq_getElem (by rw [HK.out]; omega)⟩; have c0 := HCC.out _ BW2.out j y HY.out; have c1 := HCC.out _ BW2.out i2 g hg; rw [hyn] at c0; generalize g.nm = gn at *
                  by_cases e : gn.data.toList = yn.data.toList
                  · have e1 : (gn.toList == yn.toList) = true := (by rw [Lib.toList_data, Lib.toList_data, e]; simp); clear e hg; go_wp2; go_quiet (fail)
                    go_wp2; go_ret; exact tSml_no (drewB BW2.out)
                  · have e1 : (gn.toList == yn.toList) = false := (by rw [Lib.toList_data, Lib.toList_data]; simpa using e); clear e hg; go_wp2; go_quiet (fail)
                    go_wp2; go_roundw
                    case rel => exact ⟨i2 + 1, by omega, by go_num, Lib.hid (drewB BW2.out), Lib.hid (by simpa using CW2.out)⟩
                    case measure => simp [intOf]; omega
                · have hij : i2 = j := (by omega); clear hij; go_wp2; go_roundw
                  case rel => exact ⟨j + 1, by omega, by go_num, HF2, BW2, CW2⟩
                  case measure => simp [intOf]; omega
      · have HE : Hid (K ≤ 20 ∧ ∀ f ∈ fs, SmF f) := Lib.hid ⟨hk20, by have := FW.out; rw [List.take_of_length_le (by rw [HK.out]; omega)] at this; exact this⟩; go_wp2; go_ret; exact ⟨true, rfl, BW.out, fun _ => by rw [HK.out]; exact HE.out⟩
end Go.Proofs.YtpejflgdehioaaaGreatDoor.ItW
