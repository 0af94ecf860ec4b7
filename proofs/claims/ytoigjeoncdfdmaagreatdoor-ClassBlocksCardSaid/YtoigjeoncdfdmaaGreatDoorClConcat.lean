/-
  What Grow and Concat return.
-/
import Derived.Test.YtoigjeoncdfdmaaGreatDoorClClone
import Derived.Test.YtoigjeoncdfdmaaGreatDoorClRepl
import Derived.Lib.AppendZerosOnto
namespace Go.Proofs.YtoigjeoncdfdmaaGreatDoor.ClW
open Go Go.RowKit Go.Proofs.YtoigjeoncdfdmaaGreatDoor.NumM Go.Proofs.YtoigjeoncdfdmaaGreatDoor.LexW Go.Proofs.YtoigjeoncdfdmaaGreatDoor.LexM Go.Proofs.YtoigjeoncdfdmaaGreatDoor.ClM
open Go.«Sort»

theorem wpList_append_run {P : Program} {w : World} {ops : Array Oper} {rest : List Oper} {o : Oper} {a : Act} {Q : Exit → Act → World → Prop} (hgd : o.guard = none) (s x : Operand) (t tx : TypeId)
    (ho : o.op = .call { callee := .builtin .append, args := #[s, x], argTypes := #[t, tx] }) (sv xv : Value) (hs : a.eval s = sv) (hx : a.eval x = xv) (v' : Value) (w' : World) (hr : ∀ ty, (Builtin.append_ #[t, tx] ty #[sv, xv]).run P w = .ok v' w')
    (h : wpList P ops Q rest (a.put o.dst v') w') : wpList P ops Q (o :: rest) a w := by
  refine wpList_plain hgd fun K hK => ?_
  unfold Oper.wp execOp
  simp only [ho, resolve, invoke, builtin, Sem.run_bind, Sem.run_pure, Result.andThen_ok, List.map_toArray, List.map_cons, List.map_nil, hs, hx, hr]
  exact hK _ _ h
theorem run_append_nil {P : Program} {w : World} (t ty : TypeId) (base : Nat) (e : TypeId) (i : TypeInfo) (ht : P.underlying t = some (.slice e)) (hi : P.info? e = some i) {v : Value} {n c : Nat} {xs : List Value} (hown : w.ownsRow base e i.size v n xs) :
    (Builtin.append_ #[t, t] ty #[v, .slice none 0 c]).run P w = .ok v w := by
  obtain ⟨_, ⟨hv, hn⟩ | ⟨g, cap, cur, hv, hB, hg, h1, h2, h3, h4⟩⟩ := hown
  · rw [hv]
    simp [Builtin.append_, Builtin.lenOf, run_underlying ht, sizeOf, typeInfo, hi, run_firstCells_none]
  · rw [hv]
    exact run_append_room_src w t t ty e i ht hi g 0 n cap (.slice none 0 c) 0 [] (Src.ofNil w ht c) (by omega) (fun j hj => by simp at hj) (fun j hj => by simp at hj)
theorem nkI : Tryz.prog.underlying 3 = some (.int .i64) := Tryz.underlying3
set_option maxRecDepth 100000 in
set_option maxHeartbeats 4000000 in
theorem grow_any (n : Nat) (w : World) (hn : n ≤ 1000000) :
    Calls Tryz.prog 104 #[.slice none 0 0, .int .i64 n] w fun e w' => ∃ v, e = .returned v ∧ w'.ownsRow w.heap.size 27 5 v 0 [] ∧ Below w.heap.size w w' := by
  obtain ⟨i0, hi, hz0, hz1, hz2⟩ := info_parts infoFields
  rcases Nat.eq_zero_or_pos n with h | h
  · subst h
    go_enter Tryz.func104, Tryz.ntmps104
    go_wp2
    go_ret
    exact ⟨_, rfl, World.ownsRow_nil _ _ _ _, Below.refl _ _⟩
  · have hrz : ∀ ty, (Builtin.append_ #[22, 3] ty #[.slice none 0 0, .int .i64 (n : Int)]).run Tryz.prog w = _ := fun ty => Lib.run_append_grow_zeros w 22 3 ty 27 i0 (.agg #[.string ⟨#[]⟩, .int .i64 0, .int .i64 0, .int .i64 0, .int .i64 0]) .i64 .i64 Tryz.underlying22 Tryz.underlying3 hi hz0 none 0 0 [] (run_firstCells_none w.drew i0.size 0 0 0) n h (by omega) (by omega) (by omega) (by rw [hz2]; omega) (growslice_fits (by omega) (by rw [hz2]; omega))
    simp only [Nat.zero_add] at hrz
    obtain ⟨G, hG⟩ : ∃ G, grownCap w n 0 27 = G := ⟨_, rfl⟩
    have hge : n ≤ G := by rw [← hG]; exact grownCap_ge _ _ _ _
    have hle : G ≤ 9223372036854775807 := by
      have := grownCap_le_maxLen w n 0 27 (by unfold maxLen; omega)
      rw [hG] at this
      unfold maxLen at this
      omega
    rw [hG] at hrz
    obtain ⟨C, hC⟩ : ∃ C, (([] : List Value).toArray ++ Builtin.zeroCells (Value.agg #[.string ⟨#[]⟩, .int .i64 0, .int .i64 0, .int .i64 0, .int .i64 0]).cells n ++ Builtin.zeroCells (Value.agg #[.string ⟨#[]⟩, .int .i64 0, .int .i64 0, .int .i64 0, .int .i64 0]).cells (G - n)) = C := ⟨_, rfl⟩
    have hCs : C.size = G * 5 := by
      rw [← hC]
      simp only [Array.size_append, size_zeroCells]
      simp [Value.cells]
      omega
    rw [hC] at hrz
    have HO : Hid ((w.drew.alloc (.cells C 27)).ownsRow w.heap.size 27 5 (.slice (some ⟨w.drew.heap.size, 0, none⟩) 0 G) 0 []) := Lib.hid (World.ownsRow_made w.drew C G (Nat.le_refl _) (by unfold maxLen; omega) hCs)
    have HB : Hid (Below w.heap.size w (w.drew.alloc (.cells C 27))) := Lib.hid ((Below.refl _ _).drew.alloc (Nat.le_refl _) _)
    clear hG hC hCs hi hz0 hz1 hz2
    have HR := Lib.hid hrz
    clear hrz
    go_enter Tryz.func104, Tryz.ntmps104
    go_wp2_with (at_builtin; go_loud (refine wpList_append_run rfl _ _ 22 3 rfl (.slice none 0 0) (.int .i64 (n : Int)) rfl rfl _ _ HR.out ?_))
    go_ret
    exact ⟨_, rfl, HO.out, HB.out⟩

/-- The sizes of the first j of two lists. -/
def sm (a b : Nat) : Nat → Nat
  | 0 => 0
  | 1 => a
  | _ => a + b
def cx (k a b : Nat) (F G : Nat → Nat → Value) : Nat → List Value
  | 0 => []
  | 1 => flatF k a F
  | _ => flatF k a F ++ flatF k b G
theorem own_nilG {w : World} {B : Nat} {e : TypeId} {size : Nat} {v : Value} {n : Nat} {xs : List Value} (h : w.ownsRow B e size v n xs) {k : Nat} (G : Nat → Nat → Value) (hk : k = 0) : w.ownsRow B e size v (n + k) (xs ++ flatF size k G) := by
  subst hk
  have : flatF size 0 G = [] := by simp [flatF]
  rw [this, List.append_nil]
  exact h
set_option maxRecDepth 100000 in
set_option maxHeartbeats 8000000 in
theorem concat_any (f g : List Fld) (p1 : Option Addr) (c1 : Nat) (p2 : Option Addr) (c2 a N : Nat) (w : World) (hA : Blk w a [.slice p1 f.length c1, .slice p2 g.length c2]) (h1 : At (Lo N) w (.r .fields) (.slice p1 f.length c1) (.row .fields (f.map Fld.lf))) (h2 : At (Lo N) w (.r .fields) (.slice p2 g.length c2) (.row .fields (g.map Fld.lf))) (hN : N ≤ w.heap.size) (hl : f.length + g.length ≤ 100000) :
    Calls Tryz.prog 90 #[.slice (some ⟨a, 0, none⟩) 2 2] w (tRowM (f.length + g.length) .fields ((f ++ g).map Fld.lf) w) := by
  obtain ⟨i0, hi, hz0, hz1, hz2⟩ := info_parts infoFields
  obtain ⟨_, _, F, e1, r1⟩ := h1.rowOf
  rw [List.length_map] at e1
  cases e1
  obtain ⟨_, _, G, e2, r2⟩ := h2.rowOf
  rw [List.length_map] at e2
  cases e2
  have R1 := Lib.hid r1
  have R2 := Lib.hid r2
  obtain ⟨n1, hn1⟩ : ∃ n, f.length = n := ⟨_, rfl⟩
  obtain ⟨n2, hn2⟩ : ∃ n, g.length = n := ⟨_, rfl⟩
  have HN1 := Lib.hid hn1
  have HN2 := Lib.hid hn2
  rw [hn1, hn2] at hA hl ⊢
  have HA := Lib.hid hA
  have q0 := hA.c 0 _ rfl
  have q1 := hA.c 1 _ rfl
  have hlt := hA.lt
  clear hn1 hn2 h1 h2 hA
  have NS : Hid (∀ (K : Nat) (p : Option Addr) (c : Nat) (M : Nat → Nat → Value) (l : List Fld) (ad : Addr), l.length = K → p = some ad → RowA (Lo N) w .fields p c M (l.map Fld.lf) → ∀ W, Below w.heap.size w W → ∀ j u, (flatF 5 K M)[j]? = some u → W.cell? (ad.add j) = some u) := Lib.hid fun K p c M l ad hK hp hr W hW j u hu => by
    subst hp
    have := hr.news j u (by rw [List.length_map, hK]; exact hu)
    exact (hW.cell (p := ad.add j) (Nat.lt_of_lt_of_le this.2.1 hN)).trans this.1
  have N1 : Hid (∀ (K : Nat) (p : Option Addr) (c : Nat) (M : Nat → Nat → Value) (l : List Fld), l.length = K → RowA (Lo N) w .fields p c M (l.map Fld.lf) → ∀ u ∈ flatF 5 K M, u.oneCell' = true) := Lib.hid fun K p c M l hK hr u hu => by
    obtain ⟨j, hj, e⟩ := List.mem_iff_getElem.1 hu
    have hj2 : (flatF 5 K M)[j]? = some u := by rw [← e]; exact List.getElem?_eq_getElem hj
    cases p with
    | none =>
      obtain ⟨hlt, _⟩ := flatF_at hj2
      obtain ⟨_, _, e, _⟩ := hr.hp (by rw [List.length_map]; omega)
      cases e
    | some ad => exact (hr.news j u (by rw [List.length_map, hK]; exact hj2)).2.2
  have NZ : Hid (∀ (K : Nat) (c : Nat) (M : Nat → Nat → Value) (l : List Fld), l.length = K → RowA (Lo N) w .fields none c M (l.map Fld.lf) → K = 0) := Lib.hid fun K c M l hK hr => by
    rcases Nat.eq_zero_or_pos K with h | h
    · exact h
    · obtain ⟨_, _, e, _⟩ := hr.hp (by rw [List.length_map]; omega)
      cases e
  go_enter Tryz.func90, Tryz.ntmps90
  go_wp2
  go_loop [3, 11] (fun s i => ∃ j : Nat, j ≤ 2 ∧ i = .int .i64 j ∧ s = .int .i64 (sm n1 n2 j)) (fun _ i => 2 - (intOf i).toNat)
  case atStart => exact ⟨0, Nat.zero_le _, rfl, rfl⟩
  case round =>
    obtain ⟨j, hj, rfl, rfl⟩ := hrel
    obtain rfl | rfl | rfl : j = 0 ∨ j = 1 ∨ j = 2 := by omega
    · have e0 : sm n1 n2 0 = 0 := rfl
      rw [e0]
      clear e0
      go_wp2
      go_round
      case rel => exact ⟨1, by omega, rfl, by simp [sm]⟩
      case measure => simp [intOf]
    · have e0 : sm n1 n2 1 = n1 := rfl
      rw [e0]
      clear e0
      go_wp2
      go_round
      case rel => exact ⟨2, by omega, rfl, by simp [sm]⟩
      case measure => simp [intOf]
    · have e0 : sm n1 n2 2 = n1 + n2 := rfl
      rw [e0]
      clear e0
      have GC := Lib.hid (grow_any (n1 + n2) w (by omega))
      rw [show ((n1 + n2 : Nat) : Int) = (n1 : Int) + n2 by omega] at GC ⊢
      go_wp2_with (go_at_call 104; ((with_reducible refine GC.out.mono ?_); rintro e w2 ⟨v2, rfl, ho, hb⟩; have HO := Lib.hid ho; have HB := Lib.hid hb; have A2 := Lib.hid (HA.out.stay hb); clear ho hb q0 q1))
      go_loopw [6, 27] (fun u i wr => ∃ j : Nat, j ≤ 2 ∧ i = .int .i64 j ∧ Hid (wr.ownsRow w.heap.size 27 5 u (sm n1 n2 j) (cx 5 n1 n2 F G j)) ∧ Hid (Below w.heap.size w wr)) (fun _ i _ => 2 - (intOf i).toNat)
      case atStart => exact ⟨0, Nat.zero_le _, rfl, HO, HB⟩
      case round =>
        obtain ⟨j, hj, rfl, OW, BW⟩ := hrel
        have AW := HA.out.stay BW.out
        have q0 := AW.c 0 _ rfl
        have q1 := AW.c 1 _ rfl
        clear AW
        obtain ⟨qp, qc, rfl⟩ := own_len OW.out
        obtain rfl | rfl | rfl : j = 0 ∨ j = 1 ∨ j = 2 := by omega
        · have O0 : Hid (wr.ownsRow w.heap.size 27 5 (.slice qp 0 qc) 0 []) := OW
          have e0 : sm n1 n2 0 = 0 := rfl
          rw [e0]
          clear e0 OW
          cases p1 with
          | none =>
            have hk := NZ.out n1 c1 F f HN1.out R1.out
            have RN : Hid (∀ ty, (Builtin.append_ #[22, 22] ty #[.slice qp 0 qc, .slice none n1 c1]).run Tryz.prog wr = .ok (.slice qp 0 qc) wr) := Lib.hid (fun ty => by rw [hk]; exact run_append_nil 22 ty w.heap.size 27 i0 Tryz.underlying22 hi (by rw [hz1]; exact O0.out))
            have O1 : Hid (wr.ownsRow w.heap.size 27 5 (.slice qp 0 qc) n1 (flatF 5 n1 F)) := Lib.hid (by have := own_nilG O0.out F hk; rw [Nat.zero_add, List.nil_append] at this; exact this)
            clear hk
            go_wp2_with (at_builtin; go_loud (refine wpList_append_run rfl _ _ 22 22 rfl _ _ rfl rfl _ _ RN.out ?_))
            go_roundw
            case rel => exact ⟨1, by omega, rfl, O1, BW⟩
            case measure => simp [intOf]
          | some ad =>
            go_wp2_with (at_builtin; go_loud (refine wpList_append_own _ rfl _ _ 22 rfl w.heap.size 27 i0 (.agg #[.string ⟨#[]⟩, .int .i64 0, .int .i64 0, .int .i64 0, .int .i64 0]) 5 48 Tryz.underlying22 hi hz0 hz1 hz2 rfl (by decide) _ 0 [] rfl O0.out ad n1 c1 (flatF 5 n1 F) rfl (flatF_len _ _ _) (NS.out n1 _ c1 F f ad HN1.out rfl R1.out wr BW.out) (N1.out n1 _ c1 F f HN1.out R1.out) (by unfold maxLen; omega) (by omega) BW.out.size ?_); go_loud (intro v' w3 hown' hgrow _; have O3 := Lib.hid hown'; have B3 := Lib.hid (BW.out.grown hgrow BW.out.size (own_block O0.out)); clear hown' hgrow))
            go_roundw
            case rel => exact ⟨1, by omega, rfl, Lib.hid (by have := O3.out; rw [Nat.zero_add, List.nil_append] at this; exact this), B3⟩
            case measure => simp [intOf]
        · have O0 : Hid (wr.ownsRow w.heap.size 27 5 (.slice qp n1 qc) n1 (flatF 5 n1 F)) := OW
          have e0 : sm n1 n2 1 = n1 := rfl
          rw [e0]
          clear e0 OW
          cases p2 with
          | none =>
            have hk := NZ.out n2 c2 G g HN2.out R2.out
            have RN : Hid (∀ ty, (Builtin.append_ #[22, 22] ty #[.slice qp n1 qc, .slice none n2 c2]).run Tryz.prog wr = .ok (.slice qp n1 qc) wr) := Lib.hid (fun ty => by rw [hk]; exact run_append_nil 22 ty w.heap.size 27 i0 Tryz.underlying22 hi (by rw [hz1]; exact O0.out))
            have O1 : Hid (wr.ownsRow w.heap.size 27 5 (.slice qp n1 qc) (n1 + n2) (flatF 5 n1 F ++ flatF 5 n2 G)) := Lib.hid (own_nilG O0.out G hk)
            clear hk
            go_wp2_with (at_builtin; go_loud (refine wpList_append_run rfl _ _ 22 22 rfl _ _ rfl rfl _ _ RN.out ?_))
            go_roundw
            case rel => exact ⟨2, by omega, rfl, O1, BW⟩
            case measure => simp [intOf]
          | some ad =>
            go_wp2_with (at_builtin; go_loud (refine wpList_append_own _ rfl _ _ 22 rfl w.heap.size 27 i0 (.agg #[.string ⟨#[]⟩, .int .i64 0, .int .i64 0, .int .i64 0, .int .i64 0]) 5 48 Tryz.underlying22 hi hz0 hz1 hz2 rfl (by decide) _ n1 (flatF 5 n1 F) rfl O0.out ad n2 c2 (flatF 5 n2 G) rfl (flatF_len _ _ _) (NS.out n2 _ c2 G g ad HN2.out rfl R2.out wr BW.out) (N1.out n2 _ c2 G g HN2.out R2.out) (by unfold maxLen; omega) (by omega) BW.out.size ?_); go_loud (intro v' w3 hown' hgrow _; have O3 := Lib.hid hown'; have B3 := Lib.hid (BW.out.grown hgrow BW.out.size (own_block O0.out)); clear hown' hgrow))
            go_roundw
            case rel => exact ⟨2, by omega, rfl, O3, B3⟩
            case measure => simp [intOf]
        · have O0 : Hid (wr.ownsRow w.heap.size 27 5 (.slice qp (n1 + n2) qc) (n1 + n2) (flatF 5 n1 F ++ flatF 5 n2 G)) := OW
          have e0 : sm n1 n2 2 = n1 + n2 := rfl
          rw [e0]
          clear e0 OW q0 q1
          have RF : Hid (At (Hi w.heap.size wr) wr (.r .fields) (.slice qp (n1 + n2) qc) (.row .fields ((f ++ g).map Fld.lf))) := Lib.hid (by
            have hll : ((f ++ g).map Fld.lf).length = n1 + n2 := by rw [List.length_map, List.length_append, HN1.out, HN2.out]
            have ra := rowA_own (S := Hi w.heap.size wr) (k := .fields) (l := (f ++ g).map Fld.lf) O0.out hll (by simp only [byt]; omega) (fun i x hx => by
              rw [List.getElem?_map] at hx
              obtain ⟨b, _, rfl⟩ := Option.map_eq_some_iff.1 hx
              rfl) (fun i x j y sh hx hy hsh => by
              have hj : j < 5 := by have := (List.getElem?_eq_some_iff.1 hsh).1; exact this
              rw [List.map_append] at hx
              rcases Nat.lt_or_ge i n1 with h | h
              · rw [List.getElem?_append_left (by rw [List.length_map, HN1.out]; exact h)] at hx
                have e : (flatF 5 n1 F ++ flatF 5 n2 G).getD (i * (shp Kd.fields).length + j) undef = F i j := by
                  rw [List.getD_eq_getElem?_getD, show i * (shp Kd.fields).length + j = i * 5 + j from rfl, List.getElem?_append_left (by rw [flatF_len]; omega), flatF_get h hj]; rfl
                rw [e]
                exact (R1.out.hx i x j y sh hx hy hsh).plain (by
                  have hm := List.mem_of_getElem? hsh
                  intro k
                  simp only [shp, List.mem_cons, List.not_mem_nil, or_false] at hm
                  rcases hm with rfl | rfl | rfl | rfl | rfl <;> simp)
              · have hil := (List.getElem?_eq_some_iff.1 hx).1
                rw [List.length_append, List.length_map, List.length_map, HN1.out, HN2.out] at hil
                rw [List.getElem?_append_right (by rw [List.length_map, HN1.out]; exact h), List.length_map, HN1.out] at hx
                have e : (flatF 5 n1 F ++ flatF 5 n2 G).getD (i * (shp Kd.fields).length + j) undef = G (i - n1) j := by
                  rw [List.getD_eq_getElem?_getD, show i * (shp Kd.fields).length + j = i * 5 + j from rfl, List.getElem?_append_right (by rw [flatF_len]; omega), flatF_len, show i * 5 + j - n1 * 5 = (i - n1) * 5 + j by omega, flatF_get (by omega) hj]; rfl
                rw [e]
                exact (R2.out.hx (i - n1) x j y sh hx hy hsh).plain (by
                  have hm := List.mem_of_getElem? hsh
                  intro k
                  simp only [shp, List.mem_cons, List.not_mem_nil, or_false] at hm
                  rcases hm with rfl | rfl | rfl | rfl | rfl <;> simp)) (fun b h1 h2 _ => ⟨h1, h2⟩)
            have := ra.at_
            rw [hll] at this
            exact this)
          go_wp2
          go_ret
          exact ⟨qp, qc, rfl, RF.out, BW.out⟩
end Go.Proofs.YtoigjeoncdfdmaaGreatDoor.ClW
