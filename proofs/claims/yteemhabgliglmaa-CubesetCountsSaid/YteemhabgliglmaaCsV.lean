/- Cubeset: the cover of simplified: includes. -/
import Derived.Test.YteemhabgliglmaaCsU
import Derived.Test.YteemhabgliglmaaCsS
import Derived.BigQuiet
import Derived.Maps.AppendAt
import Derived.Deep.RegionLaw
namespace Go.Proofs.Yteemhabgliglmaa
open Go.RowKit
set_option linter.unusedVariables false

theorem infoU64 : (Try.prog.info? 33).map (fun i => (i.zero, i.size, i.bytes)) = some (some (.int .u64 0), 1, 8) := by kernel_rfl
theorem one_u64 (M : List Nat) : ∀ u ∈ M.map u64V, u.oneCell' = true := by
  intro u hu; obtain ⟨z, _, rfl⟩ := List.mem_map.1 hu; rfl
theorem step_pushU {ops : Array Oper} {o : Oper} {a : Act} {w : World} {K : Act → World → Prop} {Q : Exit → Act → World → Prop} {Z : Prop} (hgd : o.guard = none) (s x : Operand)
    (ho : o.op = .call { callee := .builtin .append, args := #[s, x], argTypes := #[42, 42] }) (base : Nat) (V : Value) (M : List Nat) (hs : a.eval s = V) (hown : w.ownsRow base 33 1 V M.length (M.map u64V))
    (ad : Addr) (c : Nat) (y : Nat) (hx : a.eval x = .slice (some ad) 1 c) (hM : ∀ j u, ([y].map u64V)[j]? = some u → w.cell? (ad.add j) = some u) (hlen : M.length + 1 ≤ 1000000) (hbase : base ≤ w.heap.size)
    (h : ∀ V' w', w'.ownsRow base 33 1 V' (M ++ [y]).length ((M ++ [y]).map u64V) → w.grownBy w' V.ownBlock → (V'.ownBlock = V.ownBlock ∨ V'.ownBlock = some w.heap.size) → K (a.put o.dst V') w') : if Region.wanted o (yielded ops a.tmps) = true then Oper.wp Try.prog o a w K Q else Z := by
  have hw : Region.wanted o (yielded ops a.tmps) = true := by simp [Region.wanted, hgd]
  rw [if_pos hw]
  obtain ⟨i0, hi, hz0, hz1, hz2⟩ := info_parts infoU64
  obtain ⟨V', w', hr, h2, h3, h4, h5⟩ := run_append_own_at (P := Try.prog) w base 42 o.type 33 i0 (.int .u64 0) 1 8 Try.underlying42 hi hz0 hz1 hz2 rfl (by decide) V M.length (M.map u64V) hown ad 1 c ([y].map u64V) rfl hM (one_u64 [y]) (by unfold maxLen; omega) (by omega) hbase
  unfold Oper.wp execOp
  simp only [ho, resolve, invoke, builtin, Sem.run_bind, Sem.run_pure, Result.andThen_ok, List.map_toArray, List.map_cons, List.map_nil, hs, hx, hr]
  refine h V' w' ?_ h3 h5
  rw [List.length_append, List.map_append]
  exact h2
/-- A cover in memory: its variable, the row of its masks, its map. -/
structure CV (W w : World) (g : Nat) (V : Value) (b : Nat) (M : List Nat) (S : List (Nat × Nat)) : Prop where
  var : IsB w g 77 #[V, .map (some b)]
  row : w.ownsRow W.heap.size 33 1 V M.length (M.map u64V)
  map : MB w b S
  lowg : W.heap.size ≤ g
  lowb : W.heap.size ≤ b
  grown : W.grownBy w none
  mask : ∀ p ∈ S, p.2 ∈ M
  m64 : ∀ m ∈ M, B64 m
  len : M.length ≤ S.length
theorem CV.keep0 {W w w2 : World} {g b : Nat} {V : Value} {M : List Nat} {S : List (Nat × Nat)} (h : CV W w g V b M S) (k : w.grownBy w2 none) : CV W w2 g V b M S :=
  ⟨h.var.keep0 k, own_keep0 h.row k, h.map.keep0 k, h.lowg, h.lowb, gb_trans h.grown k, h.mask, h.m64, h.len⟩
/-- The test of one mask. -/
def incT (S : List (Nat × Nat)) (v m x : Nat) : Bool := decide (andN x m = 0) && decide ((v &&& x, x) ∈ S)
def incl (M : List Nat) (S : List (Nat × Nat)) (v m : Nat) : Bool := M.any (incT S v m)
set_option maxRecDepth 100000 in
set_option maxHeartbeats 8000000 in
theorem inc_any (W w : World) (g b : Nat) (V : Value) (M : List Nat) (S : List (Nat × Nat)) (h : CV W w g V b M S) (hn : M.length ≤ 100000) (v m : Nat) (hv : B64 v) (hm : B64 m) : Calls Try.prog 59 #[.pointer (some ⟨g, 0, none⟩), .agg #[.int .u64 v, .int .u64 m]] w (RetV (.bool (incl M S v m)) w) := by
  obtain ⟨a, c, rfl⟩ := own_shape h.row
  have SR := Lib.hid (own_slr h.row)
  obtain ⟨W2, hW⟩ : ∃ W2, W2 = w.alloc (.cells #[.int .u64 v, .int .u64 m] 49) := ⟨_, rfl⟩
  have bw : IsB W2 w.heap.size 49 #[.int .u64 v, .int .u64 m] := by rw [hW]; exact IsB.new w _ _
  have GW := Lib.hid (show w.grownBy W2 none by rw [hW]; exact gb_alloc w _ none)
  have HV := Lib.hid h.var
  have HM := Lib.hid h.map
  have M64 := Lib.hid h.m64
  have BW := Lib.hid bw
  have d0 := (HV.out.keep0 GW.out).cell 0
  have d1 := (HV.out.keep0 GW.out).cell 1
  simp at d0 d1
  obtain ⟨r, hr⟩ : ∃ r, r = incl M S v m := ⟨_, rfl⟩
  rw [← hr]
  have HR := Lib.hid hr
  have HB := Lib.hid hv
  have HC := Lib.hid hm
  obtain ⟨n, hnn⟩ : ∃ n, n = M.length := ⟨_, rfl⟩
  have HL := Lib.hid hnn
  rw [← hnn] at SR hn d0
  clear h hr hv hm bw hnn
  go_enter Try.func59, Try.ntmps59
  go_upto_region 1 with fail
  rw [← hW]
  clear hW
  go_wp2
  go_loopw [6, 12] (fun s6 i wr => ∃ j : Nat, j ≤ n ∧ i = .int .i64 j ∧ (M.take j).any (incT S v m) = false ∧ W2.grownBy wr none) (fun _ i _ => n - (intOf i).toNat)
  case atStart => exact ⟨0, Nat.zero_le _, rfl, rfl, gb_refl _ _⟩
  case round =>
    obtain ⟨j, hj, rfl, ht, hg⟩ := hrel
    have HT := Lib.hid ht
    have HG := Lib.hid hg
    clear ht hg
    by_cases hlt : j < n
    · have hl : j < M.length := by rw [← HL.out]; exact hlt
      obtain ⟨ad, rfl⟩ : ∃ ad, a = some ad := by
        cases a with
        | none => have := (SR.out.2.1 rfl).1; omega
        | some ad => exact ⟨ad, rfl⟩
      have i1 : (j : Int) < n := by omega
      have i0 : (0 : Int) ≤ (j : Int) := by omega
      have e0 : (M.map u64V)[j]? = some (u64V (M.getD j 0)) := by rw [List.getElem?_map, List.getElem?_eq_getElem hl, List.getD_eq_getElem?_getD, List.getElem?_eq_getElem hl]; rfl
      have c0 := (SR.out.keep0 (gb_trans GW.out HG.out)).2.2 ad rfl j (u64V (M.getD j 0)) e0
      unfold u64V at c0
      have xm : M.getD j 0 ∈ M := by rw [List.getD_eq_getElem?_getD, List.getElem?_eq_getElem hl]; exact List.getElem_mem _
      have bx := M64.out _ xm
      have ST := Lib.hid (show (M.take (j + 1)).any (incT S v m) = ((M.take j).any (incT S v m) || incT S v m (M.getD j 0)) by rw [take_one M 0 j hl, List.any_append]; simp)
      have YES := Lib.hid (show incT S v m (M.getD j 0) = true → incl M S v m = true from fun e => by
        unfold incl
        rw [List.any_eq_true]
        exact ⟨_, xm, e⟩)
      generalize M.getD j 0 = x at *
      have k0 := (BW.out.keep0 HG.out).cell 0
      have k1 := (BW.out.keep0 HG.out).cell 1
      have q0 := ((HV.out.keep0 GW.out).keep0 HG.out).cell 0
      have q1 := ((HV.out.keep0 GW.out).keep0 HG.out).cell 1
      simp at k0 k1 q0 q1
      have LK := Lib.hid (fun k => ((HM.out.keep0 (gb_trans GW.out HG.out)).keep0 (gb_drewN wr k none)).look (v &&& x) x (Nat.lt_of_le_of_lt Nat.and_le_left HB.out) bx)
      obtain ⟨p, hp, hpl, ep⟩ := bN x m bx HC.out
      obtain ⟨q, hq, hql, eq⟩ := bA v x HB.out bx
      have IT := Lib.hid (show incT S v m x = (decide (p = 0) && decide ((q, x) ∈ S)) by rw [hp, hq]; rfl)
      rw [← hq] at LK
      clear e0 hl xm bx hp hpl hq hql
      by_cases hz : p = 0
      · subst hz
        have ep0 : bits .andNot .u64 (x : Int) (m : Int) = 0 := ep
        clear ep
        cases hin : decide ((q, x) ∈ S)
        · rw [hin] at LK IT
          have LK0 := LK.out 0
          have LK1 := fun k => LK.out k
          have S2 := Lib.hid (show (M.take (j + 1)).any (incT S v m) = false by rw [ST.out, HT.out, IT.out]; rfl)
          clear ST YES hin
          go_wp2
          go_quiet (fail)
          go_wp2
          go_roundw
          case rel => exact ⟨j + 1, by omega, by go_num, S2.out, gb_trans HG.out (gb_drewN _ _ _)⟩
          case measure => simp [intOf]; omega
        · rw [hin] at LK IT
          have LK0 := LK.out 0
          have LK1 := fun k => LK.out k
          have R2 := Lib.hid (YES.out (by rw [IT.out]; rfl))
          clear ST YES hin
          go_wp2
          go_quiet (fail)
          go_wp2
          go_ret
          exact ⟨by rw [HR.out, R2.out] <;> rfl, gb_trans GW.out (gb_trans HG.out (gb_drewN _ _ _))⟩
      · have ep0 : ((p : Int) == 0) = false := by rw [beq_eq_false_iff_ne]; omega
        have ep1 : ¬ (p : Int) = 0 := by omega
        have S2 := Lib.hid (show (M.take (j + 1)).any (incT S v m) = false by rw [ST.out, HT.out, IT.out]; simp [hz])
        clear ST YES IT LK hz
        go_wp2
        go_quiet (fail)
        go_wp2
        go_roundw
        case rel => exact ⟨j + 1, by omega, by go_num, S2.out, gb_trans HG.out (gb_drewN _ _ _)⟩
        case measure => simp [intOf]; omega
    · have hje : j = n := by omega
      have R2 := Lib.hid (show incl M S v m = false by have := HT.out; rwa [List.take_of_length_le (by rw [← HL.out]; omega)] at this)
      subst hje
      go_wp2
      go_ret
      exact ⟨by rw [HR.out, R2.out] <;> rfl, gb_trans GW.out HG.out⟩
end Go.Proofs.Yteemhabgliglmaa
