/- Cubeset: the reference's lowBits and Subtract. -/
import Derived.Test.YteemhabgliglmaaCsF
import Derived.Test.YteemhabgliglmaaTeL
import Derived.Test.YteemhabgliglmaaTeT
namespace Go.Proofs.Yteemhabgliglmaa
open Go.RowKit
set_option linter.unusedVariables false

set_option maxRecDepth 100000 in
theorem rlowb_any (w : World) (k : Nat) (h1 : 1 ≤ k) (h2 : k ≤ 64) : Calls Try.prog 45 #[.int .i64 k] w (RetS (.int .u64 (lowN k)) w) := by
  obtain ⟨q, rfl⟩ : ∃ q, k = q + 1 := ⟨k - 1, by omega⟩
  have e0 : ((q + 1 : Nat) : Int) - 1 = (q : Int) := by omega
  have e0' : (q : Int) + 1 - 1 = (q : Int) := by omega
  obtain ⟨b, hb⟩ : ∃ b, b = 2 ^ q := ⟨_, rfl⟩
  have bb : B64 b := by rw [hb]; exact one_lt q (by omega)
  have eb : IntKind.u64.wrap ((2 : Int) ^ q) = (b : Int) := by
    rw [hb] at bb ⊢
    rw [← u64w _ bb]; simp
  have hb1 : 1 ≤ b := by rw [hb]; exact Nat.two_pow_pos q
  obtain ⟨r, hr⟩ : ∃ r : Nat, r = 2 * b % 18446744073709551616 := ⟨_, rfl⟩
  have e2 : IntKind.u64.wrap ((b : Int) * 2) = (r : Int) := by rw [IntKind.wrap_u64]; omega
  have hl : lowN (q + 1) = 2 * b - 1 := by unfold lowN; rw [hb, Nat.pow_succ]; omega
  have e3 : IntKind.u64.wrap ((r : Int) - 1) = (lowN (q + 1) : Int) := by
    rw [IntKind.wrap_u64, hl]
    unfold B64 at bb
    have hb9 : b ≤ 9223372036854775808 := by
      rw [hb]
      exact Nat.le_trans (Nat.pow_le_pow_right (by decide) (show q ≤ 63 by omega)) (by decide)
    omega
  generalize lowN (q + 1) = l at *
  clear hb hr hl
  go_enter Try.func45, Try.ntmps45
  go_wp2
  go_ret
  exact ⟨rfl, rfl⟩
theorem step_pushAll {ops : Array Oper} {o : Oper} {a : Act} {w : World} {K : Act → World → Prop} {Q : Exit → Act → World → Prop} {Z : Prop} (hgd : o.guard = none) (s x : Operand)
    (ho : o.op = .call { callee := .builtin .append, args := #[s, x], argTypes := #[22, 22] }) (base : Nat) (V : Value) (M : List (Nat × Nat)) (hs : a.eval s = V) (hown : CLs w base V M)
    (ad : Option Addr) (m c : Nat) (L : List (Nat × Nat)) (hx : a.eval x = .slice ad m c) (hL : SC w ad m c L) (hlen : M.length + L.length ≤ 1000000) (hbase : base ≤ w.heap.size)
    (h : ∀ V' w', CLs w' base V' (M ++ L) → w.grownBy w' V.ownBlock → K (a.put o.dst V') w') : if Region.wanted o (yielded ops a.tmps) = true then Oper.wp Try.prog o a w K Q else Z := by
  have hw : Region.wanted o (yielded ops a.tmps) = true := by simp [Region.wanted, hgd]
  rw [if_pos hw]
  obtain ⟨i0, hi, hz0, hz1, hz2⟩ := info_parts infoCube
  have hl := hL.len
  subst hl
  cases ad with
  | none =>
    obtain ⟨h0, rfl⟩ := hL.nil rfl
    have hm : L = [] := List.length_eq_zero_iff.1 h0
    subst hm
    have hrun := run_append_owned_none (P := Try.prog) (w := w) base 22 o.type 49 i0 2 Try.underlying22 hi V M.length (M.flatMap cubeC) hown
    have hx' : a.eval x = .slice none 0 0 := hx
    unfold Oper.wp
    simp [execOp, ho, resolve, invoke, builtin, hs, hx', hrun, Result.andThen]
    refine h V w (by simpa using hown) ?_
    cases V.ownBlock <;> exact gb_refl _ _
  | some ad =>
    refine wp_append_own w s x 22 ho base 49 i0 _ 2 16 Try.underlying22 hi hz0 hz1 hz2 rfl (by decide) V M.length (M.flatMap cubeC) hs hown ad L.length c (L.flatMap cubeC) hx (cubeC_len L) (sc_flat hL) (flat_one L) (by unfold maxLen; omega) (by omega) hbase ?_
    intro V' w' h1 h2 h3
    refine h V' w' ?_ h2
    unfold CLs
    rw [List.flatMap_append, List.length_append]
    exact h1
/-- One cube with the mask bits below w alone. -/
def resP (k : Nat) (p : Nat × Nat) : Nat × Nat := (p.1, p.2 &&& lowN k)
def rowS (k : Nat) (q : Nat × Nat) (L : List (Nat × Nat)) : List (Nat × Nat) := L.flatMap fun p => subL p.1 p.2 q.1 q.2 (k : Int)
/-- What is left behind each cube of the second list. -/
def subG (k : Nat) : List (Nat × Nat) → List (Nat × Nat) → List (Nat × Nat) × Int
  | [], left => (left, 0)
  | q :: t, left => if 1024 < (simpL (rowS k q left)).length then ([], 12) else subG k t (simpL (rowS k q left))
def subsL (k : Nat) (L M : List (Nat × Nat)) : List (Nat × Nat) × Int := if 1024 < (simpL (L.map (resP k))).length then ([], 12) else subG k M (simpL (L.map (resP k)))
theorem rowS_len (k : Nat) (q : Nat × Nat) (L : List (Nat × Nat)) : (rowS k q L).length ≤ L.length * 64 := by
  unfold rowS
  induction L with
  | nil => simp
  | cons p s ih =>
    rw [List.flatMap_cons, List.length_append, List.length_cons]
    have := subL_len p.1 p.2 q.1 q.2 (k : Int)
    omega
theorem rowS_snoc (k : Nat) (q : Nat × Nat) (L : List (Nat × Nat)) (j : Nat) (h : j < L.length) : rowS k q (L.take (j + 1)) = rowS k q (L.take j) ++ subL (L.getD j (0, 0)).1 (L.getD j (0, 0)).2 q.1 q.2 (k : Int) := by
  unfold rowS
  rw [take_one L (0, 0) j h, List.flatMap_append]
  simp
theorem rowS_wf (k : Nat) (h1 : 1 ≤ k) (h2 : k ≤ 64) (q : Nat × Nat) (L : List (Nat × Nat)) (hq : B64 q.1 ∧ B64 q.2) (hL : ∀ p ∈ L, B64 p.1 ∧ B64 p.2) : ∀ x ∈ rowS k q L, B64 x.1 ∧ B64 x.2 := by
  intro x hx
  obtain ⟨p, hp, h⟩ := List.mem_flatMap.1 hx
  have k := subL_chk p.1 p.2 q.1 q.2 k h1 h2 (hL p hp).1 (hL p hp).2 hq.1 hq.2 x h
  exact ⟨k.1, k.2.1⟩
theorem resP_wf (k : Nat) (L : List (Nat × Nat)) (hL : ∀ p ∈ L, B64 p.1 ∧ B64 p.2) : ∀ x ∈ L.map (resP k), B64 x.1 ∧ B64 x.2 := by
  intro x hx
  obtain ⟨p, hp, rfl⟩ := List.mem_map.1 hx
  exact ⟨(hL p hp).1, Nat.lt_of_le_of_lt Nat.and_le_left (hL p hp).2⟩
set_option maxRecDepth 100000 in
set_option maxHeartbeats 20000000 in
theorem rsubs_any (w : World) (a b : Option Addr) (n c m d k : Nat) (L M : List (Nat × Nat)) (h : SC w a n c L) (g : SC w b m d M) (hn : n ≤ 10000) (hm : m ≤ 10000) (hk1 : 1 ≤ k) (hk2 : k ≤ 64) : Calls Try.prog 21 #[.slice a n c, .slice b m d, .int .i64 k] w (RetCE (subsL k L M).1 (subsL k L M).2 w) := by
  have HA := Lib.hid h
  have HB := Lib.hid g
  have HL := Lib.hid h.len
  have HL2 := Lib.hid g.len
  obtain ⟨R, hR⟩ : ∃ R, R = subsL k L M := ⟨_, rfl⟩
  rw [← hR]
  have HR := Lib.hid hR
  have LB := Lib.hid (fun w => rlowb_any w k hk1 hk2)
  have lw := lowN_lt k hk2
  have RS := Lib.hid (fun p => show resP k p = (p.1, p.2 &&& lowN k) from rfl)
  have K1 := Lib.hid hk1
  have K2 := Lib.hid hk2
  obtain ⟨l, hl⟩ : ∃ l, l = lowN k := ⟨_, rfl⟩
  rw [← hl] at LB lw RS
  have g1 : ¬ (k : Int) < 1 := by omega
  have g2 : ¬ (64 : Int) < (k : Int) := by omega
  clear h g hR hl hk1 hk2
  go_enter Try.func21, Try.ntmps21
  go_wp2
  go_loopw [8, 9] (fun o s wr => ∃ (j : Nat) (V : List (Nat × Nat)), j ≤ n ∧ s = .int .i64 j ∧ V = (L.take j).map (resP k) ∧ CLs wr w.heap.size o V ∧ w.grownBy wr none) (fun _ s _ => n - (intOf s).toNat)
  case atStart => exact ⟨0, [], Nat.zero_le _, rfl, rfl, CLs.nil _ _, gb_refl _ _⟩
  case round =>
    obtain ⟨j, V, hj, rfl, hV, ho, hg⟩ := hrel
    obtain ⟨va, vc, rfl⟩ := ho.shape
    have hvl : V.length ≤ 10000 := by rw [hV, List.length_map, List.length_take]; omega
    have HV := Lib.hid hV
    have HO := Lib.hid ho
    have HG := Lib.hid hg
    clear hV ho hg
    by_cases hlt : j < n
    · have i1 : (j : Int) < n := by omega
      have i0 : (0 : Int) ≤ (j : Int) := by omega
      obtain ⟨ad, rfl⟩ := HA.out.some (by omega)
      have CJ := Lib.hid (fun (w2 : World) (g : w.grownBy w2 none) => (HA.out.keep0 g).cells ad rfl j hlt)
      obtain ⟨b0, b1⟩ := HA.out.wfAt j hlt
      have TK := Lib.hid (show (L.take (j + 1)).map (resP k) = (L.take j).map (resP k) ++ [resP k (L.getD j (0, 0))] by rw [take_one L (0, 0) j (by rw [HL.out]; exact hlt), List.map_append]; rfl)
      obtain ⟨p, hp⟩ : ∃ p, p = L.getD j (0, 0) := ⟨_, rfl⟩
      rw [← hp] at CJ b0 b1 TK
      obtain ⟨v, m2⟩ := p
      obtain ⟨z, hz, hzl, ez⟩ := bA m2 l b1 lw
      have V2 := Lib.hid (show V ++ [(v, z)] = (L.take (j + 1)).map (resP k) by rw [TK.out, HV.out, RS.out, hz])
      clear hp b0 b1 hz hzl TK
      go_upto_region 7 with fail
      · skip
        have KS := Lib.hid (fun (w' : World) (g : w.grownBy w' none) => (⟨(CJ.out w' g).1, (CJ.out w' g).2, g⟩ : (fun w' : World => w'.cell? (ad.add (j * 2)) = some (.int .u64 (v : Int)) ∧ w'.cell? ⟨(ad.add (j * 2)).block, (ad.add (j * 2)).off + 1, none⟩ = some (.int .u64 (m2 : Int)) ∧ w.grownBy w' none) w'))
        refine wp_region_held_drew (S := (fun w' : World => w'.cell? (ad.add (j * 2)) = some (.int .u64 (v : Int)) ∧ w'.cell? ⟨(ad.add (j * 2)).block, (ad.add (j * 2)).off + 1, none⟩ = some (.int .u64 (m2 : Int)) ∧ w.grownBy w' none)) (by kernel_rfl) (KS.out _ (gb_trans HG.out (gb_drew wr none))) (fun hH0 => ?_)
        refine wpAnyH_take (i := 0) (v := ?v1) rfl (by kernel_rfl) (by kernel_rfl) (by kernel_rfl) (fun _ _ _ h => h) (Or.inl ⟨by rfl, ?hy1⟩) (by assumption) ?rest1
        case hy1 => (intro wz hSw; (try dsimp only at hSw); first | (go_simp; done) | (go_simp; with_reducible rfl))
        try simp only [Act.put, List.getElem_toArray, List.getElem_cons_zero, List.setIfInBounds_toArray, List.set_cons_zero, List.set_cons_succ]
        refine wpAnyH_take (i := 1) (v := ?v2) rfl (by kernel_rfl) (by kernel_rfl) (by kernel_rfl) (fun _ _ _ h => h) (Or.inl ⟨by rfl, ?hy2⟩) (by assumption) ?rest2
        case hy2 => (intro wz hSw; (try dsimp only at hSw); first | (go_simp; done) | (go_simp; with_reducible rfl))
        try simp only [Act.put, List.getElem_toArray, List.getElem_cons_succ, List.getElem_cons_zero, List.setIfInBounds_toArray, List.set_cons_zero, List.set_cons_succ]
        refine wpAnyH_take (i := 2) (v := ?v3) rfl (by kernel_rfl) (by kernel_rfl) (by kernel_rfl) (fun _ _ _ h => h) (Or.inl ⟨by rfl, ?hy3⟩) (by assumption) ?rest3
        case hy3 => (intro wz hSw; (try dsimp only at hSw); first | (go_simp; done) | (go_simp; with_reducible rfl))
        try simp only [Act.put, List.getElem_toArray, List.getElem_cons_succ, List.getElem_cons_zero, List.setIfInBounds_toArray, List.set_cons_zero, List.set_cons_succ]
        refine wpAnyH_take (i := 3) (v := ?v4) rfl (by kernel_rfl) (by kernel_rfl) (by kernel_rfl) (fun _ _ _ h => h) (Or.inl ⟨by rfl, ?hy4⟩) (by assumption) ?rest4
        case hy4 => (intro wz hSw; (try dsimp only at hSw); first | (go_simp; done) | (go_simp; with_reducible rfl))
        try simp only [Act.put, List.getElem_toArray, List.getElem_cons_succ, List.getElem_cons_zero, List.setIfInBounds_toArray, List.set_cons_zero, List.set_cons_succ]
        refine wpAnyH_take (i := 4) (v := ?v5) rfl (by kernel_rfl) (by kernel_rfl) (by kernel_rfl) (fun _ _ _ h => h) (Or.inl ⟨by rfl, ?hy5⟩) (by assumption) ?rest5
        case hy5 => (intro wz hSw; (try dsimp only at hSw); first | (go_simp; done) | (go_simp; with_reducible rfl))
        try simp only [Act.put, List.getElem_toArray, List.getElem_cons_succ, List.getElem_cons_zero, List.setIfInBounds_toArray, List.set_cons_zero, List.set_cons_succ]
        refine wpAnyH_take (i := 5) (v := ?v6) rfl (by kernel_rfl) (by kernel_rfl) (by kernel_rfl) (fun _ _ _ h => h) (Or.inl ⟨by rfl, ?hy6⟩) (by assumption) ?rest6
        case hy6 => (intro wz hSw; (try dsimp only at hSw); first | (go_simp; done) | (go_simp; with_reducible rfl))
        try simp only [Act.put, List.getElem_toArray, List.getElem_cons_succ, List.getElem_cons_zero, List.setIfInBounds_toArray, List.set_cons_zero, List.set_cons_succ]
        refine wpAnyH_take (i := 6) (v := ?v7) rfl (by kernel_rfl) (by kernel_rfl) (by kernel_rfl) (fun _ _ _ h => h) (Or.inl ⟨by rfl, ?hy7⟩) (by assumption) ?rest7
        case hy7 => (intro wz hSw; (try dsimp only at hSw); first | (go_simp; done) | (go_simp; with_reducible rfl))
        try simp only [Act.put, List.getElem_toArray, List.getElem_cons_succ, List.getElem_cons_zero, List.setIfInBounds_toArray, List.set_cons_zero, List.set_cons_succ]
        refine wpAnyH_take (i := 7) (v := ?v8) rfl (by kernel_rfl) (by kernel_rfl) (by kernel_rfl) (fun _ _ _ h => h) (Or.inl ⟨by rfl, ?hy8⟩) (by assumption) ?rest8
        case hy8 => (intro wz hSw; (try dsimp only at hSw); first | (go_simp; done) | (go_simp; with_reducible rfl))
        try simp only [Act.put, List.getElem_toArray, List.getElem_cons_succ, List.getElem_cons_zero, List.setIfInBounds_toArray, List.set_cons_zero, List.set_cons_succ]
        refine wpAnyH_take (i := 8) (v := ?v9) rfl (by kernel_rfl) (by kernel_rfl) (by kernel_rfl) (fun _ _ _ h => h) (Or.inl ⟨by rfl, ?hy9⟩) (by assumption) ?rest9
        case hy9 => (intro wz hSw; (try dsimp only at hSw); first | (go_simp; done) | (go_simp; with_reducible rfl))
        try simp only [Act.put, List.getElem_toArray, List.getElem_cons_succ, List.getElem_cons_zero, List.setIfInBounds_toArray, List.set_cons_zero, List.set_cons_succ]
        refine wpAnyH_take (i := 9) (v := ?v10) rfl (by kernel_rfl) (by kernel_rfl) (by kernel_rfl) (fun _ _ _ h => h) (Or.inl ⟨by rfl, ?hy10⟩) (by assumption) ?rest10
        case hy10 => (intro wz hSw; (try dsimp only at hSw); first | (go_simp; done) | (go_simp; with_reducible rfl))
        try simp only [Act.put, List.getElem_toArray, List.getElem_cons_succ, List.getElem_cons_zero, List.setIfInBounds_toArray, List.set_cons_zero, List.set_cons_succ]
        refine wpAnyH_take (i := 10) (v := ?v11) rfl (by kernel_rfl) (by kernel_rfl) (by kernel_rfl) (fun _ _ _ h => h) (Or.inl ⟨by rfl, ?hy11⟩) (by assumption) ?rest11
        case hy11 => (intro wz hSw; (try dsimp only at hSw); first | (go_simp; done) | (go_simp; with_reducible rfl))
        try simp only [Act.put, List.getElem_toArray, List.getElem_cons_succ, List.getElem_cons_zero, List.setIfInBounds_toArray, List.set_cons_zero, List.set_cons_succ]
        refine wpAnyH_take (i := 11) (v := ?v12) rfl (by kernel_rfl) (by kernel_rfl) (by kernel_rfl) (fun _ _ _ h => h) (Or.inl ⟨by rfl, ?hy12⟩) (by assumption) ?rest12
        case hy12 => (intro wz hSw; (try dsimp only at hSw); first | (go_simp; done) | (go_simp; with_reducible rfl))
        try simp only [Act.put, List.getElem_toArray, List.getElem_cons_succ, List.getElem_cons_zero, List.setIfInBounds_toArray, List.set_cons_zero, List.set_cons_succ]
        refine wpAnyH_ready (rs := [12]) (by kernel_rfl) (by simp) ?_
        refine AllReadyH.cons (o := _) rfl (fun K hK => ?_) AllReadyH.nil
        go_simp
        refine (LB.out _).mono ?_
        rintro e w20 ⟨rfl, rfl⟩
        try dsimp only
        refine hK.out _ _ hH0 (fun hH1 => ?_)
        clear hK K hH0
        refine wpAnyH_take (i := 13) (v := ?v13) rfl (by kernel_rfl) (by kernel_rfl) (by kernel_rfl) (fun _ _ _ h => h) (Or.inl ⟨by rfl, ?hy13⟩) (by assumption) ?rest13
        case hy13 => (intro wz hSw; (try dsimp only at hSw); first | (go_simp; done) | (go_simp; with_reducible rfl))
        try simp only [Act.put, List.getElem_toArray, List.getElem_cons_succ, List.getElem_cons_zero, List.setIfInBounds_toArray, List.set_cons_zero, List.set_cons_succ]
        refine wpAnyH_take (i := 14) (v := ?v14) rfl (by kernel_rfl) (by kernel_rfl) (by kernel_rfl) (fun _ _ _ h => h) (Or.inl ⟨by rfl, ?hy14⟩) (by assumption) ?rest14
        case hy14 => (intro wz hSw; (try dsimp only at hSw); first | (go_simp; done) | (go_simp; with_reducible rfl))
        try simp only [Act.put, List.getElem_toArray, List.getElem_cons_succ, List.getElem_cons_zero, List.setIfInBounds_toArray, List.set_cons_zero, List.set_cons_succ]
        refine wpAnyH_ready (rs := [15]) (by kernel_rfl) (by simp) ?_
        refine AllReadyH.cons (o := _) rfl (fun K hK => ?_) AllReadyH.nil
        go_simp
        try dsimp only
        refine hK.out _ _ (KS.out _ (gb_trans hH1.2.2 (gb_alloc _ _ none))) (fun hH2 => ?_)
        clear hK K
        try simp only [Act.put, List.getElem_toArray, List.getElem_cons_succ, List.getElem_cons_zero, List.setIfInBounds_toArray, List.set_cons_zero, List.set_cons_succ]
        refine wpAnyH_ready (rs := [16]) (by kernel_rfl) (by simp) ?_
        refine AllReadyH.cons (o := _) rfl (fun K hK => ?_) AllReadyH.nil
        refine step_pushC rfl _ _ rfl w.heap.size _ V rfl (HO.out.keep0 (gb_trans (gb_drew wr none) (gb_alloc _ _ none))) _ _ (v, z) rfl (two_cell _ _ _ _ _ (IsB.new _ _ _) rfl) (by omega) hH2.2.2.size ?_
        intro V9 w9 o9 g9
        have G9 := gb_own hH2.2.2 (HO.out.keep0 (gb_trans (gb_drew wr none) (gb_alloc _ _ none))) (Nat.le_refl _) g9
        refine hK.out _ _ (KS.out _ G9) (fun hH3 => ?_)
        clear hK K hH1 hH2
        try simp only [Act.put, List.getElem_toArray, List.getElem_cons_succ, List.getElem_cons_zero, List.setIfInBounds_toArray, List.set_cons_zero, List.set_cons_succ]
        refine wpAnyH_take (i := 17) (v := ?v15) rfl (by kernel_rfl) (by kernel_rfl) (by kernel_rfl) (fun _ _ _ h => h) (Or.inl ⟨by rfl, ?hy15⟩) (by assumption) ?rest15
        case hy15 => (intro wz hSw; (try dsimp only at hSw); first | (go_simp; done) | (go_simp; with_reducible rfl))
        try simp only [Act.put, List.getElem_toArray, List.getElem_cons_succ, List.getElem_cons_zero, List.setIfInBounds_toArray, List.set_cons_zero, List.set_cons_succ]
        refine wpAnyH_done (by kernel_rfl) ?_ _
        clear hH3 KS
        go_wp2
        go_roundw
        case rel => exact ⟨j + 1, V ++ [(v, z)], by omega, by go_num, V2.out, o9, G9⟩
        case measure => simp [intOf]; omega
    · have hje : j = n := by omega
      have VV := Lib.hid (show V = L.map (resP k) by rw [HV.out, List.take_of_length_le (by rw [HL.out]; omega)])
      have wfV : ∀ x ∈ V, B64 x.1 ∧ B64 x.2 := by rw [VV.out]; exact resP_wf k L HA.out.wf
      have ST := Lib.hid (step_any wr va _ vc V (sc_own HO.out wfV) (by omega))
      have WF := Lib.hid (simpL_wf V wfV)
      have RR0 := Lib.hid (show R = if 1024 < (simpL V).length then ([], 12) else subG k M (simpL V) by rw [HR.out, VV.out]; rfl)
      subst hje
      clear wfV
      unfold stepL stepE at ST
      go_upto_region 8 with fail
      go_cut [8, 10] from 43 to 47 (fun s8 s10 wx => ∃ (left : List (Nat × Nat)) (er : Int), s10 = .int .i64 er ∧ ((er = 0 ∧ subG k M left = R ∧ left.length ≤ 1024) ∨ (er = 12 ∧ R = ([], 12) ∧ left = [])) ∧ (∀ x ∈ left, B64 x.1 ∧ B64 x.2) ∧ CLs wx w.heap.size s8 left ∧ w.grownBy wx none)
      case first =>
        by_cases hbig : 1024 < (simpL V).length
        · rw [if_pos hbig, if_pos hbig] at ST
          have R2 := Lib.hid (show R = ([], 12) by rw [RR0.out, if_pos hbig])
          clear hbig
          go_wp2_with fail
          refine ST.out.mono ?_
          rintro e w5 ⟨V5, rfl, o5, g5⟩
          go_wp2
          go_meet
          exact ⟨[], 12, rfl, .inr ⟨rfl, R2.out, rfl⟩, by simp, own_low o5 HG.out.size, gb_trans HG.out g5⟩
        · rw [if_neg hbig, if_neg hbig] at ST
          have R2 := Lib.hid (show subG k M (simpL V) = R by rw [RR0.out, if_neg hbig])
          have hl5 : (simpL V).length ≤ 1024 := by omega
          clear hbig
          go_wp2_with fail
          refine ST.out.mono ?_
          rintro e w5 ⟨V5, rfl, o5, g5⟩
          go_wp2
          go_meet
          exact ⟨simpL V, 0, rfl, .inl ⟨rfl, R2.out, hl5⟩, WF.out, own_low o5 HG.out.size, gb_trans HG.out g5⟩
      case rest =>
        obtain ⟨left0, er0, rfl, hcase, hwf0, ho0, hg0⟩ := hcut
        have HC := Lib.hid hcase
        have HW0 := Lib.hid hwf0
        have HO0 := Lib.hid ho0
        have HG0 := Lib.hid hg0
        clear hcase hwf0 ho0 hg0 ST WF RR0 VV HO HG HV hvl LB RS lw
        go_wp2
        go_loopw [8, 10, 11] (fun o s10 s wr => ∃ (j : Nat) (left : List (Nat × Nat)) (er : Int), j ≤ m ∧ s = .int .i64 j ∧ s10 = .int .i64 er ∧ ((er = 0 ∧ subG k (M.drop j) left = R ∧ left.length ≤ 1024) ∨ (er = 12 ∧ R = ([], 12) ∧ left = [])) ∧ (∀ x ∈ left, B64 x.1 ∧ B64 x.2) ∧ CLs wr w.heap.size o left ∧ w.grownBy wr none) (fun _ _ s _ => m - (intOf s).toNat)
        case atStart => exact ⟨0, left0, er0, Nat.zero_le _, rfl, rfl, by simpa using HC.out, HW0.out, HO0.out, HG0.out⟩
        case round =>
          clear HO0 HG0 HW0 HC
          obtain ⟨i, left, er, hi, rfl, rfl, hcase, hwf, ho, hg⟩ := hrel
          obtain ⟨la, lc, rfl⟩ := ho.shape
          have HW := Lib.hid hwf
          have HO := Lib.hid ho
          have HG := Lib.hid hg
          clear hwf ho hg
          rcases hcase with ⟨rfl, hsub, hll⟩ | ⟨rfl, hR2, rfl⟩
          · have HS := Lib.hid hsub
            clear hsub
            by_cases hlt : i < m
            · have i1 : (i : Int) < m := by omega
              have i0 : (0 : Int) ≤ (i : Int) := by omega
              obtain ⟨bd, rfl⟩ := HB.out.some (by omega)
              have CI := Lib.hid (fun (w2 : World) (g : w.grownBy w2 none) => (HB.out.keep0 g).cells bd rfl i hlt)
              obtain ⟨b0, b1⟩ := HB.out.wfAt i hlt
              have DR := Lib.hid (show M.drop i = M.getD i (0, 0) :: M.drop (i + 1) by rw [List.drop_eq_getElem_cons (by rw [HL2.out]; exact hlt)]; simp [show i < M.length by rw [HL2.out]; exact hlt])
              obtain ⟨q, hq⟩ : ∃ q, q = M.getD i (0, 0) := ⟨_, rfl⟩
              rw [← hq] at CI b0 b1 DR
              have HQ := Lib.hid (show B64 q.1 ∧ B64 q.2 from ⟨b0, b1⟩)
              obtain ⟨qv, qm⟩ := q
              have B0 := Lib.hid b0
              have B1 := Lib.hid b1
              clear hq b0 b1
              obtain ⟨N, hN⟩ : ∃ N, N = left.length := ⟨_, rfl⟩
              have HN := Lib.hid hN.symm
              obtain ⟨wo, hwo⟩ : ∃ wo, wo = wr := ⟨_, rfl⟩
              subst hwo
              have HLS := Lib.hid (show SC wo la N lc left by rw [hN]; exact sc_own HO.out HW.out)
              rw [← hN] at hll ⊢
              clear hN
              go_wp2
              go_loopw [12, 13] (fun o s wx => ∃ (t : Nat) (U : List (Nat × Nat)), t ≤ N ∧ s = .int .i64 t ∧ U = rowS k (qv, qm) (left.take t) ∧ CLs wx wo.heap.size o U ∧ wo.grownBy wx none) (fun _ s _ => N - (intOf s).toNat)
              case atStart => exact ⟨0, [], Nat.zero_le _, rfl, by simp [rowS], CLs.nil _ _, gb_refl _ _⟩
              case round =>
                obtain ⟨t, U, ht, rfl, hU, ho, hgr⟩ := hrel
                obtain ⟨ua, uc, rfl⟩ := ho.shape
                have hul : U.length ≤ 65536 := by
                  rw [hU]
                  have := rowS_len k (qv, qm) (left.take t)
                  rw [List.length_take] at this
                  omega
                have HU := Lib.hid hU
                have HO2 := Lib.hid ho
                have HGR := Lib.hid hgr
                have HG2 := Lib.hid (gb_trans HG.out hgr)
                clear hU ho hgr
                by_cases hlt2 : t < N
                · have j1 : (t : Int) < N := by omega
                  have j0 : (0 : Int) ≤ (t : Int) := by omega
                  obtain ⟨ad, rfl⟩ := HLS.out.some (by omega)
                  have CT := Lib.hid (fun (w2 : World) (g : wo.grownBy w2 none) => (HLS.out.keep0 g).cells ad rfl t hlt2)
                  have CQ := Lib.hid (fun (w2 : World) (g : wo.grownBy w2 none) => CI.out w2 (gb_trans HG.out g))
                  obtain ⟨d0, d1⟩ := HLS.out.wfAt t hlt2
                  have SN := Lib.hid (rowS_snoc k (qv, qm) left t (by rw [HN.out]; exact hlt2))
                  obtain ⟨p, hp⟩ : ∃ p, p = left.getD t (0, 0) := ⟨_, rfl⟩
                  rw [← hp] at CT d0 d1 SN
                  obtain ⟨pv, pm⟩ := p
                  have SB := Lib.hid (fun w => rsub_any w pv pm qv qm (k : Int) d0 d1 B0.out B1.out)
                  have SW := Lib.hid (show ∀ x ∈ subL pv pm qv qm (k : Int), B64 x.1 ∧ B64 x.2 from fun x hx => by
                    have z := subL_chk pv pm qv qm k K1.out K2.out d0 d1 B0.out B1.out x hx
                    exact ⟨z.1, z.2.1⟩)
                  have sl := subL_len pv pm qv qm (k : Int)
                  have U2 := Lib.hid (show U ++ subL pv pm qv qm (k : Int) = rowS k (qv, qm) (left.take (t + 1)) by rw [SN.out, HU.out])
                  generalize subL pv pm qv qm (k : Int) = D at *
                  clear hp d0 d1 SN
                  go_upto_region 16 with fail
                  · skip
                    have KS := Lib.hid (fun (w' : World) (g : wo.grownBy w' none) => (⟨(CT.out w' g).1, (CT.out w' g).2, (CQ.out w' g).1, (CQ.out w' g).2, g⟩ : (fun w' : World => w'.cell? (ad.add (t * 2)) = some (.int .u64 (pv : Int)) ∧ w'.cell? ⟨(ad.add (t * 2)).block, (ad.add (t * 2)).off + 1, none⟩ = some (.int .u64 (pm : Int)) ∧ w'.cell? (bd.add (i * 2)) = some (.int .u64 (qv : Int)) ∧ w'.cell? ⟨(bd.add (i * 2)).block, (bd.add (i * 2)).off + 1, none⟩ = some (.int .u64 (qm : Int)) ∧ wo.grownBy w' none) w'))
                    refine wp_region_held_drew (S := (fun w' : World => w'.cell? (ad.add (t * 2)) = some (.int .u64 (pv : Int)) ∧ w'.cell? ⟨(ad.add (t * 2)).block, (ad.add (t * 2)).off + 1, none⟩ = some (.int .u64 (pm : Int)) ∧ w'.cell? (bd.add (i * 2)) = some (.int .u64 (qv : Int)) ∧ w'.cell? ⟨(bd.add (i * 2)).block, (bd.add (i * 2)).off + 1, none⟩ = some (.int .u64 (qm : Int)) ∧ wo.grownBy w' none)) (by kernel_rfl) (KS.out _ (gb_trans HGR.out (gb_drew wr none))) (fun hH0 => ?_)
                    refine wpAnyH_take (i := 0) (v := ?v16) rfl (by kernel_rfl) (by kernel_rfl) (by kernel_rfl) (fun _ _ _ h => h) (Or.inl ⟨by rfl, ?hy16⟩) (by assumption) ?rest16
                    case hy16 => (intro wz hSw; (try dsimp only at hSw); first | (go_simp; done) | (go_simp; with_reducible rfl))
                    try simp only [Act.put, List.getElem_toArray, List.getElem_cons_zero, List.setIfInBounds_toArray, List.set_cons_zero, List.set_cons_succ]
                    refine wpAnyH_take (i := 1) (v := ?v17) rfl (by kernel_rfl) (by kernel_rfl) (by kernel_rfl) (fun _ _ _ h => h) (Or.inl ⟨by rfl, ?hy17⟩) (by assumption) ?rest17
                    case hy17 => (intro wz hSw; (try dsimp only at hSw); first | (go_simp; done) | (go_simp; with_reducible rfl))
                    try simp only [Act.put, List.getElem_toArray, List.getElem_cons_succ, List.getElem_cons_zero, List.setIfInBounds_toArray, List.set_cons_zero, List.set_cons_succ]
                    refine wpAnyH_take (i := 2) (v := ?v18) rfl (by kernel_rfl) (by kernel_rfl) (by kernel_rfl) (fun _ _ _ h => h) (Or.inl ⟨by rfl, ?hy18⟩) (by assumption) ?rest18
                    case hy18 => (intro wz hSw; (try dsimp only at hSw); first | (go_simp; done) | (go_simp; with_reducible rfl))
                    try simp only [Act.put, List.getElem_toArray, List.getElem_cons_succ, List.getElem_cons_zero, List.setIfInBounds_toArray, List.set_cons_zero, List.set_cons_succ]
                    refine wpAnyH_take (i := 3) (v := ?v19) rfl (by kernel_rfl) (by kernel_rfl) (by kernel_rfl) (fun _ _ _ h => h) (Or.inl ⟨by rfl, ?hy19⟩) (by assumption) ?rest19
                    case hy19 => (intro wz hSw; (try dsimp only at hSw); first | (go_simp; done) | (go_simp; with_reducible rfl))
                    try simp only [Act.put, List.getElem_toArray, List.getElem_cons_succ, List.getElem_cons_zero, List.setIfInBounds_toArray, List.set_cons_zero, List.set_cons_succ]
                    refine wpAnyH_take (i := 4) (v := ?v20) rfl (by kernel_rfl) (by kernel_rfl) (by kernel_rfl) (fun _ _ _ h => h) (Or.inl ⟨by rfl, ?hy20⟩) (by assumption) ?rest20
                    case hy20 => (intro wz hSw; (try dsimp only at hSw); first | (go_simp; done) | (go_simp; with_reducible rfl))
                    try simp only [Act.put, List.getElem_toArray, List.getElem_cons_succ, List.getElem_cons_zero, List.setIfInBounds_toArray, List.set_cons_zero, List.set_cons_succ]
                    refine wpAnyH_take (i := 5) (v := ?v21) rfl (by kernel_rfl) (by kernel_rfl) (by kernel_rfl) (fun _ _ _ h => h) (Or.inl ⟨by rfl, ?hy21⟩) (by assumption) ?rest21
                    case hy21 => (intro wz hSw; (try dsimp only at hSw); first | (go_simp; done) | (go_simp; with_reducible rfl))
                    try simp only [Act.put, List.getElem_toArray, List.getElem_cons_succ, List.getElem_cons_zero, List.setIfInBounds_toArray, List.set_cons_zero, List.set_cons_succ]
                    refine wpAnyH_take (i := 6) (v := ?v22) rfl (by kernel_rfl) (by kernel_rfl) (by kernel_rfl) (fun _ _ _ h => h) (Or.inl ⟨by rfl, ?hy22⟩) (by assumption) ?rest22
                    case hy22 => (intro wz hSw; (try dsimp only at hSw); first | (go_simp; done) | (go_simp; with_reducible rfl))
                    try simp only [Act.put, List.getElem_toArray, List.getElem_cons_succ, List.getElem_cons_zero, List.setIfInBounds_toArray, List.set_cons_zero, List.set_cons_succ]
                    refine wpAnyH_take (i := 7) (v := ?v23) rfl (by kernel_rfl) (by kernel_rfl) (by kernel_rfl) (fun _ _ _ h => h) (Or.inl ⟨by rfl, ?hy23⟩) (by assumption) ?rest23
                    case hy23 => (intro wz hSw; (try dsimp only at hSw); first | (go_simp; done) | (go_simp; with_reducible rfl))
                    try simp only [Act.put, List.getElem_toArray, List.getElem_cons_succ, List.getElem_cons_zero, List.setIfInBounds_toArray, List.set_cons_zero, List.set_cons_succ]
                    refine wpAnyH_take (i := 8) (v := ?v24) rfl (by kernel_rfl) (by kernel_rfl) (by kernel_rfl) (fun _ _ _ h => h) (Or.inl ⟨by rfl, ?hy24⟩) (by assumption) ?rest24
                    case hy24 => (intro wz hSw; (try dsimp only at hSw); first | (go_simp; done) | (go_simp; with_reducible rfl))
                    try simp only [Act.put, List.getElem_toArray, List.getElem_cons_succ, List.getElem_cons_zero, List.setIfInBounds_toArray, List.set_cons_zero, List.set_cons_succ]
                    refine wpAnyH_take (i := 9) (v := ?v25) rfl (by kernel_rfl) (by kernel_rfl) (by kernel_rfl) (fun _ _ _ h => h) (Or.inl ⟨by rfl, ?hy25⟩) (by assumption) ?rest25
                    case hy25 => (intro wz hSw; (try dsimp only at hSw); first | (go_simp; done) | (go_simp; with_reducible rfl))
                    try simp only [Act.put, List.getElem_toArray, List.getElem_cons_succ, List.getElem_cons_zero, List.setIfInBounds_toArray, List.set_cons_zero, List.set_cons_succ]
                    refine wpAnyH_ready (rs := [10]) (by kernel_rfl) (by simp) ?_
                    refine AllReadyH.cons (o := _) rfl (fun K hK => ?_) AllReadyH.nil
                    go_simp
                    refine (SB.out _).mono ?_
                    rintro e w20 ⟨VS, rfl, os, gs⟩
                    obtain ⟨sa, sc, rfl⟩ := os.shape
                    have gS := gb_trans hH0.2.2.2.2 gs
                    try dsimp only
                    refine hK.out _ _ (KS.out _ gS) (fun hH1 => ?_)
                    clear hK K hH0
                    try simp only [Act.put, List.getElem_toArray, List.getElem_cons_succ, List.getElem_cons_zero, List.setIfInBounds_toArray, List.set_cons_zero, List.set_cons_succ]
                    refine wpAnyH_ready (rs := [11]) (by kernel_rfl) (by simp) ?_
                    refine AllReadyH.cons (o := _) rfl (fun K hK => ?_) AllReadyH.nil
                    refine step_pushAll rfl _ _ rfl wo.heap.size _ U rfl (HO2.out.keep0 (gb_trans (gb_drew wr none) gs)) sa _ sc D rfl (sc_own os SW.out) (by omega) gS.size ?_
                    intro V9 w9 o9 g9
                    have GR9 := gb_own gS (HO2.out.keep0 (gb_trans (gb_drew wr none) gs)) (Nat.le_refl _) g9
                    refine hK.out _ _ (KS.out _ GR9) (fun hH2 => ?_)
                    clear hK K hH1
                    try simp only [Act.put, List.getElem_toArray, List.getElem_cons_succ, List.getElem_cons_zero, List.setIfInBounds_toArray, List.set_cons_zero, List.set_cons_succ]
                    refine wpAnyH_take (i := 12) (v := ?v26) rfl (by kernel_rfl) (by kernel_rfl) (by kernel_rfl) (fun _ _ _ h => h) (Or.inl ⟨by rfl, ?hy26⟩) (by assumption) ?rest26
                    case hy26 => (intro wz hSw; (try dsimp only at hSw); first | (go_simp; done) | (go_simp; with_reducible rfl))
                    try simp only [Act.put, List.getElem_toArray, List.getElem_cons_succ, List.getElem_cons_zero, List.setIfInBounds_toArray, List.set_cons_zero, List.set_cons_succ]
                    refine wpAnyH_done (by kernel_rfl) ?_ _
                    clear hH2 KS
                    go_wp2
                    go_roundw
                    case rel => exact ⟨t + 1, U ++ D, by omega, by go_num, U2.out, o9, GR9⟩
                    case measure => simp [intOf]; omega
                · have hte : t = N := by omega
                  have UU := Lib.hid (show U = rowS k (qv, qm) left by rw [HU.out, List.take_of_length_le (by rw [HN.out]; omega)])
                  have wfU : ∀ x ∈ U, B64 x.1 ∧ B64 x.2 := by rw [UU.out]; exact rowS_wf k K1.out K2.out _ _ HQ.out HW.out
                  have ST := Lib.hid (step_any _ ua _ uc U (sc_own HO2.out wfU) (by omega))
                  have WF := Lib.hid (simpL_wf U wfU)
                  have NX := Lib.hid (show subG k (M.drop i) left = if 1024 < (simpL U).length then ([], 12) else subG k (M.drop (i + 1)) (simpL U) by rw [DR.out, UU.out]; rfl)
                  subst hte
                  clear wfU
                  unfold stepL stepE at ST
                  by_cases hbig : 1024 < (simpL U).length
                  · rw [if_pos hbig, if_pos hbig] at ST
                    have R2 := Lib.hid (show R = ([], 12) by rw [← HS.out, NX.out, if_pos hbig])
                    clear hbig
                    go_wp2_with fail
                    refine ST.out.mono ?_
                    rintro e w5 ⟨V5, rfl, o5, g5⟩
                    have O5 := Lib.hid (own_low o5 HG2.out.size)
                    have G5 := Lib.hid (gb_trans HG2.out g5)
                    clear o5 g5
                    go_wp2
                    go_roundw
                    case rel => exact ⟨i + 1, [], 12, by omega, by go_num, rfl, .inr ⟨rfl, R2.out, rfl⟩, by simp, O5.out, G5.out⟩
                    case measure => simp [intOf]; omega
                  · rw [if_neg hbig, if_neg hbig] at ST
                    have I2 := Lib.hid (show subG k (M.drop (i + 1)) (simpL U) = R by rw [← HS.out, NX.out, if_neg hbig])
                    have hl5 : (simpL U).length ≤ 1024 := by omega
                    generalize simpL U = U5 at *
                    clear hbig
                    go_wp2_with fail
                    refine ST.out.mono ?_
                    rintro e w5 ⟨V5, rfl, o5, g5⟩
                    have O5 := Lib.hid (own_low o5 HG2.out.size)
                    have G5 := Lib.hid (gb_trans HG2.out g5)
                    clear o5 g5
                    go_wp2
                    go_roundw
                    case rel => exact ⟨i + 1, U5, 0, by omega, by go_num, rfl, .inl ⟨rfl, I2.out, hl5⟩, WF.out, O5.out, G5.out⟩
                    case measure => simp [intOf]; omega
            · have hie : i = m := by omega
              have RR := Lib.hid (show R = (left, 0) by rw [← HS.out, List.drop_of_length_le (by rw [HL2.out]; omega)]; rfl)
              subst hie
              go_wp2
              go_ret2
              rw [RR.out]
              exact ⟨_, rfl, HO.out, HG.out⟩
          · have RR := Lib.hid hR2
            clear hR2
            by_cases hlt : i < m
            · have i1 : (i : Int) < m := by omega
              go_wp2
              go_ret2
              rw [RR.out]
              exact ⟨_, rfl, CLs.nil _ _, HG.out⟩
            · have i1 : ¬ (i : Int) < m := by omega
              go_wp2
              go_ret2
              rw [RR.out]
              exact ⟨_, rfl, CLs.nil _ _, HG.out⟩
end Go.Proofs.Yteemhabgliglmaa
