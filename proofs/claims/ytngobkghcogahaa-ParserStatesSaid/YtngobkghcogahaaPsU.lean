/- Parser: the reference: transition; no condition but sizes. -/
import Derived.Test.YtngobkghcogahaaGxH
import Derived.Test.YtngobkghcogahaaPsF
import Derived.Test.YtngobkghcogahaaEvO
import Derived.Deep.QuietTactic
import Derived.BigQuiet
import Derived.Deep.RegionWith
namespace Go.Proofs.Ytngobkghcogahaa
open Go.RowKit
set_option linter.unusedVariables false
theorem row_rng {l : List Int} (h : ∀ x ∈ l, 0 ≤ x ∧ x < 4294967296) (j : Nat) : 0 ≤ l.getD j 0 ∧ l.getD j 0 < 4294967296 := by
  by_cases hj : j < l.length
  · rw [List.getD_eq_getElem?_getD, List.getElem?_eq_getElem hj]; exact h _ (List.getElem_mem _)
  · rw [List.getD_eq_getElem?_getD, List.getElem?_eq_none (by omega)]; decide
theorem ER.rows {w : World} {X : EX} {L : EL} (h : ER w X L) (j : Nat) : ∀ x ∈ L.F.getD j [], 0 ≤ x ∧ x < 4294967296 := by
  by_cases hj : j < X.fn
  · obtain ⟨ad, ha⟩ := h.f.some (by omega)
    obtain ⟨a, n, c, _, su⟩ := h.f.cells ad ha j hj
    exact su.rng
  · rw [List.getD_eq_getElem?_getD, List.getElem?_eq_none (by rw [h.f.len]; omega)]
    intro x hx; cases hx
theorem getE_rng {w : World} {X : EX} {L : EL} (he : ER w X L) (h f : Int) : 0 ≤ getE L.V L.F L.T h f ∧ getE L.V L.F L.T h f < 4294967296 := by
  have q : ∀ x ∈ vls L.F L.T h, 0 ≤ x ∧ x < 4294967296 := by
    unfold vls
    split
    · exact he.t.rng
    · split
      · exact he.rows _
      · intro x hx; cases hx
  unfold getE
  split
  · exact row_rng q _
  · omega
/-- The cases of a valid state. -/
theorem case_ok {H : List (ByteArray × List Fld)} {M : List Fld} {S : List Pst} {i : Nat} (h : stOk H M S i) (hr : ∀ k, k < (S.getD i psz).cs.length → (0 ≤ ((S.getD i psz).cs.getD k csz).v ∧ ((S.getD i psz).cs.getD k csz).v < 4294967296) ∧ (0 ≤ ((S.getD i psz).cs.getD k csz).m ∧ ((S.getD i psz).cs.getD k csz).m < 4294967296)) (k : Nat) (hk : k < (S.getD i psz).cs.length) :
    bits .and .u32 ((S.getD i psz).cs.getD k csz).v ((S.getD i psz).cs.getD k csz).m = ((S.getD i psz).cs.getD k csz).v := by
  have q := h.2.1 k hk
  obtain ⟨hv, hm⟩ := hr k hk
  unfold caseE at q
  split at q
  · cases q
  split at q
  · cases q
  · rename_i y
    refine (not_iff_and hv.1 hv.2 hm.1 hm.2).1 ?_
    cases z : (bits .andNot .u32 ((S.getD i psz).cs.getD k csz).v ((S.getD i psz).cs.getD k csz).m == 0)
    · exact absurd z y
    · exact eq_of_beq z
set_option maxRecDepth 100000 in
set_option maxHeartbeats 8000000 in
theorem rtrans_any (w : World) (s0 : ByteArray) (xa ca : Option Addr) (xn xc cn cc : Nat) (sl : Bool) (h9 f9 df : Int) (X : EX) (L : EL) (he : ER w X L) (cs : List Cse) (hcs : SCa w ca cn cc cs) (hcn : cn ≤ 1000) (hok : ∀ k, k < cs.length → bits .and .u32 (cs.getD k csz).v (cs.getD k csz).m = (cs.getD k csz).v) (hsl : sl = false → cs.length = 0) (v r : Int) (hv : v = getE L.V L.F L.T h9 f9) (hr : r = pNext cs df v) :
    Calls Try.prog 82 #[.agg #[.string s0, .slice xa xn xc, .bool sl, .int .i64 h9, .int .i64 f9, .slice ca cn cc, .int .i64 df], .agg #[.slice X.va X.vn X.vc, .slice X.fa X.fn X.fc, .slice X.ta X.tn X.tc, .slice X.pa X.pn X.pc]] w (RetV (.int .i64 r) w) := by
  have KG := Lib.hid (fun (W : World) (q : w.grownBy W none) => rget_any W X.va X.fa X.ta X.pa X.vn X.vc X.fn X.fc X.tn X.tc X.pn X.pc L (he.v.keep0 q) (he.f.keep0 q) (he.t.keep0 q) h9 f9)
  have VR := Lib.hid (getE_rng he h9 f9)
  rw [← hv] at KG VR
  unfold RetV at KG
  have HC := Lib.hid hcs
  have LC := Lib.hid hcs.len
  have CN := Lib.hid hcn
  have OK := Lib.hid hok
  have SL := Lib.hid hsl
  have HIT := Lib.hid (fun (k : Nat) (hk : k < cn) => pNext_hit (cs := cs) (df := df) (v := v) (k := k) (by rw [hcs.len]; exact hk))
  have NON := Lib.hid (fun (q : ∀ i, i < cn → hitB v (cs.getD i csz) = false) => pNext_none (cs := cs) (df := df) (v := v) (by rw [hcs.len]; exact q))
  rw [← hr] at HIT NON
  clear he hcs hcn hok hsl hv hr
  have G1 := Lib.hid (gb_trans (gb_alloc w (.cells #[.string s0, .slice xa xn xc, .bool sl, .int .i64 h9, .int .i64 f9, .slice ca cn cc, .int .i64 df] 55) none) (gb_alloc _ (.cells #[.slice X.va X.vn X.vc, .slice X.fa X.fn X.fc, .slice X.ta X.tn X.tc, .slice X.pa X.pn X.pc] 42) none))
  have B1 := (IsB.new w 55 #[.string s0, .slice xa xn xc, .bool sl, .int .i64 h9, .int .i64 f9, .slice ca cn cc, .int .i64 df]).alloc (.cells #[.slice X.va X.vn X.vc, .slice X.fa X.fn X.fc, .slice X.ta X.tn X.tc, .slice X.pa X.pn X.pc] 42)
  have B2 := IsB.new (w.alloc (.cells #[.string s0, .slice xa xn xc, .bool sl, .int .i64 h9, .int .i64 f9, .slice ca cn cc, .int .i64 df] 55)) 42 #[.slice X.va X.vn X.vc, .slice X.fa X.fn X.fc, .slice X.ta X.tn X.tc, .slice X.pa X.pn X.pc]
  simp only [sz_al] at B2
  replace B1 := Lib.hid B1
  replace B2 := Lib.hid B2
  go_enter Try.func82, Try.ntmps82
  go_upto_region 1 with fail
  generalize (w.alloc (.cells #[.string s0, .slice xa xn xc, .bool sl, .int .i64 h9, .int .i64 f9, .slice ca cn cc, .int .i64 df] 55)).alloc (.cells #[.slice X.va X.vn X.vc, .slice X.fa X.fn X.fc, .slice X.ta X.tn X.tc, .slice X.pa X.pn X.pc] 42) = w1 at *
  obtain ⟨bx, hbx⟩ : ∃ b, b = w.heap.size := ⟨_, rfl⟩
  have Lbx := Lib.hid (show w.heap.size ≤ bx by rw [hbx]; exact Nat.le_refl _)
  rw [← hbx] at B1 B2 ⊢
  clear hbx
  go_wp2
  go_loopw [5] (fun i9 wr => ∃ j : Nat, j ≤ cn ∧ i9 = .int .i64 j ∧ (∀ i, i < j → hitB v (cs.getD i csz) = false) ∧ w1.grownBy wr none) (fun i9 _ => cn - (intOf i9).toNat)
  case atStart => exact ⟨0, Nat.zero_le _, rfl, fun i hi => absurd hi (Nat.not_lt_zero _), gb_refl _ _⟩
  case round =>
    obtain ⟨j, hj, rfl, ht, hg⟩ := hrel
    have HT := Lib.hid ht
    have HG := Lib.hid hg
    clear ht hg
    have x0 := (B1.out.keep0 HG.out).cell 0
    have x1 := (B1.out.keep0 HG.out).cell 1
    have x2 := (B1.out.keep0 HG.out).cell 2
    have x3 := (B1.out.keep0 HG.out).cell 3
    have x4 := (B1.out.keep0 HG.out).cell 4
    have x5 := (B1.out.keep0 HG.out).cell 5
    have x6 := (B1.out.keep0 HG.out).cell 6
    dsimp at x0 x1 x2 x3 x4 x5 x6
    have y0 := (B2.out.keep0 HG.out).cell 0
    have y1 := (B2.out.keep0 HG.out).cell 1
    have y2 := (B2.out.keep0 HG.out).cell 2
    have y3 := (B2.out.keep0 HG.out).cell 3
    dsimp at y0 y1 y2 y3
    by_cases hlt : j < cn
    · have hs : sl = true := by
        cases sl
        · have := SL.out rfl; have := LC.out; omega
        · rfl
      subst hs
      obtain ⟨cd, hcd⟩ := HC.out.some (by omega)
      subst hcd
      obtain ⟨⟨z0, v0, v1⟩, ⟨z1, m0, m1⟩, z2⟩ := (HC.out.keep0SCa (gb_trans G1.out HG.out)).cells cd rfl j hlt
      have j1 : (j : Int) < cn := by omega
      have j0 : (0 : Int) ≤ (j : Int) := by omega
      have hw : IntKind.i64.wrap ((j : Int) + 1) = ((j + 1 : Nat) : Int) := by have := CN.out; rw [IntKind.wrap_i64]; omega
      have HJ := Lib.hid (HIT.out j hlt HT.out)
      have NX := Lib.hid (show hitB v (cs.getD j csz) = false → ∀ i, i < j + 1 → hitB v (cs.getD i csz) = false from fun q i hi => by
        rcases (show i < j ∨ i = j by omega) with r | rfl
        · exact HT.out i r
        · exact q)
      have HE := Lib.hid (hit_eq VR.out ⟨v0, v1⟩ ⟨m0, m1⟩ (OK.out j (by rw [LC.out]; exact hlt)))
      generalize cs.getD j csz = c9 at *
      obtain ⟨xv, xm, xn9⟩ := c9
      dsimp only at z0 z1 z2 HE HJ
      clear v0 v1 m0 m1
      rw [HE.out] at HJ NX
      have K2 := Lib.hid (fun (W : World) (q : wr.grownBy W none) => KG.out W (gb_trans (gb_trans G1.out HG.out) q))
      clear HE
      cases hq : (bits .and .u32 v xm == xv)
      · have Z := Lib.hid (NX.out hq)
        go_upto_region 4 with fail
        have KA := Lib.hid (fun (w' : World) (q0 : wr.grownBy w' none) => (⟨q0.cell y0 (by simp), q0.cell y1 (by simp), q0.cell y2 (by simp), q0.cell y3 (by simp), q0.cell x3 (by simp), q0.cell x4 (by simp), q0.cell x5 (by simp), q0.cell z0 (by simp), q0.cell z1 (by simp), q0⟩ : (fun w' : World => w'.cell? ⟨bx + 1, 0, none⟩ = some (.slice X.va X.vn X.vc) ∧ w'.cell? ⟨bx + 1, 1, none⟩ = some (.slice X.fa X.fn X.fc) ∧ w'.cell? ⟨bx + 1, 2, none⟩ = some (.slice X.ta X.tn X.tc) ∧ w'.cell? ⟨bx + 1, 3, none⟩ = some (.slice X.pa X.pn X.pc) ∧ w'.cell? ⟨bx, 3, none⟩ = some (.int .i64 h9) ∧ w'.cell? ⟨bx, 4, none⟩ = some (.int .i64 f9) ∧ w'.cell? ⟨bx, 5, none⟩ = some (.slice (some cd) cn cc) ∧ w'.cell? (cd.add (j * 3)) = some (.int .u32 xv) ∧ w'.cell? ⟨(cd.add (j * 3)).block, (cd.add (j * 3)).off + 1, none⟩ = some (.int .u32 xm) ∧ wr.grownBy w' none) w'))
        have A0 := Lib.hid (gb_drew wr none)
        refine wp_region_held_drew (S := (fun w' : World => w'.cell? ⟨bx + 1, 0, none⟩ = some (.slice X.va X.vn X.vc) ∧ w'.cell? ⟨bx + 1, 1, none⟩ = some (.slice X.fa X.fn X.fc) ∧ w'.cell? ⟨bx + 1, 2, none⟩ = some (.slice X.ta X.tn X.tc) ∧ w'.cell? ⟨bx + 1, 3, none⟩ = some (.slice X.pa X.pn X.pc) ∧ w'.cell? ⟨bx, 3, none⟩ = some (.int .i64 h9) ∧ w'.cell? ⟨bx, 4, none⟩ = some (.int .i64 f9) ∧ w'.cell? ⟨bx, 5, none⟩ = some (.slice (some cd) cn cc) ∧ w'.cell? (cd.add (j * 3)) = some (.int .u32 xv) ∧ w'.cell? ⟨(cd.add (j * 3)).block, (cd.add (j * 3)).off + 1, none⟩ = some (.int .u32 xm) ∧ wr.grownBy w' none)) (by kernel_rfl) (KA.out _ A0.out) (fun hH0 => ?_)
        refine wpAnyH_take (i := 0) (v := ?v1) rfl (by kernel_rfl) (by kernel_rfl) (by kernel_rfl) (fun _ _ _ h => h) (Or.inl ⟨by rfl, ?hy1⟩) (by assumption) ?rest1
        case hy1 => (intro wz hSw; (try dsimp only at hSw); first | (go_simp; done) | (go_simp; with_reducible rfl))
        try simp only [Act.put, List.getElem_toArray, List.getElem_cons_zero, List.setIfInBounds_toArray, List.set_cons_zero, List.set_cons_succ]
        refine wpAnyH_take (i := 1) (v := ?v2) rfl (by kernel_rfl) (by kernel_rfl) (by kernel_rfl) (fun _ _ _ h => h) (Or.inl ⟨by rfl, ?hy2⟩) (by assumption) ?rest2
        case hy2 => (intro wz hSw; (try dsimp only at hSw); first | (go_simp; done) | (go_simp; with_reducible rfl))
        try simp only [Act.put, List.getElem_toArray, List.getElem_cons_succ, List.getElem_cons_zero, List.setIfInBounds_toArray, List.set_cons_zero, List.set_cons_succ]
        refine wpAnyH_take (i := 2) (v := ?v3) rfl (by kernel_rfl) (by kernel_rfl) (by kernel_rfl) (fun _ _ _ h => h) (Or.inl ⟨by rfl, ?hy3⟩) (by assumption) ?rest3
        case hy3 => (intro wz hSw; (try dsimp only at hSw); first | (go_simp; done) | (go_simp; with_reducible rfl))
        try simp only [Act.put, List.getElem_toArray, List.getElem_cons_succ, List.getElem_cons_zero, List.setIfInBounds_toArray, List.set_cons_zero, List.set_cons_succ]
        refine wpAnyH_take (i := 4) (v := ?v4) rfl (by kernel_rfl) (by kernel_rfl) (by kernel_rfl) (fun _ _ _ h => h) (Or.inl ⟨by rfl, ?hy4⟩) (by assumption) ?rest4
        case hy4 => (intro wz hSw; (try dsimp only at hSw); first | (go_simp; done) | (go_simp; with_reducible rfl))
        try simp only [Act.put, List.getElem_toArray, List.getElem_cons_succ, List.getElem_cons_zero, List.setIfInBounds_toArray, List.set_cons_zero, List.set_cons_succ]
        refine wpAnyH_take (i := 5) (v := ?v5) rfl (by kernel_rfl) (by kernel_rfl) (by kernel_rfl) (fun _ _ _ h => h) (Or.inl ⟨by rfl, ?hy5⟩) (by assumption) ?rest5
        case hy5 => (intro wz hSw; (try dsimp only at hSw); first | (go_simp; done) | (go_simp; with_reducible rfl))
        try simp only [Act.put, List.getElem_toArray, List.getElem_cons_succ, List.getElem_cons_zero, List.setIfInBounds_toArray, List.set_cons_zero, List.set_cons_succ]
        refine wpAnyH_take (i := 6) (v := ?v6) rfl (by kernel_rfl) (by kernel_rfl) (by kernel_rfl) (fun _ _ _ h => h) (Or.inl ⟨by rfl, ?hy6⟩) (by assumption) ?rest6
        case hy6 => (intro wz hSw; (try dsimp only at hSw); first | (go_simp; done) | (go_simp; with_reducible rfl))
        try simp only [Act.put, List.getElem_toArray, List.getElem_cons_succ, List.getElem_cons_zero, List.setIfInBounds_toArray, List.set_cons_zero, List.set_cons_succ]
        refine wpAnyH_take (i := 7) (v := ?v7) rfl (by kernel_rfl) (by kernel_rfl) (by kernel_rfl) (fun _ _ _ h => h) (Or.inl ⟨by rfl, ?hy7⟩) (by assumption) ?rest7
        case hy7 => (intro wz hSw; (try dsimp only at hSw); first | (go_simp; done) | (go_simp; with_reducible rfl))
        try simp only [Act.put, List.getElem_toArray, List.getElem_cons_succ, List.getElem_cons_zero, List.setIfInBounds_toArray, List.set_cons_zero, List.set_cons_succ]
        refine wpAnyH_take (i := 8) (v := ?v8) rfl (by kernel_rfl) (by kernel_rfl) (by kernel_rfl) (fun _ _ _ h => h) (Or.inl ⟨by rfl, ?hy8⟩) (by assumption) ?rest8
        case hy8 => (intro wz hSw; (try dsimp only at hSw); first | (go_simp; done) | (go_simp; with_reducible rfl))
        try simp only [Act.put, List.getElem_toArray, List.getElem_cons_succ, List.getElem_cons_zero, List.setIfInBounds_toArray, List.set_cons_zero, List.set_cons_succ]
        refine wpAnyH_take (i := 9) (v := ?v9) rfl (by kernel_rfl) (by kernel_rfl) (by kernel_rfl) (fun _ _ _ h => h) (Or.inl ⟨by rfl, ?hy9⟩) (by assumption) ?rest9
        case hy9 => (intro wz hSw; (try dsimp only at hSw); first | (go_simp; done) | (go_simp; with_reducible rfl))
        try simp only [Act.put, List.getElem_toArray, List.getElem_cons_succ, List.getElem_cons_zero, List.setIfInBounds_toArray, List.set_cons_zero, List.set_cons_succ]
        refine wpAnyH_take (i := 11) (v := ?v10) rfl (by kernel_rfl) (by kernel_rfl) (by kernel_rfl) (fun _ _ _ h => h) (Or.inl ⟨by rfl, ?hy10⟩) (by assumption) ?rest10
        case hy10 => (intro wz hSw; (try dsimp only at hSw); first | (go_simp; done) | (go_simp; with_reducible rfl))
        try simp only [Act.put, List.getElem_toArray, List.getElem_cons_succ, List.getElem_cons_zero, List.setIfInBounds_toArray, List.set_cons_zero, List.set_cons_succ]
        refine wpAnyH_take (i := 12) (v := ?v11) rfl (by kernel_rfl) (by kernel_rfl) (by kernel_rfl) (fun _ _ _ h => h) (Or.inl ⟨by rfl, ?hy11⟩) (by assumption) ?rest11
        case hy11 => (intro wz hSw; (try dsimp only at hSw); first | (go_simp; done) | (go_simp; with_reducible rfl))
        try simp only [Act.put, List.getElem_toArray, List.getElem_cons_succ, List.getElem_cons_zero, List.setIfInBounds_toArray, List.set_cons_zero, List.set_cons_succ]
        refine wpAnyH_take (i := 13) (v := ?v12) rfl (by kernel_rfl) (by kernel_rfl) (by kernel_rfl) (fun _ _ _ h => h) (Or.inl ⟨by rfl, ?hy12⟩) (by assumption) ?rest12
        case hy12 => (intro wz hSw; (try dsimp only at hSw); first | (go_simp; done) | (go_simp; with_reducible rfl))
        try simp only [Act.put, List.getElem_toArray, List.getElem_cons_succ, List.getElem_cons_zero, List.setIfInBounds_toArray, List.set_cons_zero, List.set_cons_succ]
        refine wpAnyH_take (i := 14) (v := ?v13) rfl (by kernel_rfl) (by kernel_rfl) (by kernel_rfl) (fun _ _ _ h => h) (Or.inl ⟨by rfl, ?hy13⟩) (by assumption) ?rest13
        case hy13 => (intro wz hSw; (try dsimp only at hSw); first | (go_simp; done) | (go_simp; with_reducible rfl))
        try simp only [Act.put, List.getElem_toArray, List.getElem_cons_succ, List.getElem_cons_zero, List.setIfInBounds_toArray, List.set_cons_zero, List.set_cons_succ]
        refine wpAnyH_take (i := 15) (v := ?v14) rfl (by kernel_rfl) (by kernel_rfl) (by kernel_rfl) (fun _ _ _ h => h) (Or.inl ⟨by rfl, ?hy14⟩) (by assumption) ?rest14
        case hy14 => (intro wz hSw; (try dsimp only at hSw); first | (go_simp; done) | (go_simp; with_reducible rfl))
        try simp only [Act.put, List.getElem_toArray, List.getElem_cons_succ, List.getElem_cons_zero, List.setIfInBounds_toArray, List.set_cons_zero, List.set_cons_succ]
        refine wpAnyH_take (i := 16) (v := ?v15) rfl (by kernel_rfl) (by kernel_rfl) (by kernel_rfl) (fun _ _ _ h => h) (Or.inl ⟨by rfl, ?hy15⟩) (by assumption) ?rest15
        case hy15 => (intro wz hSw; (try dsimp only at hSw); first | (go_simp; done) | (go_simp; with_reducible rfl))
        try simp only [Act.put, List.getElem_toArray, List.getElem_cons_succ, List.getElem_cons_zero, List.setIfInBounds_toArray, List.set_cons_zero, List.set_cons_succ]
        refine wpAnyH_ready (rs := [3]) (by kernel_rfl) (by simp) ?_
        refine AllReadyH.cons (o := _) rfl (fun K hK => ?_) AllReadyH.nil
        go_simp
        (with_reducible refine (K2.out _ A0.out).mono ?_)
        rintro e aw1 ⟨rfl, g⟩
        have A1 := Lib.hid (gb_trans A0.out g)
        clear g
        try dsimp only
        refine hK.out _ _ (KA.out _ A1.out) (fun hH1 => ?_)
        clear hK K hH0
        try simp only [Act.put, List.getElem_toArray, List.getElem_cons_succ, List.getElem_cons_zero, List.setIfInBounds_toArray, List.set_cons_zero, List.set_cons_succ]
        refine wpAnyH_take (i := 10) (v := ?v16) rfl (by kernel_rfl) (by kernel_rfl) (by kernel_rfl) (fun _ _ _ h => h) (Or.inl ⟨by rfl, ?hy16⟩) (by assumption) ?rest16
        case hy16 => (intro wz hSw; (try dsimp only at hSw); first | (go_simp; done) | (go_simp; with_reducible rfl))
        try simp only [Act.put, List.getElem_toArray, List.getElem_cons_succ, List.getElem_cons_zero, List.setIfInBounds_toArray, List.set_cons_zero, List.set_cons_succ]
        refine wpAnyH_take (i := 17) (v := ?v17) rfl (by kernel_rfl) (by kernel_rfl) (by kernel_rfl) (fun _ _ _ h => h) (Or.inl ⟨by rfl, ?hy17⟩) (by assumption) ?rest17
        case hy17 => (intro wz hSw; (try dsimp only at hSw); first | (go_simp; done) | (go_simp; with_reducible rfl))
        try simp only [Act.put, List.getElem_toArray, List.getElem_cons_succ, List.getElem_cons_zero, List.setIfInBounds_toArray, List.set_cons_zero, List.set_cons_succ]
        refine wpAnyH_done (by kernel_rfl) ?_ _
        clear hH1
        go_wp2
        go_roundw
        case rel => exact ⟨j + 1, by omega, by go_num, Z.out, gb_trans HG.out A1.out⟩
        case measure => simp [intOf]; omega
      · have Z := Lib.hid (show r = xn9 from HJ.out hq)
        go_upto_region 4 with fail
        have KC := Lib.hid (fun (w' : World) (q0 : wr.grownBy w' none) => (⟨q0.cell y0 (by simp), q0.cell y1 (by simp), q0.cell y2 (by simp), q0.cell y3 (by simp), q0.cell x3 (by simp), q0.cell x4 (by simp), q0.cell x5 (by simp), q0.cell z0 (by simp), q0.cell z1 (by simp), q0⟩ : (fun w' : World => w'.cell? ⟨bx + 1, 0, none⟩ = some (.slice X.va X.vn X.vc) ∧ w'.cell? ⟨bx + 1, 1, none⟩ = some (.slice X.fa X.fn X.fc) ∧ w'.cell? ⟨bx + 1, 2, none⟩ = some (.slice X.ta X.tn X.tc) ∧ w'.cell? ⟨bx + 1, 3, none⟩ = some (.slice X.pa X.pn X.pc) ∧ w'.cell? ⟨bx, 3, none⟩ = some (.int .i64 h9) ∧ w'.cell? ⟨bx, 4, none⟩ = some (.int .i64 f9) ∧ w'.cell? ⟨bx, 5, none⟩ = some (.slice (some cd) cn cc) ∧ w'.cell? (cd.add (j * 3)) = some (.int .u32 xv) ∧ w'.cell? ⟨(cd.add (j * 3)).block, (cd.add (j * 3)).off + 1, none⟩ = some (.int .u32 xm) ∧ wr.grownBy w' none) w'))
        have C0 := Lib.hid (gb_drew wr none)
        refine wp_region_held_drew (S := (fun w' : World => w'.cell? ⟨bx + 1, 0, none⟩ = some (.slice X.va X.vn X.vc) ∧ w'.cell? ⟨bx + 1, 1, none⟩ = some (.slice X.fa X.fn X.fc) ∧ w'.cell? ⟨bx + 1, 2, none⟩ = some (.slice X.ta X.tn X.tc) ∧ w'.cell? ⟨bx + 1, 3, none⟩ = some (.slice X.pa X.pn X.pc) ∧ w'.cell? ⟨bx, 3, none⟩ = some (.int .i64 h9) ∧ w'.cell? ⟨bx, 4, none⟩ = some (.int .i64 f9) ∧ w'.cell? ⟨bx, 5, none⟩ = some (.slice (some cd) cn cc) ∧ w'.cell? (cd.add (j * 3)) = some (.int .u32 xv) ∧ w'.cell? ⟨(cd.add (j * 3)).block, (cd.add (j * 3)).off + 1, none⟩ = some (.int .u32 xm) ∧ wr.grownBy w' none)) (by kernel_rfl) (KC.out _ C0.out) (fun hH0 => ?_)
        refine wpAnyH_take (i := 0) (v := ?v18) rfl (by kernel_rfl) (by kernel_rfl) (by kernel_rfl) (fun _ _ _ h => h) (Or.inl ⟨by rfl, ?hy18⟩) (by assumption) ?rest18
        case hy18 => (intro wz hSw; (try dsimp only at hSw); first | (go_simp; done) | (go_simp; with_reducible rfl))
        try simp only [Act.put, List.getElem_toArray, List.getElem_cons_zero, List.setIfInBounds_toArray, List.set_cons_zero, List.set_cons_succ]
        refine wpAnyH_take (i := 1) (v := ?v19) rfl (by kernel_rfl) (by kernel_rfl) (by kernel_rfl) (fun _ _ _ h => h) (Or.inl ⟨by rfl, ?hy19⟩) (by assumption) ?rest19
        case hy19 => (intro wz hSw; (try dsimp only at hSw); first | (go_simp; done) | (go_simp; with_reducible rfl))
        try simp only [Act.put, List.getElem_toArray, List.getElem_cons_succ, List.getElem_cons_zero, List.setIfInBounds_toArray, List.set_cons_zero, List.set_cons_succ]
        refine wpAnyH_take (i := 2) (v := ?v20) rfl (by kernel_rfl) (by kernel_rfl) (by kernel_rfl) (fun _ _ _ h => h) (Or.inl ⟨by rfl, ?hy20⟩) (by assumption) ?rest20
        case hy20 => (intro wz hSw; (try dsimp only at hSw); first | (go_simp; done) | (go_simp; with_reducible rfl))
        try simp only [Act.put, List.getElem_toArray, List.getElem_cons_succ, List.getElem_cons_zero, List.setIfInBounds_toArray, List.set_cons_zero, List.set_cons_succ]
        refine wpAnyH_take (i := 4) (v := ?v21) rfl (by kernel_rfl) (by kernel_rfl) (by kernel_rfl) (fun _ _ _ h => h) (Or.inl ⟨by rfl, ?hy21⟩) (by assumption) ?rest21
        case hy21 => (intro wz hSw; (try dsimp only at hSw); first | (go_simp; done) | (go_simp; with_reducible rfl))
        try simp only [Act.put, List.getElem_toArray, List.getElem_cons_succ, List.getElem_cons_zero, List.setIfInBounds_toArray, List.set_cons_zero, List.set_cons_succ]
        refine wpAnyH_take (i := 5) (v := ?v22) rfl (by kernel_rfl) (by kernel_rfl) (by kernel_rfl) (fun _ _ _ h => h) (Or.inl ⟨by rfl, ?hy22⟩) (by assumption) ?rest22
        case hy22 => (intro wz hSw; (try dsimp only at hSw); first | (go_simp; done) | (go_simp; with_reducible rfl))
        try simp only [Act.put, List.getElem_toArray, List.getElem_cons_succ, List.getElem_cons_zero, List.setIfInBounds_toArray, List.set_cons_zero, List.set_cons_succ]
        refine wpAnyH_take (i := 6) (v := ?v23) rfl (by kernel_rfl) (by kernel_rfl) (by kernel_rfl) (fun _ _ _ h => h) (Or.inl ⟨by rfl, ?hy23⟩) (by assumption) ?rest23
        case hy23 => (intro wz hSw; (try dsimp only at hSw); first | (go_simp; done) | (go_simp; with_reducible rfl))
        try simp only [Act.put, List.getElem_toArray, List.getElem_cons_succ, List.getElem_cons_zero, List.setIfInBounds_toArray, List.set_cons_zero, List.set_cons_succ]
        refine wpAnyH_take (i := 7) (v := ?v24) rfl (by kernel_rfl) (by kernel_rfl) (by kernel_rfl) (fun _ _ _ h => h) (Or.inl ⟨by rfl, ?hy24⟩) (by assumption) ?rest24
        case hy24 => (intro wz hSw; (try dsimp only at hSw); first | (go_simp; done) | (go_simp; with_reducible rfl))
        try simp only [Act.put, List.getElem_toArray, List.getElem_cons_succ, List.getElem_cons_zero, List.setIfInBounds_toArray, List.set_cons_zero, List.set_cons_succ]
        refine wpAnyH_take (i := 8) (v := ?v25) rfl (by kernel_rfl) (by kernel_rfl) (by kernel_rfl) (fun _ _ _ h => h) (Or.inl ⟨by rfl, ?hy25⟩) (by assumption) ?rest25
        case hy25 => (intro wz hSw; (try dsimp only at hSw); first | (go_simp; done) | (go_simp; with_reducible rfl))
        try simp only [Act.put, List.getElem_toArray, List.getElem_cons_succ, List.getElem_cons_zero, List.setIfInBounds_toArray, List.set_cons_zero, List.set_cons_succ]
        refine wpAnyH_take (i := 9) (v := ?v26) rfl (by kernel_rfl) (by kernel_rfl) (by kernel_rfl) (fun _ _ _ h => h) (Or.inl ⟨by rfl, ?hy26⟩) (by assumption) ?rest26
        case hy26 => (intro wz hSw; (try dsimp only at hSw); first | (go_simp; done) | (go_simp; with_reducible rfl))
        try simp only [Act.put, List.getElem_toArray, List.getElem_cons_succ, List.getElem_cons_zero, List.setIfInBounds_toArray, List.set_cons_zero, List.set_cons_succ]
        refine wpAnyH_take (i := 11) (v := ?v27) rfl (by kernel_rfl) (by kernel_rfl) (by kernel_rfl) (fun _ _ _ h => h) (Or.inl ⟨by rfl, ?hy27⟩) (by assumption) ?rest27
        case hy27 => (intro wz hSw; (try dsimp only at hSw); first | (go_simp; done) | (go_simp; with_reducible rfl))
        try simp only [Act.put, List.getElem_toArray, List.getElem_cons_succ, List.getElem_cons_zero, List.setIfInBounds_toArray, List.set_cons_zero, List.set_cons_succ]
        refine wpAnyH_take (i := 12) (v := ?v28) rfl (by kernel_rfl) (by kernel_rfl) (by kernel_rfl) (fun _ _ _ h => h) (Or.inl ⟨by rfl, ?hy28⟩) (by assumption) ?rest28
        case hy28 => (intro wz hSw; (try dsimp only at hSw); first | (go_simp; done) | (go_simp; with_reducible rfl))
        try simp only [Act.put, List.getElem_toArray, List.getElem_cons_succ, List.getElem_cons_zero, List.setIfInBounds_toArray, List.set_cons_zero, List.set_cons_succ]
        refine wpAnyH_take (i := 13) (v := ?v29) rfl (by kernel_rfl) (by kernel_rfl) (by kernel_rfl) (fun _ _ _ h => h) (Or.inl ⟨by rfl, ?hy29⟩) (by assumption) ?rest29
        case hy29 => (intro wz hSw; (try dsimp only at hSw); first | (go_simp; done) | (go_simp; with_reducible rfl))
        try simp only [Act.put, List.getElem_toArray, List.getElem_cons_succ, List.getElem_cons_zero, List.setIfInBounds_toArray, List.set_cons_zero, List.set_cons_succ]
        refine wpAnyH_take (i := 14) (v := ?v30) rfl (by kernel_rfl) (by kernel_rfl) (by kernel_rfl) (fun _ _ _ h => h) (Or.inl ⟨by rfl, ?hy30⟩) (by assumption) ?rest30
        case hy30 => (intro wz hSw; (try dsimp only at hSw); first | (go_simp; done) | (go_simp; with_reducible rfl))
        try simp only [Act.put, List.getElem_toArray, List.getElem_cons_succ, List.getElem_cons_zero, List.setIfInBounds_toArray, List.set_cons_zero, List.set_cons_succ]
        refine wpAnyH_take (i := 15) (v := ?v31) rfl (by kernel_rfl) (by kernel_rfl) (by kernel_rfl) (fun _ _ _ h => h) (Or.inl ⟨by rfl, ?hy31⟩) (by assumption) ?rest31
        case hy31 => (intro wz hSw; (try dsimp only at hSw); first | (go_simp; done) | (go_simp; with_reducible rfl))
        try simp only [Act.put, List.getElem_toArray, List.getElem_cons_succ, List.getElem_cons_zero, List.setIfInBounds_toArray, List.set_cons_zero, List.set_cons_succ]
        refine wpAnyH_take (i := 16) (v := ?v32) rfl (by kernel_rfl) (by kernel_rfl) (by kernel_rfl) (fun _ _ _ h => h) (Or.inl ⟨by rfl, ?hy32⟩) (by assumption) ?rest32
        case hy32 => (intro wz hSw; (try dsimp only at hSw); first | (go_simp; done) | (go_simp; with_reducible rfl))
        try simp only [Act.put, List.getElem_toArray, List.getElem_cons_succ, List.getElem_cons_zero, List.setIfInBounds_toArray, List.set_cons_zero, List.set_cons_succ]
        refine wpAnyH_ready (rs := [3]) (by kernel_rfl) (by simp) ?_
        refine AllReadyH.cons (o := _) rfl (fun K hK => ?_) AllReadyH.nil
        go_simp
        (with_reducible refine (K2.out _ C0.out).mono ?_)
        rintro e cw1 ⟨rfl, g⟩
        have C1 := Lib.hid (gb_trans C0.out g)
        clear g
        try dsimp only
        refine hK.out _ _ (KC.out _ C1.out) (fun hH1 => ?_)
        clear hK K hH0
        try simp only [Act.put, List.getElem_toArray, List.getElem_cons_succ, List.getElem_cons_zero, List.setIfInBounds_toArray, List.set_cons_zero, List.set_cons_succ]
        refine wpAnyH_take (i := 10) (v := ?v33) rfl (by kernel_rfl) (by kernel_rfl) (by kernel_rfl) (fun _ _ _ h => h) (Or.inl ⟨by rfl, ?hy33⟩) (by assumption) ?rest33
        case hy33 => (intro wz hSw; (try dsimp only at hSw); first | (go_simp; done) | (go_simp; with_reducible rfl))
        try simp only [Act.put, List.getElem_toArray, List.getElem_cons_succ, List.getElem_cons_zero, List.setIfInBounds_toArray, List.set_cons_zero, List.set_cons_succ]
        refine wpAnyH_take (i := 17) (v := ?v34) rfl (by kernel_rfl) (by kernel_rfl) (by kernel_rfl) (fun _ _ _ h => h) (Or.inl ⟨by rfl, ?hy34⟩) (by assumption) ?rest34
        case hy34 => (intro wz hSw; (try dsimp only at hSw); first | (go_simp; done) | (go_simp; with_reducible rfl))
        try simp only [Act.put, List.getElem_toArray, List.getElem_cons_succ, List.getElem_cons_zero, List.setIfInBounds_toArray, List.set_cons_zero, List.set_cons_succ]
        refine wpAnyH_done (by kernel_rfl) ?_ _
        clear hH1
        have w5 := C1.out.cell x5 (by simp)
        have w6 := C1.out.cell z2 (by simp)
        go_wp2
        go_ret
        exact ⟨by rw [Z.out] <;> rfl, gb_trans G1.out (gb_trans HG.out C1.out)⟩
    · have hje : j = cn := by omega
      have j1 : ¬ (j : Int) < cn := by omega
      have Z := Lib.hid (show r = df from NON.out (by rw [← hje]; exact HT.out))
      go_wp2
      rw [Z.out]
      refine bodyPost_ret (v := .int .i64 df) (by rw [results_tmp rfl]; rfl) rfl ⟨rfl, gb_trans G1.out HG.out⟩
end Go.Proofs.Ytngobkghcogahaa
