/- Env: the reference's Check; no condition but sizes. -/
import Derived.Test.YtjhknmklejkknaaEvO
import Derived.Test.YtjhknmklejkknaaEvJ
namespace Go.Proofs.Ytjhknmklejkknaa
open Go.RowKit
set_option linter.unusedVariables false
theorem wid_fit (v wd : Int) (h0 : 0 ≤ v) : decide (v < pw (if okW wd = true then wd else 0).toNat) = decide (v ≤ mkB wd) := by
  rw [decide_eq_decide]
  by_cases h : 1 ≤ wd ∧ wd ≤ 32
  · rw [show okW wd = true from decide_eq_true h, if_pos rfl, mkB_in wd h]; unfold pw; omega
  · rw [show okW wd = false from decide_eq_false h, if_neg (by simp), mkB_out wd h]; simp [pw]; omega
theorem wid_rng (H : List (ByteArray × List Fld)) (M : List Fld) (h f : Int) : 0 ≤ widE H M h f ∧ widE H M h f ≤ 32 := by
  unfold widE
  split
  · split
    · rename_i h1
      have := of_decide_eq_true h1
      omega
    · omega
  · omega
theorem widH (H : List (ByteArray × List Fld)) (M : List Fld) (k j : Nat) (hk : k < H.length) (hj : j < (H.getD k hz).2.length) : widE H M k j = if okW ((H.getD k hz).2.getD j fz).2 = true then ((H.getD k hz).2.getD j fz).2 else 0 := by
  unfold widE
  rw [show dfs H M (k : Int) = (H.getD k hz).2 from by unfold dfs; rw [if_neg (by omega), (isX_iff (k : Int) H.length).2 (by omega), if_pos rfl, Int.toNat_natCast]]
  rw [(isX_iff (j : Int) _).2 (by omega), if_pos rfl, Int.toNat_natCast]
theorem widM (H : List (ByteArray × List Fld)) (M : List Fld) (j : Nat) (hj : j < M.length) : widE H M (-1) j = if okW (M.getD j fz).2 = true then (M.getD j fz).2 else 0 := by
  unfold widE
  rw [show dfs H M (-1) = M from by unfold dfs; rw [if_pos rfl]]
  rw [(isX_iff (j : Int) _).2 (by omega), if_pos rfl, Int.toNat_natCast]
/-- The fields' values fit; the metadata's. -/
def ftF (H : List (ByteArray × List Fld)) (M : List Fld) (F : List (List Int)) : Prop := ∀ k, k < F.length → ∀ j, j < (F.getD k []).length → decide ((F.getD k []).getD j 0 < pw (widE H M k j).toNat) = true
def ftT (H : List (ByteArray × List Fld)) (M : List Fld) (T : List Int) : Prop := ∀ j, j < T.length → decide (T.getD j 0 < pw (widE H M (-1) j).toNat) = true
theorem getD_nn {L : List Int} (h : ∀ x ∈ L, 0 ≤ x ∧ x < 4294967296) (j : Nat) : 0 ≤ L.getD j 0 := (rng_at h j).1
theorem ft_split {H : List (ByteArray × List Fld)} {M : List Fld} {L : EL} (hs : shP H M L) (hF : ∀ k, ∀ x ∈ L.F.getD k [], 0 ≤ x ∧ x < 4294967296) (hT : ∀ x ∈ L.T, 0 ≤ x ∧ x < 4294967296) : ftP (dclL H M) (L.T :: L.F) ↔ ftF H M L.F ∧ ftT H M L.T := by
  obtain ⟨s1, s2, s3, s4⟩ := (shP_iff H M L).1 hs
  unfold ftP ftF ftT
  rw [dcl_len]
  constructor
  · intro h
    constructor
    · intro k hk j hj
      have hk2 : k < H.length := by omega
      rw [widH H M k j hk2 (by rw [← s4 k hk2]; exact hj), wid_fit _ _ (getD_nn (hF k) j), decide_eq_true_iff]
      have q := s4 k hk2
      have e : (H.getD k hz).2 = H[k].2 := by simp [hk2]
      have q1 : j < ((dclL H M).getD (k + 1) []).length := by rw [e] at q; simp [dclL, hk2]; omega
      have := h (k + 1) (by omega) j q1
      simpa [dclL, hk2, hk] using this
    · intro j hj
      have hj2 : j < M.length := by omega
      rw [widM H M j hj2, wid_fit _ _ (getD_nn hT j), decide_eq_true_iff]
      have := h 0 (by omega) j (by simpa [dclL] using hj2)
      simpa [dclL] using this
  · rintro ⟨h1, h2⟩ i hi j hj
    cases i with
    | zero =>
      have hj2 : j < M.length := by simpa [dclL] using hj
      have := h2 j (by omega)
      rw [widM H M j hj2, wid_fit _ _ (getD_nn hT j), decide_eq_true_iff] at this
      simpa [dclL] using this
    | succ i =>
      have hi1 : i < H.length := by omega
      have hi2 : i < L.F.length := by omega
      have e : (H.getD i hz).2 = H[i].2 := by simp [hi1]
      have hj1 : j < H[i].2.length := by simpa [dclL, hi1] using hj
      have hj2 : j < (H.getD i hz).2.length := by rw [e]; exact hj1
      have := h1 i hi2 j (by rw [s4 i hi1]; exact hj2)
      rw [widH H M i j hi1 hj2, wid_fit _ _ (getD_nn (hF i) j), decide_eq_true_iff] at this
      simpa [dclL, hi1, hi2] using this
theorem zr_iff (L : EL) : zrP L ↔ ∀ k, k < L.F.length → ∀ j, j < (L.F.getD k []).length → L.V.getD k false = true ∨ (L.F.getD k []).getD j 0 = 0 := by
  unfold zrP
  constructor
  · intro h k hk j hj
    rcases h k hk with e | e
    · exact .inl e
    · right
      rw [List.any_eq_false] at e
      have := e ((L.F.getD k []).getD j 0) (by
        have q : (L.F.getD k []).getD j 0 = (L.F.getD k [])[j] := by rw [List.getD_eq_getElem?_getD, List.getElem?_eq_getElem hj]; rfl
        rw [q]; exact List.getElem_mem hj)
      simpa using this
  · intro h k hk
    by_cases e : L.V.getD k false = true
    · exact .inl e
    · right
      rw [List.any_eq_false]
      intro x hx
      obtain ⟨j, hj, rfl⟩ := List.mem_iff_getElem.1 hx
      rcases h k hk j hj with q | q
      · exact absurd q e
      · have q2 : (L.F.getD k []).getD j 0 = (L.F.getD k [])[j] := by rw [List.getD_eq_getElem?_getD, List.getElem?_eq_getElem hj]; rfl
        rw [q2] at q
        intro h2; rw [bne_iff_ne] at h2; exact h2 q
set_option maxRecDepth 100000 in
set_option maxHeartbeats 8000000 in
theorem rcheck_c (w : World) (nm v3 v4 v5 v6 v7 v8 : Value) (ha ma : Option Addr) (hn hc mn mc : Nat) (H : List (ByteArray × List Fld)) (M : List Fld) (hH : SH w ha hn hc H) (hM : SF w ma mn mc M) (va fa ta pa : Option Addr) (vn vc fn fc tn tc pn pc : Nat) (L : EL) (hV : SB w va vn vc L.V) (hF : SR w fa fn fc L.F) (hT : SU w ta tn tc L.T) (hb : hn ≤ 100000) (zz : shP H M L → fn ≤ 100000 ∧ tn ≤ 100000 ∧ ∀ j, (L.F.getD j []).length ≤ 100000) (r : Int) (hr : chkE H M L r) :
    Calls Try.prog 25 #[.agg #[nm, .slice ha hn hc, .slice ma mn mc, v3, v4, v5, v6, v7, v8], .agg #[.slice va vn vc, .slice fa fn fc, .slice ta tn tc, .slice pa pn pc]] w (RetV (.int .i64 r) w) := by
  have HV := Lib.hid hV
  have HF := Lib.hid hF
  have HT := Lib.hid hT
  have FR_ := Lib.hid (show ∀ k, ∀ x ∈ L.F.getD k [], 0 ≤ x ∧ x < 4294967296 from fun k x hx => by
    by_cases hk : k < fn
    · obtain ⟨ad, had⟩ := hF.some (by omega)
      obtain ⟨_, _, _, _, s⟩ := hF.cells ad had k hk
      exact s.rng x hx
    · rw [List.getD_eq_getElem?_getD, List.getElem?_eq_none (by rw [hF.len]; omega)] at hx; cases hx)
  have HR := Lib.hid hr
  have Q1 := Lib.hid (fun (b : Bool) (h : b = true ↔ shP H M L) (w2 : World) (q : w.grownBy w2 none) => rsized_any w2 nm v3 v4 v5 v6 v7 v8 ha ma hn hc mn mc H M (hH.keep0 q) (hM.keep0 q) va fa ta pa vn vc fn fc tn tc pn pc L (hV.keep0 q) (hF.keep0 q) (hT.keep0 q) hb b h)
  have WDA := Lib.hid (fun (h f : Int) (w2 : World) (q : w.grownBy w2 none) => rwid12_any w2 nm v3 v4 v5 v6 v7 v8 ha ma hn hc mn mc H M (hH.keep0 q) (hM.keep0 q) h f)
  unfold RetV at Q1 WDA
  have GB := Lib.hid (gb_trans (gb_alloc w (.cells #[nm, .slice ha hn hc, .slice ma mn mc, v3, v4, v5, v6, v7, v8] 31) none) (gb_alloc _ (.cells #[.slice va vn vc, .slice fa fn fc, .slice ta tn tc, .slice pa pn pc] 42) none))
  have B1 := (IsB.new w 31 #[nm, .slice ha hn hc, .slice ma mn mc, v3, v4, v5, v6, v7, v8]).alloc (.cells #[.slice va vn vc, .slice fa fn fc, .slice ta tn tc, .slice pa pn pc] 42)
  have B2 := IsB.new (w.alloc (.cells #[nm, .slice ha hn hc, .slice ma mn mc, v3, v4, v5, v6, v7, v8] 31)) 42 #[.slice va vn vc, .slice fa fn fc, .slice ta tn tc, .slice pa pn pc]
  simp only [sz_al] at B2
  replace B1 := Lib.hid B1
  replace B2 := Lib.hid B2
  clear hV hF hT hH hM hb hr
  by_cases hs : shP H M L
  · have ZF := Lib.hid (zz hs).1
    have ZT := Lib.hid (zz hs).2.1
    have ZR := Lib.hid (zz hs).2.2
    clear zz
    have SP := Lib.hid ((shP_iff H M L).1 hs)
    have FS := Lib.hid (ft_split hs FR_.out HT.out.rng)
    have R9 := Lib.hid (show ¬ (ftF H M L.F ∧ ftT H M L.T) → r = 9 from fun e => by
      rcases HR.out with q | q | q | q
      · exact absurd hs q.1
      · exact q.2.2
      · exact absurd (FS.out.1 q.2.1) e
      · exact absurd (FS.out.1 q.2.1) e)
    have R5 := Lib.hid (show ftF H M L.F → ftT H M L.T → ¬ zrP L → r = 5 from fun a b e => by
      rcases HR.out with q | q | q | q
      · exact absurd hs q.1
      · exact absurd (FS.out.2 ⟨a, b⟩) q.2.1
      · exact q.2.2.2
      · exact absurd q.2.2.1 e)
    have R0 := Lib.hid (show ftF H M L.F → ftT H M L.T → zrP L → r = 0 from fun a b e => by
      rcases HR.out with q | q | q | q
      · exact absurd hs q.1
      · exact absurd (FS.out.2 ⟨a, b⟩) q.2.1
      · exact absurd e q.2.2.1
      · exact q.2.2.2)
    have S1 := Lib.hid (Q1.out true ⟨fun _ => hs, fun _ => rfl⟩)
    clear hs Q1 FS HR
    go_enter Try.func25, Try.ntmps25
    go_upto_region 1 with fail
    generalize (w.alloc (.cells #[nm, .slice ha hn hc, .slice ma mn mc, v3, v4, v5, v6, v7, v8] 31)).alloc (.cells #[.slice va vn vc, .slice fa fn fc, .slice ta tn tc, .slice pa pn pc] 42) = w2 at *
    obtain ⟨bx, hbx⟩ : ∃ b, b = w.heap.size := ⟨_, rfl⟩
    have Lbx := Lib.hid (show w.heap.size ≤ bx by rw [hbx]; exact Nat.le_refl _)
    rw [← hbx] at B1 B2 ⊢
    clear hbx
    have c0 := B1.out.cell 0
    have c1 := B1.out.cell 1
    have c2 := B1.out.cell 2
    have c3 := B1.out.cell 3
    have c4 := B1.out.cell 4
    have c5 := B1.out.cell 5
    have c6 := B1.out.cell 6
    have c7 := B1.out.cell 7
    have c8 := B1.out.cell 8
    dsimp at c0 c1 c2 c3 c4 c5 c6 c7 c8
    have x0 := B2.out.cell 0
    have x1 := B2.out.cell 1
    have x2 := B2.out.cell 2
    have x3 := B2.out.cell 3
    dsimp at x0 x1 x2 x3
    go_upto_region 3 with (go_at_call 51; refine (S1.out _ GB.out).mono ?_; clear S1; rintro e w3 ⟨rfl, g⟩; have B1 := Lib.hid (B1.out.keep0 g); have B2 := Lib.hid (B2.out.keep0 g); have GB := Lib.hid (gb_trans GB.out g); clear g)
    clear c0 c1 c2 c3 c4 c5 c6 c7 c8 x0 x1 x2 x3
    go_wp2
    go_loopw [5] (fun i wr => ∃ k : Nat, k ≤ fn ∧ i = .int .i64 k ∧ (∀ a, a < k → ∀ j, j < (L.F.getD a []).length → decide ((L.F.getD a []).getD j 0 < pw (widE H M a j).toNat) = true) ∧ w3.grownBy wr none) (fun i _ => fn - (intOf i).toNat)
    case atStart => exact ⟨0, Nat.zero_le _, rfl, (fun i hi => absurd hi (Nat.not_lt_zero _)), gb_refl _ _⟩
    case round =>
      obtain ⟨k, hk, rfl, ht, hg⟩ := hrel
      have T1 := Lib.hid ht
      have G1 := Lib.hid hg
      clear ht hg
      have x1 := (B2.out.keep0 G1.out).cell 1
      dsimp at x1
      by_cases hlt : k < fn
      · have i1 : (k : Int) < fn := by omega
        have i0 : (0 : Int) ≤ (k : Int) := by omega
        have hw : IntKind.i64.wrap ((k : Int) + 1) = ((k + 1 : Nat) : Int) := by have := ZF.out; rw [IntKind.wrap_i64]; omega
        obtain ⟨fd, rfl⟩ := HF.out.some (by omega)
        obtain ⟨ga, gn, gc, d1, su⟩ := (HF.out.keep0 (gb_trans GB.out G1.out)).cells fd rfl k hlt
        have SU1 := Lib.hid su
        have D1 := Lib.hid d1
        have LN := Lib.hid (show gn ≤ 100000 by rw [← su.len]; exact ZR.out k)
        clear su d1
        generalize wr = wA at *
        go_wp2
        clear x1
        go_loopw [6] (fun i wr => ∃ j : Nat, j ≤ gn ∧ i = .int .i64 j ∧ (∀ a, a < j → decide ((L.F.getD k []).getD a 0 < pw (widE H M k a).toNat) = true) ∧ wA.grownBy wr none) (fun i _ => gn - (intOf i).toNat)
        case atStart => exact ⟨0, Nat.zero_le _, rfl, (fun i hi => absurd hi (Nat.not_lt_zero _)), gb_refl _ _⟩
        case round =>
          obtain ⟨j, hj, rfl, ht, hg⟩ := hrel
          have T2 := Lib.hid ht
          have G2' := Lib.hid hg
          clear ht hg
          have GA := Lib.hid (gb_trans G1.out G2'.out)
          have P1 := Lib.hid (B1.out.keep0 GA.out)
          have P2 := Lib.hid (B2.out.keep0 GA.out)
          have x1 := P2.out.cell 1
          dsimp at x1
          have e1 := G2'.out.cell D1.out (by simp)
          by_cases hlt2 : j < gn
          · obtain ⟨gd, rfl⟩ := SU1.out.some (by omega)
            have e2 := (SU1.out.keep0 G2'.out).cells gd rfl j hlt2
            have j1 : (j : Int) < gn := by omega
            have j0 : (0 : Int) ≤ (j : Int) := by omega
            have hw2 : IntKind.i64.wrap ((j : Int) + 1) = ((j + 1 : Nat) : Int) := by have := LN.out; rw [IntKind.wrap_i64]; omega
            have RG := SU1.out.at_ j
            have WD := Lib.hid (WDA.out k j)
            have WR := wid_rng H M k j
            have FT := Lib.hid (fun W => rfits_any ((L.F.getD k []).getD j 0) (widE H M k j) W RG.1 RG.2 WR.1 WR.2)
            unfold RetS at FT
            have NX := Lib.hid (show decide ((L.F.getD k []).getD j 0 < pw (widE H M k j).toNat) = true → ∀ a, a < j + 1 → decide ((L.F.getD k []).getD a 0 < pw (widE H M k a).toNat) = true from fun e a ha => by
              rcases (show a < j ∨ a = j by omega) with q | rfl
              · exact T2.out a q
              · exact e)
            have BD := Lib.hid (show decide ((L.F.getD k []).getD j 0 < pw (widE H M k j).toNat) = false → r = 9 from fun e => R9.out fun q => by
              have := q.1 k (by rw [HF.out.len]; exact hlt) j (by rw [SU1.out.len]; exact hlt2)
              rw [e] at this; cases this)
            clear RG WR
            generalize decide ((L.F.getD k []).getD j 0 < pw (widE H M k j).toNat) = bf at *
            generalize widE H M k j = wd at *
            generalize (L.F.getD k []).getD j 0 = x at *
            have KT := Lib.hid (fun (w' : World) (q : wr.grownBy w' none) => (⟨(P1.out.keep0 q).cell 0, (P1.out.keep0 q).cell 1, (P1.out.keep0 q).cell 2, (P1.out.keep0 q).cell 3, (P1.out.keep0 q).cell 4, (P1.out.keep0 q).cell 5, (P1.out.keep0 q).cell 6, (P1.out.keep0 q).cell 7, (P1.out.keep0 q).cell 8, (P2.out.keep0 q).cell 1, q.cell e1 (by simp), q.cell e2 (by simp)⟩ : (fun w' : World => w'.cell? ⟨bx, 0, none⟩ = some (nm) ∧ w'.cell? ⟨bx, 1, none⟩ = some (.slice ha hn hc) ∧ w'.cell? ⟨bx, 2, none⟩ = some (.slice ma mn mc) ∧ w'.cell? ⟨bx, 3, none⟩ = some (v3) ∧ w'.cell? ⟨bx, 4, none⟩ = some (v4) ∧ w'.cell? ⟨bx, 5, none⟩ = some (v5) ∧ w'.cell? ⟨bx, 6, none⟩ = some (v6) ∧ w'.cell? ⟨bx, 7, none⟩ = some (v7) ∧ w'.cell? ⟨bx, 8, none⟩ = some (v8) ∧ w'.cell? ⟨(bx + 1), 1, none⟩ = some (.slice (some fd) fn fc) ∧ w'.cell? (fd.add k) = some (.slice (some gd) gn gc) ∧ w'.cell? (gd.add j) = some (.int .u32 x)) w'))
            replace GB := Lib.hid (gb_trans GB.out GA.out)
            go_upto_region 9 with fail
            clear e1 e2 x1
            cases bf with
            | true =>
              have N2 := Lib.hid (NX.out rfl)
              have G0 := Lib.hid (gb_drew wr none)
              refine wp_region_held_drew (S := (fun w' : World => w'.cell? ⟨bx, 0, none⟩ = some (nm) ∧ w'.cell? ⟨bx, 1, none⟩ = some (.slice ha hn hc) ∧ w'.cell? ⟨bx, 2, none⟩ = some (.slice ma mn mc) ∧ w'.cell? ⟨bx, 3, none⟩ = some (v3) ∧ w'.cell? ⟨bx, 4, none⟩ = some (v4) ∧ w'.cell? ⟨bx, 5, none⟩ = some (v5) ∧ w'.cell? ⟨bx, 6, none⟩ = some (v6) ∧ w'.cell? ⟨bx, 7, none⟩ = some (v7) ∧ w'.cell? ⟨bx, 8, none⟩ = some (v8) ∧ w'.cell? ⟨(bx + 1), 1, none⟩ = some (.slice (some fd) fn fc) ∧ w'.cell? (fd.add k) = some (.slice (some gd) gn gc) ∧ w'.cell? (gd.add j) = some (.int .u32 x))) (by kernel_rfl) (KT.out _ G0.out) (fun hH0 => ?_)
              refine wpAnyH_take (i := 0) (v := ?v230) rfl (by kernel_rfl) (by kernel_rfl) (by kernel_rfl) (fun _ _ _ h => h) (Or.inl ⟨by rfl, ?hy230⟩) (by assumption) ?rest230
              case hy230 => (intro wz hSw; (try dsimp only at hSw); first | (go_simp; done) | (go_simp; with_reducible rfl))
              try simp only [Act.put, List.getElem_toArray, List.getElem_cons_zero, List.setIfInBounds_toArray, List.set_cons_zero, List.set_cons_succ]
              refine wpAnyH_take (i := 1) (v := ?v231) rfl (by kernel_rfl) (by kernel_rfl) (by kernel_rfl) (fun _ _ _ h => h) (Or.inl ⟨by rfl, ?hy231⟩) (by assumption) ?rest231
              case hy231 => (intro wz hSw; (try dsimp only at hSw); first | (go_simp; done) | (go_simp; with_reducible rfl))
              try simp only [Act.put, List.getElem_toArray, List.getElem_cons_succ, List.getElem_cons_zero, List.setIfInBounds_toArray, List.set_cons_zero, List.set_cons_succ]
              refine wpAnyH_take (i := 2) (v := ?v232) rfl (by kernel_rfl) (by kernel_rfl) (by kernel_rfl) (fun _ _ _ h => h) (Or.inl ⟨by rfl, ?hy232⟩) (by assumption) ?rest232
              case hy232 => (intro wz hSw; (try dsimp only at hSw); first | (go_simp; done) | (go_simp; with_reducible rfl))
              try simp only [Act.put, List.getElem_toArray, List.getElem_cons_succ, List.getElem_cons_zero, List.setIfInBounds_toArray, List.set_cons_zero, List.set_cons_succ]
              refine wpAnyH_take (i := 3) (v := ?v233) rfl (by kernel_rfl) (by kernel_rfl) (by kernel_rfl) (fun _ _ _ h => h) (Or.inl ⟨by rfl, ?hy233⟩) (by assumption) ?rest233
              case hy233 => (intro wz hSw; (try dsimp only at hSw); first | (go_simp; done) | (go_simp; with_reducible rfl))
              try simp only [Act.put, List.getElem_toArray, List.getElem_cons_succ, List.getElem_cons_zero, List.setIfInBounds_toArray, List.set_cons_zero, List.set_cons_succ]
              refine wpAnyH_take (i := 4) (v := ?v234) rfl (by kernel_rfl) (by kernel_rfl) (by kernel_rfl) (fun _ _ _ h => h) (Or.inl ⟨by rfl, ?hy234⟩) (by assumption) ?rest234
              case hy234 => (intro wz hSw; (try dsimp only at hSw); first | (go_simp; done) | (go_simp; with_reducible rfl))
              try simp only [Act.put, List.getElem_toArray, List.getElem_cons_succ, List.getElem_cons_zero, List.setIfInBounds_toArray, List.set_cons_zero, List.set_cons_succ]
              refine wpAnyH_take (i := 5) (v := ?v235) rfl (by kernel_rfl) (by kernel_rfl) (by kernel_rfl) (fun _ _ _ h => h) (Or.inl ⟨by rfl, ?hy235⟩) (by assumption) ?rest235
              case hy235 => (intro wz hSw; (try dsimp only at hSw); first | (go_simp; done) | (go_simp; with_reducible rfl))
              try simp only [Act.put, List.getElem_toArray, List.getElem_cons_succ, List.getElem_cons_zero, List.setIfInBounds_toArray, List.set_cons_zero, List.set_cons_succ]
              refine wpAnyH_take (i := 6) (v := ?v236) rfl (by kernel_rfl) (by kernel_rfl) (by kernel_rfl) (fun _ _ _ h => h) (Or.inl ⟨by rfl, ?hy236⟩) (by assumption) ?rest236
              case hy236 => (intro wz hSw; (try dsimp only at hSw); first | (go_simp; done) | (go_simp; with_reducible rfl))
              try simp only [Act.put, List.getElem_toArray, List.getElem_cons_succ, List.getElem_cons_zero, List.setIfInBounds_toArray, List.set_cons_zero, List.set_cons_succ]
              refine wpAnyH_take (i := 7) (v := ?v237) rfl (by kernel_rfl) (by kernel_rfl) (by kernel_rfl) (fun _ _ _ h => h) (Or.inl ⟨by rfl, ?hy237⟩) (by assumption) ?rest237
              case hy237 => (intro wz hSw; (try dsimp only at hSw); first | (go_simp; done) | (go_simp; with_reducible rfl))
              try simp only [Act.put, List.getElem_toArray, List.getElem_cons_succ, List.getElem_cons_zero, List.setIfInBounds_toArray, List.set_cons_zero, List.set_cons_succ]
              refine wpAnyH_take (i := 8) (v := ?v238) rfl (by kernel_rfl) (by kernel_rfl) (by kernel_rfl) (fun _ _ _ h => h) (Or.inl ⟨by rfl, ?hy238⟩) (by assumption) ?rest238
              case hy238 => (intro wz hSw; (try dsimp only at hSw); first | (go_simp; done) | (go_simp; with_reducible rfl))
              try simp only [Act.put, List.getElem_toArray, List.getElem_cons_succ, List.getElem_cons_zero, List.setIfInBounds_toArray, List.set_cons_zero, List.set_cons_succ]
              refine wpAnyH_take (i := 9) (v := ?v239) rfl (by kernel_rfl) (by kernel_rfl) (by kernel_rfl) (fun _ _ _ h => h) (Or.inl ⟨by rfl, ?hy239⟩) (by assumption) ?rest239
              case hy239 => (intro wz hSw; (try dsimp only at hSw); first | (go_simp; done) | (go_simp; with_reducible rfl))
              try simp only [Act.put, List.getElem_toArray, List.getElem_cons_succ, List.getElem_cons_zero, List.setIfInBounds_toArray, List.set_cons_zero, List.set_cons_succ]
              refine wpAnyH_take (i := 10) (v := ?v240) rfl (by kernel_rfl) (by kernel_rfl) (by kernel_rfl) (fun _ _ _ h => h) (Or.inl ⟨by rfl, ?hy240⟩) (by assumption) ?rest240
              case hy240 => (intro wz hSw; (try dsimp only at hSw); first | (go_simp; done) | (go_simp; with_reducible rfl))
              try simp only [Act.put, List.getElem_toArray, List.getElem_cons_succ, List.getElem_cons_zero, List.setIfInBounds_toArray, List.set_cons_zero, List.set_cons_succ]
              refine wpAnyH_take (i := 11) (v := ?v241) rfl (by kernel_rfl) (by kernel_rfl) (by kernel_rfl) (fun _ _ _ h => h) (Or.inl ⟨by rfl, ?hy241⟩) (by assumption) ?rest241
              case hy241 => (intro wz hSw; (try dsimp only at hSw); first | (go_simp; done) | (go_simp; with_reducible rfl))
              try simp only [Act.put, List.getElem_toArray, List.getElem_cons_succ, List.getElem_cons_zero, List.setIfInBounds_toArray, List.set_cons_zero, List.set_cons_succ]
              refine wpAnyH_ready (rs := [12]) (by kernel_rfl) (by simp) ?_
              refine AllReadyH.cons (o := _) rfl (fun K hK => ?_) AllReadyH.nil
              go_simp
              refine ((WD.out _ (gb_trans GB.out G0.out))).mono ?_
              rintro e wh1 ⟨rfl, g⟩
              have G1 := Lib.hid (gb_trans G0.out g)
              clear g
              try dsimp only
              refine hK.out _ _ (KT.out _ G1.out) (fun hH1 => ?_)
              clear hK K hH0
              try simp only [Act.put, List.getElem_toArray, List.getElem_cons_succ, List.getElem_cons_zero, List.setIfInBounds_toArray, List.set_cons_zero, List.set_cons_succ]
              refine wpAnyH_ready (rs := [13]) (by kernel_rfl) (by simp) ?_
              refine AllReadyH.cons (o := _) rfl (fun K hK => ?_) AllReadyH.nil
              go_simp
              refine ((FT.out _)).mono ?_
              rintro e wh2 ⟨rfl, rfl⟩
              have g := gb_refl wh2 none
              have G2 := Lib.hid (gb_trans G1.out g)
              clear g
              try dsimp only
              refine hK.out _ _ (KT.out _ G2.out) (fun hH2 => ?_)
              clear hK K hH1
              try simp only [Act.put, List.getElem_toArray, List.getElem_cons_succ, List.getElem_cons_zero, List.setIfInBounds_toArray, List.set_cons_zero, List.set_cons_succ]
              refine wpAnyH_take (i := 14) (v := ?v242) rfl (by kernel_rfl) (by kernel_rfl) (by kernel_rfl) (fun _ _ _ h => h) (Or.inl ⟨by rfl, ?hy242⟩) (by assumption) ?rest242
              case hy242 => (intro wz hSw; (try dsimp only at hSw); first | (go_simp; done) | (go_simp; with_reducible rfl))
              try simp only [Act.put, List.getElem_toArray, List.getElem_cons_succ, List.getElem_cons_zero, List.setIfInBounds_toArray, List.set_cons_zero, List.set_cons_succ]
              refine wpAnyH_done (by kernel_rfl) ?_ _
              clear hH2
              go_wp2
              go_roundw
              case rel => exact ⟨j + 1, by omega, by first | rfl | (congr 1), N2.out, gb_trans G2'.out G2.out⟩
              case measure => simp [intOf]; omega
            | false =>
              have B9 := Lib.hid (BD.out rfl)
              have G0 := Lib.hid (gb_drew wr none)
              refine wp_region_held_drew (S := (fun w' : World => w'.cell? ⟨bx, 0, none⟩ = some (nm) ∧ w'.cell? ⟨bx, 1, none⟩ = some (.slice ha hn hc) ∧ w'.cell? ⟨bx, 2, none⟩ = some (.slice ma mn mc) ∧ w'.cell? ⟨bx, 3, none⟩ = some (v3) ∧ w'.cell? ⟨bx, 4, none⟩ = some (v4) ∧ w'.cell? ⟨bx, 5, none⟩ = some (v5) ∧ w'.cell? ⟨bx, 6, none⟩ = some (v6) ∧ w'.cell? ⟨bx, 7, none⟩ = some (v7) ∧ w'.cell? ⟨bx, 8, none⟩ = some (v8) ∧ w'.cell? ⟨(bx + 1), 1, none⟩ = some (.slice (some fd) fn fc) ∧ w'.cell? (fd.add k) = some (.slice (some gd) gn gc) ∧ w'.cell? (gd.add j) = some (.int .u32 x))) (by kernel_rfl) (KT.out _ G0.out) (fun hH0 => ?_)
              refine wpAnyH_take (i := 0) (v := ?v243) rfl (by kernel_rfl) (by kernel_rfl) (by kernel_rfl) (fun _ _ _ h => h) (Or.inl ⟨by rfl, ?hy243⟩) (by assumption) ?rest243
              case hy243 => (intro wz hSw; (try dsimp only at hSw); first | (go_simp; done) | (go_simp; with_reducible rfl))
              try simp only [Act.put, List.getElem_toArray, List.getElem_cons_zero, List.setIfInBounds_toArray, List.set_cons_zero, List.set_cons_succ]
              refine wpAnyH_take (i := 1) (v := ?v244) rfl (by kernel_rfl) (by kernel_rfl) (by kernel_rfl) (fun _ _ _ h => h) (Or.inl ⟨by rfl, ?hy244⟩) (by assumption) ?rest244
              case hy244 => (intro wz hSw; (try dsimp only at hSw); first | (go_simp; done) | (go_simp; with_reducible rfl))
              try simp only [Act.put, List.getElem_toArray, List.getElem_cons_succ, List.getElem_cons_zero, List.setIfInBounds_toArray, List.set_cons_zero, List.set_cons_succ]
              refine wpAnyH_take (i := 2) (v := ?v245) rfl (by kernel_rfl) (by kernel_rfl) (by kernel_rfl) (fun _ _ _ h => h) (Or.inl ⟨by rfl, ?hy245⟩) (by assumption) ?rest245
              case hy245 => (intro wz hSw; (try dsimp only at hSw); first | (go_simp; done) | (go_simp; with_reducible rfl))
              try simp only [Act.put, List.getElem_toArray, List.getElem_cons_succ, List.getElem_cons_zero, List.setIfInBounds_toArray, List.set_cons_zero, List.set_cons_succ]
              refine wpAnyH_take (i := 3) (v := ?v246) rfl (by kernel_rfl) (by kernel_rfl) (by kernel_rfl) (fun _ _ _ h => h) (Or.inl ⟨by rfl, ?hy246⟩) (by assumption) ?rest246
              case hy246 => (intro wz hSw; (try dsimp only at hSw); first | (go_simp; done) | (go_simp; with_reducible rfl))
              try simp only [Act.put, List.getElem_toArray, List.getElem_cons_succ, List.getElem_cons_zero, List.setIfInBounds_toArray, List.set_cons_zero, List.set_cons_succ]
              refine wpAnyH_take (i := 4) (v := ?v247) rfl (by kernel_rfl) (by kernel_rfl) (by kernel_rfl) (fun _ _ _ h => h) (Or.inl ⟨by rfl, ?hy247⟩) (by assumption) ?rest247
              case hy247 => (intro wz hSw; (try dsimp only at hSw); first | (go_simp; done) | (go_simp; with_reducible rfl))
              try simp only [Act.put, List.getElem_toArray, List.getElem_cons_succ, List.getElem_cons_zero, List.setIfInBounds_toArray, List.set_cons_zero, List.set_cons_succ]
              refine wpAnyH_take (i := 5) (v := ?v248) rfl (by kernel_rfl) (by kernel_rfl) (by kernel_rfl) (fun _ _ _ h => h) (Or.inl ⟨by rfl, ?hy248⟩) (by assumption) ?rest248
              case hy248 => (intro wz hSw; (try dsimp only at hSw); first | (go_simp; done) | (go_simp; with_reducible rfl))
              try simp only [Act.put, List.getElem_toArray, List.getElem_cons_succ, List.getElem_cons_zero, List.setIfInBounds_toArray, List.set_cons_zero, List.set_cons_succ]
              refine wpAnyH_take (i := 6) (v := ?v249) rfl (by kernel_rfl) (by kernel_rfl) (by kernel_rfl) (fun _ _ _ h => h) (Or.inl ⟨by rfl, ?hy249⟩) (by assumption) ?rest249
              case hy249 => (intro wz hSw; (try dsimp only at hSw); first | (go_simp; done) | (go_simp; with_reducible rfl))
              try simp only [Act.put, List.getElem_toArray, List.getElem_cons_succ, List.getElem_cons_zero, List.setIfInBounds_toArray, List.set_cons_zero, List.set_cons_succ]
              refine wpAnyH_take (i := 7) (v := ?v250) rfl (by kernel_rfl) (by kernel_rfl) (by kernel_rfl) (fun _ _ _ h => h) (Or.inl ⟨by rfl, ?hy250⟩) (by assumption) ?rest250
              case hy250 => (intro wz hSw; (try dsimp only at hSw); first | (go_simp; done) | (go_simp; with_reducible rfl))
              try simp only [Act.put, List.getElem_toArray, List.getElem_cons_succ, List.getElem_cons_zero, List.setIfInBounds_toArray, List.set_cons_zero, List.set_cons_succ]
              refine wpAnyH_take (i := 8) (v := ?v251) rfl (by kernel_rfl) (by kernel_rfl) (by kernel_rfl) (fun _ _ _ h => h) (Or.inl ⟨by rfl, ?hy251⟩) (by assumption) ?rest251
              case hy251 => (intro wz hSw; (try dsimp only at hSw); first | (go_simp; done) | (go_simp; with_reducible rfl))
              try simp only [Act.put, List.getElem_toArray, List.getElem_cons_succ, List.getElem_cons_zero, List.setIfInBounds_toArray, List.set_cons_zero, List.set_cons_succ]
              refine wpAnyH_take (i := 9) (v := ?v252) rfl (by kernel_rfl) (by kernel_rfl) (by kernel_rfl) (fun _ _ _ h => h) (Or.inl ⟨by rfl, ?hy252⟩) (by assumption) ?rest252
              case hy252 => (intro wz hSw; (try dsimp only at hSw); first | (go_simp; done) | (go_simp; with_reducible rfl))
              try simp only [Act.put, List.getElem_toArray, List.getElem_cons_succ, List.getElem_cons_zero, List.setIfInBounds_toArray, List.set_cons_zero, List.set_cons_succ]
              refine wpAnyH_take (i := 10) (v := ?v253) rfl (by kernel_rfl) (by kernel_rfl) (by kernel_rfl) (fun _ _ _ h => h) (Or.inl ⟨by rfl, ?hy253⟩) (by assumption) ?rest253
              case hy253 => (intro wz hSw; (try dsimp only at hSw); first | (go_simp; done) | (go_simp; with_reducible rfl))
              try simp only [Act.put, List.getElem_toArray, List.getElem_cons_succ, List.getElem_cons_zero, List.setIfInBounds_toArray, List.set_cons_zero, List.set_cons_succ]
              refine wpAnyH_take (i := 11) (v := ?v254) rfl (by kernel_rfl) (by kernel_rfl) (by kernel_rfl) (fun _ _ _ h => h) (Or.inl ⟨by rfl, ?hy254⟩) (by assumption) ?rest254
              case hy254 => (intro wz hSw; (try dsimp only at hSw); first | (go_simp; done) | (go_simp; with_reducible rfl))
              try simp only [Act.put, List.getElem_toArray, List.getElem_cons_succ, List.getElem_cons_zero, List.setIfInBounds_toArray, List.set_cons_zero, List.set_cons_succ]
              refine wpAnyH_ready (rs := [12]) (by kernel_rfl) (by simp) ?_
              refine AllReadyH.cons (o := _) rfl (fun K hK => ?_) AllReadyH.nil
              go_simp
              refine ((WD.out _ (gb_trans GB.out G0.out))).mono ?_
              rintro e wh1 ⟨rfl, g⟩
              have G1 := Lib.hid (gb_trans G0.out g)
              clear g
              try dsimp only
              refine hK.out _ _ (KT.out _ G1.out) (fun hH1 => ?_)
              clear hK K hH0
              try simp only [Act.put, List.getElem_toArray, List.getElem_cons_succ, List.getElem_cons_zero, List.setIfInBounds_toArray, List.set_cons_zero, List.set_cons_succ]
              refine wpAnyH_ready (rs := [13]) (by kernel_rfl) (by simp) ?_
              refine AllReadyH.cons (o := _) rfl (fun K hK => ?_) AllReadyH.nil
              go_simp
              refine ((FT.out _)).mono ?_
              rintro e wh2 ⟨rfl, rfl⟩
              have g := gb_refl wh2 none
              have G2 := Lib.hid (gb_trans G1.out g)
              clear g
              try dsimp only
              refine hK.out _ _ (KT.out _ G2.out) (fun hH2 => ?_)
              clear hK K hH1
              try simp only [Act.put, List.getElem_toArray, List.getElem_cons_succ, List.getElem_cons_zero, List.setIfInBounds_toArray, List.set_cons_zero, List.set_cons_succ]
              refine wpAnyH_take (i := 14) (v := ?v255) rfl (by kernel_rfl) (by kernel_rfl) (by kernel_rfl) (fun _ _ _ h => h) (Or.inl ⟨by rfl, ?hy255⟩) (by assumption) ?rest255
              case hy255 => (intro wz hSw; (try dsimp only at hSw); first | (go_simp; done) | (go_simp; with_reducible rfl))
              try simp only [Act.put, List.getElem_toArray, List.getElem_cons_succ, List.getElem_cons_zero, List.setIfInBounds_toArray, List.set_cons_zero, List.set_cons_succ]
              refine wpAnyH_done (by kernel_rfl) ?_ _
              clear hH2
              go_wp2
              go_ret
              exact ⟨by rw [B9.out] <;> rfl, gb_trans GB.out G2.out⟩
          · have j1 : ¬ (j : Int) < gn := by omega
            obtain rfl : j = gn := by omega
            have N2 := Lib.hid (show ∀ a, a < k + 1 → ∀ j, j < (L.F.getD a []).length → decide ((L.F.getD a []).getD j 0 < pw (widE H M a j).toNat) = true from fun a ha b hb => by
              rcases (show a < k ∨ a = k by omega) with q | rfl
              · exact T1.out a q b hb
              · exact T2.out b (by rw [SU1.out.len] at hb; exact hb))
            go_wp2
            go_roundw
            case rel => exact ⟨k + 1, by omega, by first | rfl | (congr 1), N2.out, GA.out⟩
            case measure => simp [intOf]; omega
      · have i1 : ¬ (k : Int) < fn := by omega
        obtain rfl : fn = k := by omega
        have FF := Lib.hid (show ftF H M L.F from fun a ha => T1.out a (by rw [HF.out.len] at ha; exact ha))
        have B1 := Lib.hid (B1.out.keep0 G1.out)
        have B2 := Lib.hid (B2.out.keep0 G1.out)
        have GB := Lib.hid (gb_trans GB.out G1.out)
        generalize wr = wB at *
        go_wp2
        clear x1
        go_loopw [7] (fun i wr => ∃ j : Nat, j ≤ tn ∧ i = .int .i64 j ∧ (∀ a, a < j → decide (L.T.getD a 0 < pw (widE H M (-1) a).toNat) = true) ∧ wB.grownBy wr none) (fun i _ => tn - (intOf i).toNat)
        case atStart => exact ⟨0, Nat.zero_le _, rfl, (fun i hi => absurd hi (Nat.not_lt_zero _)), gb_refl _ _⟩
        case round =>
          obtain ⟨j, hj, rfl, ht, hg⟩ := hrel
          have T2 := Lib.hid ht
          have G2' := Lib.hid hg
          clear ht hg
          have P1 := Lib.hid (B1.out.keep0 G2'.out)
          have P2 := Lib.hid (B2.out.keep0 G2'.out)
          have x1 := P2.out.cell 2
          dsimp at x1
          by_cases hlt2 : j < tn
          · obtain ⟨td, rfl⟩ := HT.out.some (by omega)
            have e2 := (HT.out.keep0 (gb_trans GB.out G2'.out)).cells td rfl j hlt2
            have j1 : (j : Int) < tn := by omega
            have j0 : (0 : Int) ≤ (j : Int) := by omega
            have hw2 : IntKind.i64.wrap ((j : Int) + 1) = ((j + 1 : Nat) : Int) := by have := ZT.out; rw [IntKind.wrap_i64]; omega
            have RG := HT.out.at_ j
            have WD := Lib.hid (WDA.out (-1) j)
            have WR := wid_rng H M (-1) j
            have FT := Lib.hid (fun W => rfits_any (L.T.getD j 0) (widE H M (-1) j) W RG.1 RG.2 WR.1 WR.2)
            unfold RetS at FT
            have NX := Lib.hid (show decide (L.T.getD j 0 < pw (widE H M (-1) j).toNat) = true → ∀ a, a < j + 1 → decide (L.T.getD a 0 < pw (widE H M (-1) a).toNat) = true from fun e a ha => by
              rcases (show a < j ∨ a = j by omega) with q | rfl
              · exact T2.out a q
              · exact e)
            have BD := Lib.hid (show decide (L.T.getD j 0 < pw (widE H M (-1) j).toNat) = false → r = 9 from fun e => R9.out fun q => by
              have := q.2 j (by rw [HT.out.len]; exact hlt2)
              rw [e] at this; cases this)
            clear RG WR
            generalize decide (L.T.getD j 0 < pw (widE H M (-1) j).toNat) = bf at *
            generalize widE H M (-1) j = wd at *
            generalize L.T.getD j 0 = x at *
            have KT := Lib.hid (fun (w' : World) (q : wr.grownBy w' none) => (⟨(P1.out.keep0 q).cell 0, (P1.out.keep0 q).cell 1, (P1.out.keep0 q).cell 2, (P1.out.keep0 q).cell 3, (P1.out.keep0 q).cell 4, (P1.out.keep0 q).cell 5, (P1.out.keep0 q).cell 6, (P1.out.keep0 q).cell 7, (P1.out.keep0 q).cell 8, (P2.out.keep0 q).cell 2, q.cell e2 (by simp)⟩ : (fun w' : World => w'.cell? ⟨bx, 0, none⟩ = some (nm) ∧ w'.cell? ⟨bx, 1, none⟩ = some (.slice ha hn hc) ∧ w'.cell? ⟨bx, 2, none⟩ = some (.slice ma mn mc) ∧ w'.cell? ⟨bx, 3, none⟩ = some (v3) ∧ w'.cell? ⟨bx, 4, none⟩ = some (v4) ∧ w'.cell? ⟨bx, 5, none⟩ = some (v5) ∧ w'.cell? ⟨bx, 6, none⟩ = some (v6) ∧ w'.cell? ⟨bx, 7, none⟩ = some (v7) ∧ w'.cell? ⟨bx, 8, none⟩ = some (v8) ∧ w'.cell? ⟨(bx + 1), 2, none⟩ = some (.slice (some td) tn tc) ∧ w'.cell? (td.add j) = some (.int .u32 x)) w'))
            replace GB := Lib.hid (gb_trans GB.out G2'.out)
            go_upto_region 14 with fail
            clear e2 x1
            cases bf with
            | true =>
              have N2 := Lib.hid (NX.out rfl)
              have G0 := Lib.hid (gb_drew wr none)
              refine wp_region_held_drew (S := (fun w' : World => w'.cell? ⟨bx, 0, none⟩ = some (nm) ∧ w'.cell? ⟨bx, 1, none⟩ = some (.slice ha hn hc) ∧ w'.cell? ⟨bx, 2, none⟩ = some (.slice ma mn mc) ∧ w'.cell? ⟨bx, 3, none⟩ = some (v3) ∧ w'.cell? ⟨bx, 4, none⟩ = some (v4) ∧ w'.cell? ⟨bx, 5, none⟩ = some (v5) ∧ w'.cell? ⟨bx, 6, none⟩ = some (v6) ∧ w'.cell? ⟨bx, 7, none⟩ = some (v7) ∧ w'.cell? ⟨bx, 8, none⟩ = some (v8) ∧ w'.cell? ⟨(bx + 1), 2, none⟩ = some (.slice (some td) tn tc) ∧ w'.cell? (td.add j) = some (.int .u32 x))) (by kernel_rfl) (KT.out _ G0.out) (fun hH0 => ?_)
              refine wpAnyH_take (i := 0) (v := ?v256) rfl (by kernel_rfl) (by kernel_rfl) (by kernel_rfl) (fun _ _ _ h => h) (Or.inl ⟨by rfl, ?hy256⟩) (by assumption) ?rest256
              case hy256 => (intro wz hSw; (try dsimp only at hSw); first | (go_simp; done) | (go_simp; with_reducible rfl))
              try simp only [Act.put, List.getElem_toArray, List.getElem_cons_zero, List.setIfInBounds_toArray, List.set_cons_zero, List.set_cons_succ]
              refine wpAnyH_take (i := 1) (v := ?v257) rfl (by kernel_rfl) (by kernel_rfl) (by kernel_rfl) (fun _ _ _ h => h) (Or.inl ⟨by rfl, ?hy257⟩) (by assumption) ?rest257
              case hy257 => (intro wz hSw; (try dsimp only at hSw); first | (go_simp; done) | (go_simp; with_reducible rfl))
              try simp only [Act.put, List.getElem_toArray, List.getElem_cons_succ, List.getElem_cons_zero, List.setIfInBounds_toArray, List.set_cons_zero, List.set_cons_succ]
              refine wpAnyH_take (i := 2) (v := ?v258) rfl (by kernel_rfl) (by kernel_rfl) (by kernel_rfl) (fun _ _ _ h => h) (Or.inl ⟨by rfl, ?hy258⟩) (by assumption) ?rest258
              case hy258 => (intro wz hSw; (try dsimp only at hSw); first | (go_simp; done) | (go_simp; with_reducible rfl))
              try simp only [Act.put, List.getElem_toArray, List.getElem_cons_succ, List.getElem_cons_zero, List.setIfInBounds_toArray, List.set_cons_zero, List.set_cons_succ]
              refine wpAnyH_take (i := 3) (v := ?v259) rfl (by kernel_rfl) (by kernel_rfl) (by kernel_rfl) (fun _ _ _ h => h) (Or.inl ⟨by rfl, ?hy259⟩) (by assumption) ?rest259
              case hy259 => (intro wz hSw; (try dsimp only at hSw); first | (go_simp; done) | (go_simp; with_reducible rfl))
              try simp only [Act.put, List.getElem_toArray, List.getElem_cons_succ, List.getElem_cons_zero, List.setIfInBounds_toArray, List.set_cons_zero, List.set_cons_succ]
              refine wpAnyH_take (i := 4) (v := ?v260) rfl (by kernel_rfl) (by kernel_rfl) (by kernel_rfl) (fun _ _ _ h => h) (Or.inl ⟨by rfl, ?hy260⟩) (by assumption) ?rest260
              case hy260 => (intro wz hSw; (try dsimp only at hSw); first | (go_simp; done) | (go_simp; with_reducible rfl))
              try simp only [Act.put, List.getElem_toArray, List.getElem_cons_succ, List.getElem_cons_zero, List.setIfInBounds_toArray, List.set_cons_zero, List.set_cons_succ]
              refine wpAnyH_take (i := 5) (v := ?v261) rfl (by kernel_rfl) (by kernel_rfl) (by kernel_rfl) (fun _ _ _ h => h) (Or.inl ⟨by rfl, ?hy261⟩) (by assumption) ?rest261
              case hy261 => (intro wz hSw; (try dsimp only at hSw); first | (go_simp; done) | (go_simp; with_reducible rfl))
              try simp only [Act.put, List.getElem_toArray, List.getElem_cons_succ, List.getElem_cons_zero, List.setIfInBounds_toArray, List.set_cons_zero, List.set_cons_succ]
              refine wpAnyH_take (i := 6) (v := ?v262) rfl (by kernel_rfl) (by kernel_rfl) (by kernel_rfl) (fun _ _ _ h => h) (Or.inl ⟨by rfl, ?hy262⟩) (by assumption) ?rest262
              case hy262 => (intro wz hSw; (try dsimp only at hSw); first | (go_simp; done) | (go_simp; with_reducible rfl))
              try simp only [Act.put, List.getElem_toArray, List.getElem_cons_succ, List.getElem_cons_zero, List.setIfInBounds_toArray, List.set_cons_zero, List.set_cons_succ]
              refine wpAnyH_take (i := 7) (v := ?v263) rfl (by kernel_rfl) (by kernel_rfl) (by kernel_rfl) (fun _ _ _ h => h) (Or.inl ⟨by rfl, ?hy263⟩) (by assumption) ?rest263
              case hy263 => (intro wz hSw; (try dsimp only at hSw); first | (go_simp; done) | (go_simp; with_reducible rfl))
              try simp only [Act.put, List.getElem_toArray, List.getElem_cons_succ, List.getElem_cons_zero, List.setIfInBounds_toArray, List.set_cons_zero, List.set_cons_succ]
              refine wpAnyH_ready (rs := [8]) (by kernel_rfl) (by simp) ?_
              refine AllReadyH.cons (o := _) rfl (fun K hK => ?_) AllReadyH.nil
              go_simp
              refine ((WD.out _ (gb_trans GB.out G0.out))).mono ?_
              rintro e wh1 ⟨rfl, g⟩
              have G1 := Lib.hid (gb_trans G0.out g)
              clear g
              try dsimp only
              refine hK.out _ _ (KT.out _ G1.out) (fun hH1 => ?_)
              clear hK K hH0
              try simp only [Act.put, List.getElem_toArray, List.getElem_cons_succ, List.getElem_cons_zero, List.setIfInBounds_toArray, List.set_cons_zero, List.set_cons_succ]
              refine wpAnyH_ready (rs := [9]) (by kernel_rfl) (by simp) ?_
              refine AllReadyH.cons (o := _) rfl (fun K hK => ?_) AllReadyH.nil
              go_simp
              refine ((FT.out _)).mono ?_
              rintro e wh2 ⟨rfl, rfl⟩
              have g := gb_refl wh2 none
              have G2 := Lib.hid (gb_trans G1.out g)
              clear g
              try dsimp only
              refine hK.out _ _ (KT.out _ G2.out) (fun hH2 => ?_)
              clear hK K hH1
              try simp only [Act.put, List.getElem_toArray, List.getElem_cons_succ, List.getElem_cons_zero, List.setIfInBounds_toArray, List.set_cons_zero, List.set_cons_succ]
              refine wpAnyH_take (i := 10) (v := ?v264) rfl (by kernel_rfl) (by kernel_rfl) (by kernel_rfl) (fun _ _ _ h => h) (Or.inl ⟨by rfl, ?hy264⟩) (by assumption) ?rest264
              case hy264 => (intro wz hSw; (try dsimp only at hSw); first | (go_simp; done) | (go_simp; with_reducible rfl))
              try simp only [Act.put, List.getElem_toArray, List.getElem_cons_succ, List.getElem_cons_zero, List.setIfInBounds_toArray, List.set_cons_zero, List.set_cons_succ]
              refine wpAnyH_done (by kernel_rfl) ?_ _
              clear hH2
              go_wp2
              go_roundw
              case rel => exact ⟨j + 1, by omega, by first | rfl | (congr 1), N2.out, gb_trans G2'.out G2.out⟩
              case measure => simp [intOf]; omega
            | false =>
              have B9 := Lib.hid (BD.out rfl)
              have G0 := Lib.hid (gb_drew wr none)
              refine wp_region_held_drew (S := (fun w' : World => w'.cell? ⟨bx, 0, none⟩ = some (nm) ∧ w'.cell? ⟨bx, 1, none⟩ = some (.slice ha hn hc) ∧ w'.cell? ⟨bx, 2, none⟩ = some (.slice ma mn mc) ∧ w'.cell? ⟨bx, 3, none⟩ = some (v3) ∧ w'.cell? ⟨bx, 4, none⟩ = some (v4) ∧ w'.cell? ⟨bx, 5, none⟩ = some (v5) ∧ w'.cell? ⟨bx, 6, none⟩ = some (v6) ∧ w'.cell? ⟨bx, 7, none⟩ = some (v7) ∧ w'.cell? ⟨bx, 8, none⟩ = some (v8) ∧ w'.cell? ⟨(bx + 1), 2, none⟩ = some (.slice (some td) tn tc) ∧ w'.cell? (td.add j) = some (.int .u32 x))) (by kernel_rfl) (KT.out _ G0.out) (fun hH0 => ?_)
              refine wpAnyH_take (i := 0) (v := ?v265) rfl (by kernel_rfl) (by kernel_rfl) (by kernel_rfl) (fun _ _ _ h => h) (Or.inl ⟨by rfl, ?hy265⟩) (by assumption) ?rest265
              case hy265 => (intro wz hSw; (try dsimp only at hSw); first | (go_simp; done) | (go_simp; with_reducible rfl))
              try simp only [Act.put, List.getElem_toArray, List.getElem_cons_zero, List.setIfInBounds_toArray, List.set_cons_zero, List.set_cons_succ]
              refine wpAnyH_take (i := 1) (v := ?v266) rfl (by kernel_rfl) (by kernel_rfl) (by kernel_rfl) (fun _ _ _ h => h) (Or.inl ⟨by rfl, ?hy266⟩) (by assumption) ?rest266
              case hy266 => (intro wz hSw; (try dsimp only at hSw); first | (go_simp; done) | (go_simp; with_reducible rfl))
              try simp only [Act.put, List.getElem_toArray, List.getElem_cons_succ, List.getElem_cons_zero, List.setIfInBounds_toArray, List.set_cons_zero, List.set_cons_succ]
              refine wpAnyH_take (i := 2) (v := ?v267) rfl (by kernel_rfl) (by kernel_rfl) (by kernel_rfl) (fun _ _ _ h => h) (Or.inl ⟨by rfl, ?hy267⟩) (by assumption) ?rest267
              case hy267 => (intro wz hSw; (try dsimp only at hSw); first | (go_simp; done) | (go_simp; with_reducible rfl))
              try simp only [Act.put, List.getElem_toArray, List.getElem_cons_succ, List.getElem_cons_zero, List.setIfInBounds_toArray, List.set_cons_zero, List.set_cons_succ]
              refine wpAnyH_take (i := 3) (v := ?v268) rfl (by kernel_rfl) (by kernel_rfl) (by kernel_rfl) (fun _ _ _ h => h) (Or.inl ⟨by rfl, ?hy268⟩) (by assumption) ?rest268
              case hy268 => (intro wz hSw; (try dsimp only at hSw); first | (go_simp; done) | (go_simp; with_reducible rfl))
              try simp only [Act.put, List.getElem_toArray, List.getElem_cons_succ, List.getElem_cons_zero, List.setIfInBounds_toArray, List.set_cons_zero, List.set_cons_succ]
              refine wpAnyH_take (i := 4) (v := ?v269) rfl (by kernel_rfl) (by kernel_rfl) (by kernel_rfl) (fun _ _ _ h => h) (Or.inl ⟨by rfl, ?hy269⟩) (by assumption) ?rest269
              case hy269 => (intro wz hSw; (try dsimp only at hSw); first | (go_simp; done) | (go_simp; with_reducible rfl))
              try simp only [Act.put, List.getElem_toArray, List.getElem_cons_succ, List.getElem_cons_zero, List.setIfInBounds_toArray, List.set_cons_zero, List.set_cons_succ]
              refine wpAnyH_take (i := 5) (v := ?v270) rfl (by kernel_rfl) (by kernel_rfl) (by kernel_rfl) (fun _ _ _ h => h) (Or.inl ⟨by rfl, ?hy270⟩) (by assumption) ?rest270
              case hy270 => (intro wz hSw; (try dsimp only at hSw); first | (go_simp; done) | (go_simp; with_reducible rfl))
              try simp only [Act.put, List.getElem_toArray, List.getElem_cons_succ, List.getElem_cons_zero, List.setIfInBounds_toArray, List.set_cons_zero, List.set_cons_succ]
              refine wpAnyH_take (i := 6) (v := ?v271) rfl (by kernel_rfl) (by kernel_rfl) (by kernel_rfl) (fun _ _ _ h => h) (Or.inl ⟨by rfl, ?hy271⟩) (by assumption) ?rest271
              case hy271 => (intro wz hSw; (try dsimp only at hSw); first | (go_simp; done) | (go_simp; with_reducible rfl))
              try simp only [Act.put, List.getElem_toArray, List.getElem_cons_succ, List.getElem_cons_zero, List.setIfInBounds_toArray, List.set_cons_zero, List.set_cons_succ]
              refine wpAnyH_take (i := 7) (v := ?v272) rfl (by kernel_rfl) (by kernel_rfl) (by kernel_rfl) (fun _ _ _ h => h) (Or.inl ⟨by rfl, ?hy272⟩) (by assumption) ?rest272
              case hy272 => (intro wz hSw; (try dsimp only at hSw); first | (go_simp; done) | (go_simp; with_reducible rfl))
              try simp only [Act.put, List.getElem_toArray, List.getElem_cons_succ, List.getElem_cons_zero, List.setIfInBounds_toArray, List.set_cons_zero, List.set_cons_succ]
              refine wpAnyH_ready (rs := [8]) (by kernel_rfl) (by simp) ?_
              refine AllReadyH.cons (o := _) rfl (fun K hK => ?_) AllReadyH.nil
              go_simp
              refine ((WD.out _ (gb_trans GB.out G0.out))).mono ?_
              rintro e wh1 ⟨rfl, g⟩
              have G1 := Lib.hid (gb_trans G0.out g)
              clear g
              try dsimp only
              refine hK.out _ _ (KT.out _ G1.out) (fun hH1 => ?_)
              clear hK K hH0
              try simp only [Act.put, List.getElem_toArray, List.getElem_cons_succ, List.getElem_cons_zero, List.setIfInBounds_toArray, List.set_cons_zero, List.set_cons_succ]
              refine wpAnyH_ready (rs := [9]) (by kernel_rfl) (by simp) ?_
              refine AllReadyH.cons (o := _) rfl (fun K hK => ?_) AllReadyH.nil
              go_simp
              refine ((FT.out _)).mono ?_
              rintro e wh2 ⟨rfl, rfl⟩
              have g := gb_refl wh2 none
              have G2 := Lib.hid (gb_trans G1.out g)
              clear g
              try dsimp only
              refine hK.out _ _ (KT.out _ G2.out) (fun hH2 => ?_)
              clear hK K hH1
              try simp only [Act.put, List.getElem_toArray, List.getElem_cons_succ, List.getElem_cons_zero, List.setIfInBounds_toArray, List.set_cons_zero, List.set_cons_succ]
              refine wpAnyH_take (i := 10) (v := ?v273) rfl (by kernel_rfl) (by kernel_rfl) (by kernel_rfl) (fun _ _ _ h => h) (Or.inl ⟨by rfl, ?hy273⟩) (by assumption) ?rest273
              case hy273 => (intro wz hSw; (try dsimp only at hSw); first | (go_simp; done) | (go_simp; with_reducible rfl))
              try simp only [Act.put, List.getElem_toArray, List.getElem_cons_succ, List.getElem_cons_zero, List.setIfInBounds_toArray, List.set_cons_zero, List.set_cons_succ]
              refine wpAnyH_done (by kernel_rfl) ?_ _
              clear hH2
              go_wp2
              go_ret
              exact ⟨by rw [B9.out] <;> rfl, gb_trans GB.out G2.out⟩
          · have j1 : ¬ (j : Int) < tn := by omega
            obtain rfl : j = tn := by omega
            have TT := Lib.hid (show ftT H M L.T from fun a ha => T2.out a (by rw [HT.out.len] at ha; exact ha))
            have R5 := Lib.hid (R5.out FF.out TT.out)
            have R0 := Lib.hid (R0.out FF.out TT.out)
            have B1 := Lib.hid (B1.out.keep0 G2'.out)
            have B2 := Lib.hid (B2.out.keep0 G2'.out)
            have GB := Lib.hid (gb_trans GB.out G2'.out)
            have VF := Lib.hid (show vn = fn by
              obtain ⟨s1, s2, s3, s4⟩ := SP.out
              rw [← HV.out.len, ← HF.out.len]; omega)
            generalize wr = wC at *
            go_wp2
            clear x1 P1 P2 WDA SP R9 T1 T2
            go_loopw [8] (fun i wr => ∃ k : Nat, k ≤ fn ∧ i = .int .i64 k ∧ (∀ a, a < k → ∀ j, j < (L.F.getD a []).length → L.V.getD a false = true ∨ (L.F.getD a []).getD j 0 = 0) ∧ wC.grownBy wr none) (fun i _ => fn - (intOf i).toNat)
            case atStart => exact ⟨0, Nat.zero_le _, rfl, (fun i hi => absurd hi (Nat.not_lt_zero _)), gb_refl _ _⟩
            case round =>
              obtain ⟨k, hk, rfl, ht, hg⟩ := hrel
              have T1 := Lib.hid ht
              have G1 := Lib.hid hg
              clear ht hg
              have x1 := (B2.out.keep0 G1.out).cell 1
              dsimp at x1
              by_cases hlt : k < fn
              · have i1 : (k : Int) < fn := by omega
                have i0 : (0 : Int) ≤ (k : Int) := by omega
                have i2 : (k : Int) < vn := by have := VF.out; omega
                have hw : IntKind.i64.wrap ((k : Int) + 1) = ((k + 1 : Nat) : Int) := by have := ZF.out; rw [IntKind.wrap_i64]; omega
                obtain ⟨fd, rfl⟩ := HF.out.some (by omega)
                obtain ⟨vd, rfl⟩ := HV.out.some (by omega)
                have D3 := Lib.hid ((HV.out.keep0 (gb_trans GB.out G1.out)).cells vd rfl k (by omega))
                obtain ⟨ga, gn, gc, d1, su⟩ := (HF.out.keep0 (gb_trans GB.out G1.out)).cells fd rfl k hlt
                have SU1 := Lib.hid su
                have D1 := Lib.hid d1
                have LN := Lib.hid (show gn ≤ 100000 by rw [← su.len]; exact ZR.out k)
                clear su d1
                generalize wr = wA at *
                go_wp2
                clear x1
                go_loopw [9] (fun i wr => ∃ j : Nat, j ≤ gn ∧ i = .int .i64 j ∧ (∀ b, b < j → L.V.getD k false = true ∨ (L.F.getD k []).getD b 0 = 0) ∧ wA.grownBy wr none) (fun i _ => gn - (intOf i).toNat)
                case atStart => exact ⟨0, Nat.zero_le _, rfl, (fun i hi => absurd hi (Nat.not_lt_zero _)), gb_refl _ _⟩
                case round =>
                  obtain ⟨j, hj, rfl, ht, hg⟩ := hrel
                  have T2 := Lib.hid ht
                  have G2' := Lib.hid hg
                  clear ht hg
                  have GA := Lib.hid (gb_trans G1.out G2'.out)
                  have x1 := (B2.out.keep0 GA.out).cell 1
                  have x0 := (B2.out.keep0 GA.out).cell 0
                  dsimp at x0 x1
                  have e1 := G2'.out.cell D1.out (by simp)
                  have e3 := G2'.out.cell D3.out (by simp)
                  by_cases hlt2 : j < gn
                  · obtain ⟨gd, rfl⟩ := SU1.out.some (by omega)
                    have e2 := (SU1.out.keep0 G2'.out).cells gd rfl j hlt2
                    have j1 : (j : Int) < gn := by omega
                    have j0 : (0 : Int) ≤ (j : Int) := by omega
                    have hw2 : IntKind.i64.wrap ((j : Int) + 1) = ((j + 1 : Nat) : Int) := by have := LN.out; rw [IntKind.wrap_i64]; omega
                    have NX := Lib.hid (show (L.V.getD k false = true ∨ (L.F.getD k []).getD j 0 = 0) → ∀ b, b < j + 1 → L.V.getD k false = true ∨ (L.F.getD k []).getD b 0 = 0 from fun e a ha => by
                      rcases (show a < j ∨ a = j by omega) with q | rfl
                      · exact T2.out a q
                      · exact e)
                    have BD := Lib.hid (show ¬ (L.V.getD k false = true ∨ (L.F.getD k []).getD j 0 = 0) → r = 5 from fun e => R5.out fun q => e ((zr_iff L).1 q k (by rw [HF.out.len]; exact hlt) j (by rw [SU1.out.len]; exact hlt2)))
                    generalize L.V.getD k false = bv at *
                    generalize (L.F.getD k []).getD j 0 = x at *
                    cases bv with
                    | true =>
                      have N2 := Lib.hid (NX.out (.inl rfl))
                      go_wp2
                      go_roundw
                      case rel => exact ⟨j + 1, by omega, by first | rfl | (congr 1), (fun _ _ => by first | exact .inl trivial | exact .inl rfl), G2'.out⟩
                      case measure => simp [intOf]; omega
                    | false =>
                      by_cases hx : x = 0
                      · have N2 := Lib.hid (NX.out (.inr hx))
                        have z1 : (x != 0) = false := by rw [bne_eq_false_iff_eq]; exact hx
                        clear hx
                        go_wp2
                        go_roundw
                        case rel => exact ⟨j + 1, by omega, by first | rfl | (congr 1), N2.out, G2'.out⟩
                        case measure => simp [intOf]; omega
                      · have B5 := Lib.hid (BD.out (by rintro (q | q); cases q; exact hx q))
                        have z1 : (x != 0) = true := by rw [bne_iff_ne]; exact hx
                        clear hx
                        go_wp2
                        go_ret
                        exact ⟨by rw [B5.out] <;> rfl, gb_trans GB.out GA.out⟩
                  · have j1 : ¬ (j : Int) < gn := by omega
                    obtain rfl : j = gn := by omega
                    have N2 := Lib.hid (show ∀ a, a < k + 1 → ∀ j, j < (L.F.getD a []).length → L.V.getD a false = true ∨ (L.F.getD a []).getD j 0 = 0 from fun a ha b hb => by
                      rcases (show a < k ∨ a = k by omega) with q | rfl
                      · exact T1.out a q b hb
                      · exact T2.out b (by rw [SU1.out.len] at hb; exact hb))
                    go_wp2
                    go_roundw
                    case rel => exact ⟨k + 1, by omega, by first | rfl | (congr 1), N2.out, GA.out⟩
                    case measure => simp [intOf]; omega
              · have i1 : ¬ (k : Int) < fn := by omega
                obtain rfl : k = fn := by omega
                have E0 := Lib.hid (R0.out ((zr_iff L).2 fun a ha b hb => T1.out a (by rw [HF.out.len] at ha; exact ha) b hb))
                go_wp2
                go_ret
                exact ⟨by rw [E0.out] <;> rfl, gb_trans GB.out G1.out⟩
  · have RR := Lib.hid (show r = 2 by
      rcases HR.out with q | q | q | q
      · exact q.2
      · exact absurd q.1 hs
      · exact absurd q.1 hs
      · exact absurd q.1 hs)
    have S1 := Lib.hid (Q1.out false ⟨fun q => (by cases q), fun q => absurd q hs⟩)
    clear hs Q1 HR
    go_enter Try.func25, Try.ntmps25
    go_upto_region 1 with fail
    generalize (w.alloc (.cells #[nm, .slice ha hn hc, .slice ma mn mc, v3, v4, v5, v6, v7, v8] 31)).alloc (.cells #[.slice va vn vc, .slice fa fn fc, .slice ta tn tc, .slice pa pn pc] 42) = w2 at *
    obtain ⟨bx, hbx⟩ : ∃ b, b = w.heap.size := ⟨_, rfl⟩
    have Lbx := Lib.hid (show w.heap.size ≤ bx by rw [hbx]; exact Nat.le_refl _)
    rw [← hbx] at B1 B2 ⊢
    clear hbx
    have c0 := B1.out.cell 0
    have c1 := B1.out.cell 1
    have c2 := B1.out.cell 2
    have c3 := B1.out.cell 3
    have c4 := B1.out.cell 4
    have c5 := B1.out.cell 5
    have c6 := B1.out.cell 6
    have c7 := B1.out.cell 7
    have c8 := B1.out.cell 8
    dsimp at c0 c1 c2 c3 c4 c5 c6 c7 c8
    have x0 := B2.out.cell 0
    have x1 := B2.out.cell 1
    have x2 := B2.out.cell 2
    have x3 := B2.out.cell 3
    dsimp at x0 x1 x2 x3
    go_wp2_with (go_at_call 51; refine (S1.out _ GB.out).mono ?_; clear S1; rintro e w3 ⟨rfl, g⟩; have GB := Lib.hid (gb_trans GB.out g); clear g)
    go_ret
    exact ⟨by rw [RR.out] <;> rfl, GB.out⟩
end Go.Proofs.Ytjhknmklejkknaa
