/- Parser: the reference: state, Check; no condition. -/
import Derived.Test.YtjhknmklejkknaaPsF
import Derived.Deep.QuietTactic
import Derived.BigQuiet
import Derived.Deep.RegionWith
namespace Go.Proofs.Ytjhknmklejkknaa
open Go.RowKit
set_option linter.unusedVariables false
/-- What state answers. -/
def StC (H : List (ByteArray × List Fld)) (M : List Fld) (S : List Pst) (i : Nat) (a e : Int) : Prop := (declE H M S i ≠ 0 ∧ a = -1 ∧ e = declE H M S i) ∨ (declE H M S i = 0 ∧ TrC H M S i a e)
theorem stC_ex (H : List (ByteArray × List Fld)) (M : List Fld) (S : List Pst) (i : Nat) : ∃ a e, StC H M S i a e := by
  by_cases h : declE H M S i = 0
  · obtain ⟨a, e, q⟩ := trC_ex H M S i
    exact ⟨a, e, .inr ⟨h, q⟩⟩
  · exact ⟨-1, _, .inl ⟨h, rfl, rfl⟩⟩
theorem StC.ok {H : List (ByteArray × List Fld)} {M : List Fld} {S : List Pst} {i : Nat} {a e : Int} (h : StC H M S i a e) : e = 0 ↔ stOk H M S i := by
  constructor
  · intro he
    rcases h with ⟨d, _, q⟩ | ⟨d, t⟩
    · exact absurd (q.symm.trans he) d
    · exact ⟨d, t.ok.1 he⟩
  · intro ok
    rcases h with ⟨d, _, q⟩ | ⟨d, t⟩
    · exact absurd ok.1 d
    · exact t.ok.2 ok.2
theorem StC.one {H : List (ByteArray × List Fld)} {M : List Fld} {S : List Pst} {i : Nat} {a e a2 e2 : Int} (h : StC H M S i a e) (h2 : StC H M S i a2 e2) : a = a2 ∧ e = e2 := by
  rcases h with ⟨d, q, r⟩ | ⟨d, t⟩
  · rcases h2 with ⟨_, q2, r2⟩ | ⟨d2, _⟩
    · exact ⟨q.trans q2.symm, r.trans r2.symm⟩
    · exact absurd d2 d
  · rcases h2 with ⟨d2, _⟩ | ⟨_, t2⟩
    · exact absurd d d2
    · exact t.one t2
theorem dup_next (S : List Pst) (s0 : ByteArray) (j : Nat) (h : j < S.length) : ((S.take (j + 1)).any fun x => eqS x.nm s0) = (((S.take j).any fun x => eqS x.nm s0) || eqS (S.getD j psz).nm s0) := by
  rw [take_one S psz j h, List.any_append]; simp
theorem dup_yes (S : List Pst) (s0 : ByteArray) {j i : Nat} (h : j < i) (hl : j < S.length) (x : eqS (S.getD j psz).nm s0 = true) : ((S.take i).any fun x => eqS x.nm s0) = true := by
  refine List.any_eq_true.2 ⟨S.getD j psz, ?_, x⟩
  rw [List.mem_take_iff_getElem]
  exact ⟨j, by omega, by simp [hl]⟩
set_option maxRecDepth 100000 in
set_option maxHeartbeats 8000000 in
theorem rstate_any (w : World) (nm v3 v4 v5 v7 v8 : Value) (ha ma sa : Option Addr) (hn hc mn mc sn sc : Nat) (H : List (ByteArray × List Fld)) (M : List Fld) (S : List Pst) (hH : SH w ha hn hc H) (hM : SF w ma mn mc M) (hS : SPs w sa sn sc S) (hnz : ∀ i, (S.getD i psz).nm.size ≤ 9223372036854775807) (i : Nat) (hi : i < sn) (hsn : sn ≤ 12) (a e : Int) (hr : StC H M S i a e) :
    Calls Try.prog 47 #[.agg #[nm, .slice ha hn hc, .slice ma mn mc, v3, v4, v5, .slice sa sn sc, v7, v8], .int .i64 (i : Int)] w (RetV (.tuple #[.int .i64 a, .int .i64 e]) w) := by
  have LS := Lib.hid hS.len
  have NS := Lib.hid hsn
  have HS := Lib.hid hS
  obtain ⟨a2, e2, hc2⟩ := csC_ex H M S i
  obtain ⟨sd, rfl⟩ := hS.some (by omega)
  obtain ⟨z0, ⟨xa, xn, xc, z1, zx⟩, z2, z3, z4, ⟨ca, cn, cc, z5, zc⟩, z6⟩ := hS.cells sd rfl i hi
  have LC := Lib.hid zc.len
  have DX := Lib.hid (declE_X H M S i)
  rw [hH.len, zc.len, zx.len] at DX
  have DB := Lib.hid (fun (d : declE H M S i ≠ 0) => (show a = -1 ∧ e = declE H M S i by
    rcases hr with q | q
    · exact q.2
    · exact absurd q.1 d))
  have DG := Lib.hid (fun (d : declE H M S i = 0) => (show TrC H M S i a e by
    rcases hr with q | q
    · exact absurd d q.1
    · exact q.2))
  have LOW := Lib.hid (fun (d : declE H M S i = 0) (b : ∀ k, k < cn → caseE H M S i k = 0) (x : nxB S.length i (S.getD i psz).df = false) => (DG.out d).low (by rw [LC.out]; exact b) x)
  have GOOD := Lib.hid (fun (d : declE H M S i = 0) (b : ∀ k, k < cn → caseE H M S i k = 0) (x : nxB S.length i (S.getD i psz).df = true) => (DG.out d).good (by rw [LC.out]; exact b) x)
  rw [LS.out] at LOW GOOD
  have TRB := Lib.hid (fun (d : declE H M S i = 0) (x : e2 ≠ 0) => (DG.out d).one (hc2.tr x))
  have ALL := Lib.hid (fun (x : e2 = 0) => (show ∀ k, k < cn → caseE H M S i k = 0 from fun k hk => hc2.all x k (by rw [LC.out]; exact hk)))
  have KC := Lib.hid (fun (W : World) (q : w.grownBy W none) (h8 : cn ≤ 8) => rcases_any W nm v3 v4 v5 v7 v8 ha ma (some sd) hn hc mn mc sn sc H M S (hH.keep0 q) (hM.keep0 q) (hS.keep0SPs q) i hi (by rw [LC.out]; omega) a2 e2 hc2)
  have KW := Lib.hid (fun (W : World) (q : w.grownBy W none) => rwid12_any W nm v3 v4 v5 (.slice (some sd) sn sc) v7 v8 ha ma hn hc mn mc H M (hH.keep0 q) (hM.keep0 q) (S.getD i psz).h (S.getD i psz).f)
  have KI := Lib.hid (fun (W : World) => risI_any W _ (hnz i))
  unfold RetG at KI
  unfold RetV at KC KW
  have DU : dupB S i = ((S.take i).any fun x => eqS x.nm (S.getD i psz).nm) := rfl
  rw [DU] at DX
  have SX := Lib.hid zx
  have CELL := Lib.hid (fun (W : World) (q : w.grownBy W none) (j : Nat) (hj : j < sn) => ((hS.keep0SPs q).cells sd rfl j hj).1)
  clear hr hc2 DU
  generalize hps : S.getD i psz = ps at *
  obtain ⟨s0, ex, sl, h9, f9, cs, df⟩ := ps
  dsimp only at z0 z1 z2 z3 z4 z5 z6 zx zc LC DX LOW GOOD KW KI SX
  generalize isI s0 = bi at *
  generalize widE H M h9 f9 = wd at *
  obtain ⟨bd, hbd⟩ : ∃ b, b = ((S.take i).any fun x => eqS x.nm s0) := ⟨_, rfl⟩
  have BD := Lib.hid hbd
  rw [← hbd] at DX
  obtain ⟨bh, hbh⟩ : ∃ b, b = exOk hn ex := ⟨_, rfl⟩
  have BH := Lib.hid hbh
  rw [← hbh] at DX
  clear hbd hbh
  have Z0 := Lib.hid (fun (W : World) (q : w.grownBy W none) => q.cell z0 (by simp))
  have Z1 := Lib.hid (fun (W : World) (q : w.grownBy W none) => q.cell z1 (by simp))
  have Z2 := Lib.hid (fun (W : World) (q : w.grownBy W none) => q.cell z2 (by simp))
  have Z3 := Lib.hid (fun (W : World) (q : w.grownBy W none) => q.cell z3 (by simp))
  have Z4 := Lib.hid (fun (W : World) (q : w.grownBy W none) => q.cell z4 (by simp))
  have Z5 := Lib.hid (fun (W : World) (q : w.grownBy W none) => q.cell z5 (by simp))
  have Z6 := Lib.hid (fun (W : World) (q : w.grownBy W none) => q.cell z6 (by simp))
  clear z0 z1 z2 z3 z4 z5 z6 zx zc hps
  have G1 := Lib.hid (gb_alloc w (.cells #[nm, .slice ha hn hc, .slice ma mn mc, v3, v4, v5, .slice (some sd) sn sc, v7, v8] 31) none)
  have B1 := IsB.new w 31 #[nm, .slice ha hn hc, .slice ma mn mc, v3, v4, v5, .slice (some sd) sn sc, v7, v8]
  replace B1 := Lib.hid B1
  clear hH hM hS hnz
  go_enter Try.func47, Try.ntmps47
  go_upto_region 1 with fail
  generalize w.alloc (.cells #[nm, .slice ha hn hc, .slice ma mn mc, v3, v4, v5, .slice (some sd) sn sc, v7, v8] 31) = w1 at *
  obtain ⟨bx, hbx⟩ : ∃ b, b = w.heap.size := ⟨_, rfl⟩
  have Lbx := Lib.hid (show w.heap.size ≤ bx by rw [hbx]; exact Nat.le_refl _)
  rw [← hbx] at B1 ⊢
  clear hbx
  have i1 : (i : Int) < sn := by omega
  have i0 : (0 : Int) ≤ (i : Int) := by omega
  have z0 := Z0.out _ G1.out
  have z1 := Z1.out _ G1.out
  have z2 := Z2.out _ G1.out
  have z3 := Z3.out _ G1.out
  have z4 := Z4.out _ G1.out
  have z5 := Z5.out _ G1.out
  have z6 := Z6.out _ G1.out
  have c0 := (B1.out.keep0 (gb_refl _ _)).cell 0
  have c1 := (B1.out.keep0 (gb_refl _ _)).cell 1
  have c2 := (B1.out.keep0 (gb_refl _ _)).cell 2
  have c3 := (B1.out.keep0 (gb_refl _ _)).cell 3
  have c4 := (B1.out.keep0 (gb_refl _ _)).cell 4
  have c5 := (B1.out.keep0 (gb_refl _ _)).cell 5
  have c6 := (B1.out.keep0 (gb_refl _ _)).cell 6
  have c7 := (B1.out.keep0 (gb_refl _ _)).cell 7
  have c8 := (B1.out.keep0 (gb_refl _ _)).cell 8
  dsimp at c0 c1 c2 c3 c4 c5 c6 c7 c8
  have GB := Lib.hid (gb_alloc w1 (.cells #[.string s0, .slice xa xn xc, .bool sl, .int .i64 h9, .int .i64 f9, .slice ca cn cc, .int .i64 df] 55) none)
  have B2 := Lib.hid (IsB.new w1 55 #[.string s0, .slice xa xn xc, .bool sl, .int .i64 h9, .int .i64 f9, .slice ca cn cc, .int .i64 df])
  go_upto_region 2 with fail
  replace B1 := Lib.hid (B1.out.keep0 GB.out)
  generalize w1.alloc (.cells #[.string s0, .slice xa xn xc, .bool sl, .int .i64 h9, .int .i64 f9, .slice ca cn cc, .int .i64 df] 55) = w2 at *
  generalize w1.heap.size = b7 at *
  have G2 := Lib.hid (gb_trans G1.out GB.out)
  clear z0 z1 z2 z3 z4 z5 z6 i1 i0 Z0 Z1 Z2 Z3 Z4 Z5 Z6
  clear c0 c1 c2 c3 c4 c5 c6 c7 c8
  have c0 := (B1.out.keep0 (gb_refl _ _)).cell 0
  have c1 := (B1.out.keep0 (gb_refl _ _)).cell 1
  have c2 := (B1.out.keep0 (gb_refl _ _)).cell 2
  have c3 := (B1.out.keep0 (gb_refl _ _)).cell 3
  have c4 := (B1.out.keep0 (gb_refl _ _)).cell 4
  have c5 := (B1.out.keep0 (gb_refl _ _)).cell 5
  have c6 := (B1.out.keep0 (gb_refl _ _)).cell 6
  have c7 := (B1.out.keep0 (gb_refl _ _)).cell 7
  have c8 := (B1.out.keep0 (gb_refl _ _)).cell 8
  dsimp at c0 c1 c2 c3 c4 c5 c6 c7 c8
  have x0 := (B2.out.keep0 (gb_refl _ _)).cell 0
  have x1 := (B2.out.keep0 (gb_refl _ _)).cell 1
  have x2 := (B2.out.keep0 (gb_refl _ _)).cell 2
  have x3 := (B2.out.keep0 (gb_refl _ _)).cell 3
  have x4 := (B2.out.keep0 (gb_refl _ _)).cell 4
  have x5 := (B2.out.keep0 (gb_refl _ _)).cell 5
  have x6 := (B2.out.keep0 (gb_refl _ _)).cell 6
  dsimp at x0 x1 x2 x3 x4 x5 x6
  go_wp2_with fail
  refine (KI.out _).mono ?_
  rintro e9 w3 ⟨rfl, g⟩
  have G3 := Lib.hid (gb_trans G2.out g)
  replace B1 := Lib.hid (B1.out.keep0 g)
  replace B2 := Lib.hid (B2.out.keep0 g)
  clear g KI GB
  clear c0 c1 c2 c3 c4 c5 c6 c7 c8 x0 x1 x2 x3 x4 x5 x6
  have c0 := (B1.out.keep0 (gb_refl _ _)).cell 0
  have c1 := (B1.out.keep0 (gb_refl _ _)).cell 1
  have c2 := (B1.out.keep0 (gb_refl _ _)).cell 2
  have c3 := (B1.out.keep0 (gb_refl _ _)).cell 3
  have c4 := (B1.out.keep0 (gb_refl _ _)).cell 4
  have c5 := (B1.out.keep0 (gb_refl _ _)).cell 5
  have c6 := (B1.out.keep0 (gb_refl _ _)).cell 6
  have c7 := (B1.out.keep0 (gb_refl _ _)).cell 7
  have c8 := (B1.out.keep0 (gb_refl _ _)).cell 8
  dsimp at c0 c1 c2 c3 c4 c5 c6 c7 c8
  have x0 := (B2.out.keep0 (gb_refl _ _)).cell 0
  have x1 := (B2.out.keep0 (gb_refl _ _)).cell 1
  have x2 := (B2.out.keep0 (gb_refl _ _)).cell 2
  have x3 := (B2.out.keep0 (gb_refl _ _)).cell 3
  have x4 := (B2.out.keep0 (gb_refl _ _)).cell 4
  have x5 := (B2.out.keep0 (gb_refl _ _)).cell 5
  have x6 := (B2.out.keep0 (gb_refl _ _)).cell 6
  dsimp at x0 x1 x2 x3 x4 x5 x6
  cases bi
  · have Z := Lib.hid (show declE H M S i = 6 by rw [DX.out]; simp [declX])
    have E := Lib.hid (DB.out (by rw [Z.out]; decide))
    go_wp2
    go_ret2
    exact ⟨ret_ii E.out.1.symm (by rw [E.out.2, Z.out]), G3.out⟩
  go_wp2
  clear c0 c1 c2 c3 c4 c5 c6 c7 c8 x0 x1 x2 x3 x4 x5 x6
  go_loopw [7] (fun i9 wr => ∃ j : Nat, j ≤ i ∧ i9 = .int .i64 j ∧ ((S.take j).any fun x => eqS x.nm s0) = false ∧ w3.grownBy wr none) (fun i9 _ => i - (intOf i9).toNat)
  case atStart => exact ⟨0, Nat.zero_le _, rfl, by simp, gb_refl _ _⟩
  case round =>
    obtain ⟨j, hj, rfl, ht, hg⟩ := hrel
    have HT := Lib.hid ht
    have HG := Lib.hid hg
    clear ht hg
    replace B1 := Lib.hid (B1.out.keep0 HG.out)
    replace B2 := Lib.hid (B2.out.keep0 HG.out)
    have c0 := (B1.out.keep0 (gb_refl _ _)).cell 0
    have c1 := (B1.out.keep0 (gb_refl _ _)).cell 1
    have c2 := (B1.out.keep0 (gb_refl _ _)).cell 2
    have c3 := (B1.out.keep0 (gb_refl _ _)).cell 3
    have c4 := (B1.out.keep0 (gb_refl _ _)).cell 4
    have c5 := (B1.out.keep0 (gb_refl _ _)).cell 5
    have c6 := (B1.out.keep0 (gb_refl _ _)).cell 6
    have c7 := (B1.out.keep0 (gb_refl _ _)).cell 7
    have c8 := (B1.out.keep0 (gb_refl _ _)).cell 8
    dsimp at c0 c1 c2 c3 c4 c5 c6 c7 c8
    have x0 := (B2.out.keep0 (gb_refl _ _)).cell 0
    have x1 := (B2.out.keep0 (gb_refl _ _)).cell 1
    have x2 := (B2.out.keep0 (gb_refl _ _)).cell 2
    have x3 := (B2.out.keep0 (gb_refl _ _)).cell 3
    have x4 := (B2.out.keep0 (gb_refl _ _)).cell 4
    have x5 := (B2.out.keep0 (gb_refl _ _)).cell 5
    have x6 := (B2.out.keep0 (gb_refl _ _)).cell 6
    dsimp at x0 x1 x2 x3 x4 x5 x6
    by_cases hlt : j < i
    · have j1 : (j : Int) < i := by omega
      have j0 : (0 : Int) ≤ (j : Int) := by omega
      have j2 : (j : Int) < sn := by omega
      have hw : IntKind.i64.wrap ((j : Int) + 1) = ((j + 1 : Nat) : Int) := by have := NS.out; rw [IntKind.wrap_i64]; omega
      have nj := CELL.out _ (gb_trans G3.out HG.out) j (by omega)
      have DN := Lib.hid (dup_next S s0 j (by rw [LS.out]; omega))
      have DY := Lib.hid (dup_yes S s0 hlt (by rw [LS.out]; omega))
      rw [← BD.out] at DY
      generalize (S.getD j psz).nm = s1 at *
      cases hq : eqS s1 s0
      · have q1 : (s1.toList == s0.toList) = false := hq
        have Z := Lib.hid (show ((S.take (j + 1)).any fun x => eqS x.nm s0) = false by rw [DN.out, HT.out, hq]; rfl)
        clear hq
        go_upto_region 7 with fail
        go_quiet (fail)
        go_wp2
        go_roundw
        case rel => exact ⟨j + 1, by omega, by go_num, Z.out, gb_dr HG.out⟩
        case measure => simp [intOf]; omega
      · have q1 : (s1.toList == s0.toList) = true := hq
        have BT := DY.out hq
        clear hq
        subst BT
        go_upto_region 7 with fail
        go_quiet (fail)
        have Z := Lib.hid (show declE H M S i = 7 by rw [DX.out]; simp [declX])
        have E := Lib.hid (DB.out (by rw [Z.out]; decide))
        go_wp2
        go_ret2
        exact ⟨ret_ii E.out.1.symm (by rw [E.out.2, Z.out]), gb_dr (gb_trans G3.out HG.out)⟩
    · have hji : j = i := by omega
      have j1 : ¬ (j : Int) < i := by omega
      obtain rfl : bd = false := by rw [BD.out, ← hji]; exact HT.out
      subst hji
      have GW := Lib.hid (gb_trans G3.out HG.out)
      clear HG HT BD G3
      by_cases h4 : 4 < xn
      · have i4 : decide ((4 : Int) < xn) = true := decide_eq_true (by omega)
        have Z := Lib.hid (show declE H M S j = 12 by rw [DX.out]; simp [declX, h4])
        have E := Lib.hid (DB.out (by rw [Z.out]; decide))
        go_wp2
        go_ret2
        exact ⟨ret_ii E.out.1.symm (by rw [E.out.2, Z.out]), GW.out⟩
      have i4 : decide ((4 : Int) < xn) = false := decide_eq_false (by omega)
      by_cases h8 : 8 < cn
      · have i8 : decide ((8 : Int) < cn) = true := decide_eq_true (by omega)
        have Z := Lib.hid (show declE H M S j = 12 by rw [DX.out]; simp [declX, h8])
        have E := Lib.hid (DB.out (by rw [Z.out]; decide))
        go_wp2
        go_ret2
        exact ⟨ret_ii E.out.1.symm (by rw [E.out.2, Z.out]), GW.out⟩
      have i8 : decide ((8 : Int) < cn) = false := decide_eq_false (by omega)
      go_wp2
      clear i4 i8 j1
      clear c0 c1 c2 c3 c4 c5 c6 c7 c8 x0 x1 x2 x3 x4 x5 x6
      go_loopw [8] (fun i9 wr2 => ∃ k : Nat, k ≤ xn ∧ i9 = .int .i64 k ∧ exOk hn (ex.take k) = true ∧ wr.grownBy wr2 none) (fun i9 _ => xn - (intOf i9).toNat)
      case atStart => exact ⟨0, Nat.zero_le _, rfl, rfl, gb_refl _ _⟩
      case round =>
        obtain ⟨k, hk, rfl, ht, hg⟩ := hrel
        have HT := Lib.hid ht
        have HG := Lib.hid (gb_trans GW.out hg)
        have HG0 := Lib.hid hg
        replace B1 := Lib.hid (B1.out.keep0 hg)
        replace B2 := Lib.hid (B2.out.keep0 hg)
        clear ht hg
        have c0 := (B1.out.keep0 (gb_refl _ _)).cell 0
        have c1 := (B1.out.keep0 (gb_refl _ _)).cell 1
        have c2 := (B1.out.keep0 (gb_refl _ _)).cell 2
        have c3 := (B1.out.keep0 (gb_refl _ _)).cell 3
        have c4 := (B1.out.keep0 (gb_refl _ _)).cell 4
        have c5 := (B1.out.keep0 (gb_refl _ _)).cell 5
        have c6 := (B1.out.keep0 (gb_refl _ _)).cell 6
        have c7 := (B1.out.keep0 (gb_refl _ _)).cell 7
        have c8 := (B1.out.keep0 (gb_refl _ _)).cell 8
        dsimp at c0 c1 c2 c3 c4 c5 c6 c7 c8
        have x0 := (B2.out.keep0 (gb_refl _ _)).cell 0
        have x1 := (B2.out.keep0 (gb_refl _ _)).cell 1
        have x2 := (B2.out.keep0 (gb_refl _ _)).cell 2
        have x3 := (B2.out.keep0 (gb_refl _ _)).cell 3
        have x4 := (B2.out.keep0 (gb_refl _ _)).cell 4
        have x5 := (B2.out.keep0 (gb_refl _ _)).cell 5
        have x6 := (B2.out.keep0 (gb_refl _ _)).cell 6
        dsimp at x0 x1 x2 x3 x4 x5 x6
        by_cases hlt : k < xn
        · have hl : k < ex.length := by rw [SX.out.len]; exact hlt
          obtain ⟨xd, hxd⟩ := SX.out.some (by omega)
          subst hxd
          have k1 : (k : Int) < xn := by omega
          have k0 : (0 : Int) ≤ (k : Int) := by omega
          have hw : IntKind.i64.wrap ((k : Int) + 1) = ((k + 1 : Nat) : Int) := by rw [IntKind.wrap_i64]; omega
          have d0 := (SX.out.keep0 HG.out).cells xd rfl k hlt
          have ST := Lib.hid (ex_take hn ex k hl)
          have XB := Lib.hid (ex_bad (n := hn) hl)
          rw [← BH.out] at XB
          generalize ex.getD k 0 = y at *
          clear hl
          by_cases hlow : y < 0
          · have dl : decide (y < 0) = true := decide_eq_true hlow
            obtain rfl : bh = false := XB.out ((isX_not y hn).2 (by omega))
            go_upto_region 14 with fail
            go_quiet (fail)
            have Z := Lib.hid (show declE H M S j = 8 by rw [DX.out]; simp [declX, h4, h8])
            have E := Lib.hid (DB.out (by rw [Z.out]; decide))
            go_wp2
            go_ret2
            exact ⟨ret_ii E.out.1.symm (by rw [E.out.2, Z.out]), gb_dr HG.out⟩
          have dl : decide (y < 0) = false := decide_eq_false hlow
          by_cases hhi : (hn : Int) ≤ y
          · have dh : decide ((hn : Int) ≤ y) = true := decide_eq_true hhi
            obtain rfl : bh = false := XB.out ((isX_not y hn).2 (by omega))
            go_upto_region 14 with fail
            go_quiet (fail)
            have Z := Lib.hid (show declE H M S j = 8 by rw [DX.out]; simp [declX, h4, h8])
            have E := Lib.hid (DB.out (by rw [Z.out]; decide))
            go_wp2
            go_ret2
            exact ⟨ret_ii E.out.1.symm (by rw [E.out.2, Z.out]), gb_dr HG.out⟩
          have dh : decide ((hn : Int) ≤ y) = false := decide_eq_false hhi
          have Z := Lib.hid (show exOk hn (ex.take (k + 1)) = true by rw [ST.out, HT.out, (isX_iff y hn).2 (by omega)]; rfl)
          go_upto_region 14 with fail
          go_quiet (fail)
          go_wp2
          go_roundw
          case rel => exact ⟨k + 1, by omega, by go_num, Z.out, gb_dr HG0.out⟩
          case measure => simp [intOf]; omega
        · have hke : k = xn := by omega
          have k1 : ¬ (k : Int) < xn := by omega
          obtain rfl : bh = true := by
            have q := HT.out
            rw [List.take_of_length_le (by rw [SX.out.len]; omega)] at q
            rw [BH.out]; exact q
          clear HT BH HG0 GW
          have CN8 := Lib.hid (show cn ≤ 8 by omega)
          cases sl
          · by_cases hc0 : 0 < cn
            · have i9 : decide ((0 : Int) < cn) = true := decide_eq_true (by omega)
              have Z := Lib.hid (show declE H M S j = 11 by rw [DX.out]; simp [declX, h4, h8, hc0])
              have E := Lib.hid (DB.out (by rw [Z.out]; decide))
              go_wp2
              go_ret2
              exact ⟨ret_ii E.out.1.symm (by rw [E.out.2, Z.out]), HG.out⟩
            · have q8 : decide ((0 : Int) < cn) = false := decide_eq_false (by omega)
              have DZ0 := Lib.hid (show declE H M S j = 0 by rw [DX.out]; simp [declX, h4, h8, hc0])
              go_wp2_with fail
              refine (KC.out _ HG.out CN8.out).mono ?_
              rintro e9 wB ⟨rfl, g⟩
              have GBB := Lib.hid (gb_trans HG.out g)
              replace B1 := Lib.hid (B1.out.keep0 g)
              replace B2 := Lib.hid (B2.out.keep0 g)
              clear g q8
              clear c0 c1 c2 c3 c4 c5 c6 c7 c8 x0 x1 x2 x3 x4 x5 x6
              have c0 := (B1.out.keep0 (gb_refl _ _)).cell 0
              have c1 := (B1.out.keep0 (gb_refl _ _)).cell 1
              have c2 := (B1.out.keep0 (gb_refl _ _)).cell 2
              have c3 := (B1.out.keep0 (gb_refl _ _)).cell 3
              have c4 := (B1.out.keep0 (gb_refl _ _)).cell 4
              have c5 := (B1.out.keep0 (gb_refl _ _)).cell 5
              have c6 := (B1.out.keep0 (gb_refl _ _)).cell 6
              have c7 := (B1.out.keep0 (gb_refl _ _)).cell 7
              have c8 := (B1.out.keep0 (gb_refl _ _)).cell 8
              dsimp at c0 c1 c2 c3 c4 c5 c6 c7 c8
              have x0 := (B2.out.keep0 (gb_refl _ _)).cell 0
              have x1 := (B2.out.keep0 (gb_refl _ _)).cell 1
              have x2 := (B2.out.keep0 (gb_refl _ _)).cell 2
              have x3 := (B2.out.keep0 (gb_refl _ _)).cell 3
              have x4 := (B2.out.keep0 (gb_refl _ _)).cell 4
              have x5 := (B2.out.keep0 (gb_refl _ _)).cell 5
              have x6 := (B2.out.keep0 (gb_refl _ _)).cell 6
              dsimp at x0 x1 x2 x3 x4 x5 x6
              by_cases he2 : e2 = 0
              case neg =>
                have q0 : (e2 != 0) = true := by simp [he2]
                have E := Lib.hid (TRB.out DZ0.out he2)
                clear he2
                go_wp2
                go_ret2
                exact ⟨ret_ii E.out.1.symm E.out.2.symm, GBB.out⟩
              have q0 : (e2 != 0) = false := by simp [he2]
              have AL := Lib.hid (ALL.out he2)
              have KN := Lib.hid (fun (W : World) => rnext_any W nm v3 v4 v5 v7 v8 ha ma (some sd) hn hc mn mc sn sc j df)
              have LW := Lib.hid (fun x => LOW.out DZ0.out AL.out x)
              have GD := Lib.hid (fun x => GOOD.out DZ0.out AL.out x)
              clear he2
              generalize nxB sn j df = b4 at *
              unfold RetV at KN
              go_wp2_with fail
              refine (KN.out _).mono ?_
              rintro e9 wC ⟨rfl, g⟩
              have GCC := Lib.hid (gb_trans GBB.out g)
              clear g
              cases b4
              · have E := Lib.hid (LW.out rfl)
                go_wp2
                go_ret2
                exact ⟨ret_ii E.out.1.symm E.out.2.symm, GCC.out⟩
              · have E := Lib.hid (GD.out rfl)
                go_wp2
                go_ret2
                exact ⟨ret_ii E.out.1.symm E.out.2.symm, GCC.out⟩
          · go_wp2_with fail
            refine (KW.out _ HG.out).mono ?_
            rintro e9 wA ⟨rfl, g⟩
            have GAA := Lib.hid (gb_trans HG.out g)
            replace B1 := Lib.hid (B1.out.keep0 g)
            replace B2 := Lib.hid (B2.out.keep0 g)
            clear g
            clear c0 c1 c2 c3 c4 c5 c6 c7 c8 x0 x1 x2 x3 x4 x5 x6
            have c0 := (B1.out.keep0 (gb_refl _ _)).cell 0
            have c1 := (B1.out.keep0 (gb_refl _ _)).cell 1
            have c2 := (B1.out.keep0 (gb_refl _ _)).cell 2
            have c3 := (B1.out.keep0 (gb_refl _ _)).cell 3
            have c4 := (B1.out.keep0 (gb_refl _ _)).cell 4
            have c5 := (B1.out.keep0 (gb_refl _ _)).cell 5
            have c6 := (B1.out.keep0 (gb_refl _ _)).cell 6
            have c7 := (B1.out.keep0 (gb_refl _ _)).cell 7
            have c8 := (B1.out.keep0 (gb_refl _ _)).cell 8
            dsimp at c0 c1 c2 c3 c4 c5 c6 c7 c8
            have x0 := (B2.out.keep0 (gb_refl _ _)).cell 0
            have x1 := (B2.out.keep0 (gb_refl _ _)).cell 1
            have x2 := (B2.out.keep0 (gb_refl _ _)).cell 2
            have x3 := (B2.out.keep0 (gb_refl _ _)).cell 3
            have x4 := (B2.out.keep0 (gb_refl _ _)).cell 4
            have x5 := (B2.out.keep0 (gb_refl _ _)).cell 5
            have x6 := (B2.out.keep0 (gb_refl _ _)).cell 6
            dsimp at x0 x1 x2 x3 x4 x5 x6
            by_cases hw : wd = 0
            · subst hw
              have Z := Lib.hid (show declE H M S j = 8 by rw [DX.out]; simp [declX, h4, h8])
              have E := Lib.hid (DB.out (by rw [Z.out]; decide))
              go_wp2
              go_ret2
              exact ⟨ret_ii E.out.1.symm (by rw [E.out.2, Z.out]), GAA.out⟩
            · have q8 : (wd == 0) = false := by simp [hw]
              have DZ0 := Lib.hid (show declE H M S j = 0 by rw [DX.out]; simp [declX, h4, h8, hw])
              go_wp2_with fail
              refine (KC.out _ GAA.out CN8.out).mono ?_
              rintro e9 wB ⟨rfl, g⟩
              have GBB := Lib.hid (gb_trans GAA.out g)
              replace B1 := Lib.hid (B1.out.keep0 g)
              replace B2 := Lib.hid (B2.out.keep0 g)
              clear g q8
              clear c0 c1 c2 c3 c4 c5 c6 c7 c8 x0 x1 x2 x3 x4 x5 x6
              have c0 := (B1.out.keep0 (gb_refl _ _)).cell 0
              have c1 := (B1.out.keep0 (gb_refl _ _)).cell 1
              have c2 := (B1.out.keep0 (gb_refl _ _)).cell 2
              have c3 := (B1.out.keep0 (gb_refl _ _)).cell 3
              have c4 := (B1.out.keep0 (gb_refl _ _)).cell 4
              have c5 := (B1.out.keep0 (gb_refl _ _)).cell 5
              have c6 := (B1.out.keep0 (gb_refl _ _)).cell 6
              have c7 := (B1.out.keep0 (gb_refl _ _)).cell 7
              have c8 := (B1.out.keep0 (gb_refl _ _)).cell 8
              dsimp at c0 c1 c2 c3 c4 c5 c6 c7 c8
              have x0 := (B2.out.keep0 (gb_refl _ _)).cell 0
              have x1 := (B2.out.keep0 (gb_refl _ _)).cell 1
              have x2 := (B2.out.keep0 (gb_refl _ _)).cell 2
              have x3 := (B2.out.keep0 (gb_refl _ _)).cell 3
              have x4 := (B2.out.keep0 (gb_refl _ _)).cell 4
              have x5 := (B2.out.keep0 (gb_refl _ _)).cell 5
              have x6 := (B2.out.keep0 (gb_refl _ _)).cell 6
              dsimp at x0 x1 x2 x3 x4 x5 x6
              by_cases he2 : e2 = 0
              case neg =>
                have q0 : (e2 != 0) = true := by simp [he2]
                have E := Lib.hid (TRB.out DZ0.out he2)
                clear he2
                go_wp2
                go_ret2
                exact ⟨ret_ii E.out.1.symm E.out.2.symm, GBB.out⟩
              have q0 : (e2 != 0) = false := by simp [he2]
              have AL := Lib.hid (ALL.out he2)
              have KN := Lib.hid (fun (W : World) => rnext_any W nm v3 v4 v5 v7 v8 ha ma (some sd) hn hc mn mc sn sc j df)
              have LW := Lib.hid (fun x => LOW.out DZ0.out AL.out x)
              have GD := Lib.hid (fun x => GOOD.out DZ0.out AL.out x)
              clear he2
              generalize nxB sn j df = b4 at *
              unfold RetV at KN
              go_wp2_with fail
              refine (KN.out _).mono ?_
              rintro e9 wC ⟨rfl, g⟩
              have GCC := Lib.hid (gb_trans GBB.out g)
              clear g
              cases b4
              · have E := Lib.hid (LW.out rfl)
                go_wp2
                go_ret2
                exact ⟨ret_ii E.out.1.symm E.out.2.symm, GCC.out⟩
              · have E := Lib.hid (GD.out rfl)
                go_wp2
                go_ret2
                exact ⟨ret_ii E.out.1.symm E.out.2.symm, GCC.out⟩
end Go.Proofs.Ytjhknmklejkknaa
