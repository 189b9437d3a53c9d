/- Parser: the program: checkCase, checkTransitions; no condition. -/
import Derived.Test.YtjhknmklejkknaaPsB
import Derived.Test.YtjhknmklejkknaaEvQ
import Derived.BigQuiet
import Derived.Deep.RegionHeld
namespace Go.Proofs.Ytjhknmklejkknaa
open Go.RowKit
set_option linter.unusedVariables false
/-- What checkCase answers. -/
def caseX (H : List (ByteArray × List Fld)) (M : List Fld) (n i : Nat) (h f : Int) (c : Cse) : Int :=
  if ¬ (c.v < 2 ^ (widE H M h f).toNat ∧ c.m < 2 ^ (widE H M h f).toNat) then 9
  else if (bits .andNot .u32 c.v c.m == 0) = false then 5
  else if nxB n i c.nx = false then 14 else 0
theorem caseE_X (H : List (ByteArray × List Fld)) (M : List Fld) (S : List Pst) (i j : Nat) : caseE H M S i j = caseX H M S.length i (S.getD i psz).h (S.getD i psz).f ((S.getD i psz).cs.getD j csz) := rfl
set_option maxRecDepth 100000 in
set_option maxHeartbeats 8000000 in
theorem pcase_any (w : World) (nm v3 v4 v5 v7 v8 : Value) (ha ma sa : Option Addr) (hn hc mn mc sn sc : Nat) (H : List (ByteArray × List Fld)) (M : List Fld) (S : List Pst) (hH : SH w ha hn hc H) (hM : SF w ma mn mc M) (hS : SPs w sa sn sc S) (i : Nat) (hi : i < sn) (cv cm cn : Int) (hv : 0 ≤ cv) (hm : 0 ≤ cm) (r : Int) (hr : r = caseX H M sn i (S.getD i psz).h (S.getD i psz).f ⟨cv, cm, cn⟩) :
    Calls Try.prog 72 #[.agg #[nm, .slice ha hn hc, .slice ma mn mc, v3, v4, v5, .slice sa sn sc, v7, v8], .int .i64 (i : Int), .agg #[.int .u32 cv, .int .u32 cm, .int .i64 cn]] w (RetV (.int .i64 r) w) := by
  obtain ⟨sd, rfl⟩ := hS.some (by omega)
  have SC := Lib.hid (hS.cells sd rfl i hi)
  have D34 := Lib.hid (fun (W : World) (q : w.grownBy W none) => let z := CPs.keep SC.out q; (⟨z.2.2.2.1, z.2.2.2.2.1⟩ : W.cell? ⟨(sd.add (i * 7)).block, (sd.add (i * 7)).off + 3, none⟩ = some (.int .i64 (S.getD i psz).h) ∧ W.cell? ⟨(sd.add (i * 7)).block, (sd.add (i * 7)).off + 4, none⟩ = some (.int .i64 (S.getD i psz).f)))
  clear SC
  generalize (S.getD i psz).h = h9 at *
  generalize (S.getD i psz).f = f9 at *
  have KW := Lib.hid (fun (W : World) (q : w.grownBy W none) => ewid_any W nm v3 v4 v5 (.slice (some sd) sn sc) v7 v8 ha ma hn hc mn mc H M (hH.keep0 q) (hM.keep0 q) h9 f9)
  obtain ⟨k, hk, k32⟩ : ∃ k : Nat, widE H M h9 f9 = (k : Int) ∧ k ≤ 32 := ⟨(widE H M h9 f9).toNat, by have := wid_rng H M h9 f9; omega, by have := wid_rng H M h9 f9; omega⟩
  rw [hk] at KW
  unfold caseX at hr
  rw [hk, Int.toNat_natCast] at hr
  dsimp only at hr
  unfold RetV at KW
  have HR := Lib.hid hr
  have HV := Lib.hid hv
  have HM := Lib.hid hm
  have K32 := Lib.hid k32
  have G1 := Lib.hid (gb_trans (gb_alloc w (.cells #[nm, .slice ha hn hc, .slice ma mn mc, v3, v4, v5, .slice (some sd) sn sc, v7, v8] 31) none) (gb_alloc _ (.cells #[.int .u32 cv, .int .u32 cm, .int .i64 cn] 114) none))
  have B1 := (IsB.new w 31 #[nm, .slice ha hn hc, .slice ma mn mc, v3, v4, v5, .slice (some sd) sn sc, v7, v8]).alloc (.cells #[.int .u32 cv, .int .u32 cm, .int .i64 cn] 114)
  have B2 := IsB.new (w.alloc (.cells #[nm, .slice ha hn hc, .slice ma mn mc, v3, v4, v5, .slice (some sd) sn sc, v7, v8] 31)) 114 #[.int .u32 cv, .int .u32 cm, .int .i64 cn]
  simp only [sz_al] at B2
  replace B1 := Lib.hid B1
  replace B2 := Lib.hid B2
  clear hH hM hS hr hk hv hm k32
  go_enter Try.func72, Try.ntmps72
  go_upto_region 1 with fail
  generalize (w.alloc (.cells #[nm, .slice ha hn hc, .slice ma mn mc, v3, v4, v5, .slice (some sd) sn sc, v7, v8] 31)).alloc (.cells #[.int .u32 cv, .int .u32 cm, .int .i64 cn] 114) = w1 at *
  obtain ⟨bx, hbx⟩ : ∃ b, b = w.heap.size := ⟨_, rfl⟩
  have Lbx := Lib.hid (show w.heap.size ≤ bx by rw [hbx]; exact Nat.le_refl _)
  rw [← hbx] at B1 B2 ⊢
  clear hbx
  have D34' := Lib.hid (fun (W : World) (q : w1.grownBy W none) => D34.out W (gb_trans G1.out q))
  replace D34 := D34'
  clear D34'
  have i1 : (i : Int) < sn := by omega
  have i0 : (0 : Int) ≤ (i : Int) := by omega
  have KR := Lib.hid (fun (w' : World) (q0 : w1.grownBy w' none) => (⟨(B1.out.keep0 q0).cell 0, (B1.out.keep0 q0).cell 1, (B1.out.keep0 q0).cell 2, (B1.out.keep0 q0).cell 3, (B1.out.keep0 q0).cell 4, (B1.out.keep0 q0).cell 5, (B1.out.keep0 q0).cell 6, (B1.out.keep0 q0).cell 7, (B1.out.keep0 q0).cell 8, (D34.out _ q0).1, (D34.out _ q0).2, q0⟩ : (fun w' : World => w'.cell? ⟨bx, 0, none⟩ = some (nm) ∧ w'.cell? ⟨bx, 1, none⟩ = some (.slice ha hn hc) ∧ w'.cell? ⟨bx, 2, none⟩ = some (.slice ma mn mc) ∧ w'.cell? ⟨bx, 3, none⟩ = some (v3) ∧ w'.cell? ⟨bx, 4, none⟩ = some (v4) ∧ w'.cell? ⟨bx, 5, none⟩ = some (v5) ∧ w'.cell? ⟨bx, 6, none⟩ = some (.slice (some sd) sn sc) ∧ w'.cell? ⟨bx, 7, none⟩ = some (v7) ∧ w'.cell? ⟨bx, 8, none⟩ = some (v8) ∧ w'.cell? ⟨(sd.add (i * 7)).block, (sd.add (i * 7)).off + 3, none⟩ = some (.int .i64 h9) ∧ w'.cell? ⟨(sd.add (i * 7)).block, (sd.add (i * 7)).off + 4, none⟩ = some (.int .i64 f9) ∧ w1.grownBy w' none) w'))
  have R0 := Lib.hid (gb_drew w1 none)
  refine wp_region_held_drew (S := (fun w' : World => w'.cell? ⟨bx, 0, none⟩ = some (nm) ∧ w'.cell? ⟨bx, 1, none⟩ = some (.slice ha hn hc) ∧ w'.cell? ⟨bx, 2, none⟩ = some (.slice ma mn mc) ∧ w'.cell? ⟨bx, 3, none⟩ = some (v3) ∧ w'.cell? ⟨bx, 4, none⟩ = some (v4) ∧ w'.cell? ⟨bx, 5, none⟩ = some (v5) ∧ w'.cell? ⟨bx, 6, none⟩ = some (.slice (some sd) sn sc) ∧ w'.cell? ⟨bx, 7, none⟩ = some (v7) ∧ w'.cell? ⟨bx, 8, none⟩ = some (v8) ∧ w'.cell? ⟨(sd.add (i * 7)).block, (sd.add (i * 7)).off + 3, none⟩ = some (.int .i64 h9) ∧ w'.cell? ⟨(sd.add (i * 7)).block, (sd.add (i * 7)).off + 4, none⟩ = some (.int .i64 f9) ∧ w1.grownBy w' none)) (by kernel_rfl) (KR.out _ R0.out) (fun hH0 => ?_)
  refine wpAnyH_take (i := 0) (v := ?v1) rfl (by kernel_rfl) (by kernel_rfl) (by kernel_rfl) (fun _ _ _ h => h) (Or.inl ⟨by rfl, ?hy1⟩) (by assumption) ?rest1
  case hy1 => (intro wz hSw; (try dsimp only at hSw); first | (go_simp; done) | (go_simp; with_reducible rfl))
  try simp only [Act.put, List.getElem_toArray, List.getElem_cons_zero, List.setIfInBounds_toArray, List.set_cons_zero, List.set_cons_succ]
  refine wpAnyH_take (i := 1) (v := ?v2) rfl (by kernel_rfl) (by kernel_rfl) (by kernel_rfl) (fun _ _ _ h => h) (Or.inl ⟨by rfl, ?hy2⟩) (by assumption) ?rest2
  case hy2 => (intro wz hSw; (try dsimp only at hSw); first | (go_simp; done) | (go_simp; with_reducible rfl))
  try simp only [Act.put, List.getElem_toArray, List.getElem_cons_succ, List.getElem_cons_zero, List.setIfInBounds_toArray, List.set_cons_zero, List.set_cons_succ]
  refine wpAnyH_take (i := 2) (v := ?v3) rfl (by kernel_rfl) (by kernel_rfl) (by kernel_rfl) (fun _ _ _ h => h) (Or.inl ⟨by rfl, ?hy3⟩) (by assumption) ?rest3
  case hy3 => (intro wz hSw; (try dsimp only at hSw); first | (go_simp; done) | (go_simp; with_reducible rfl))
  try simp only [Act.put, List.getElem_toArray, List.getElem_cons_succ, List.getElem_cons_zero, List.setIfInBounds_toArray, List.set_cons_zero, List.set_cons_succ]
  refine wpAnyH_take (i := 3) (v := ?v4) rfl (by kernel_rfl) (by kernel_rfl) (by kernel_rfl) (fun _ _ _ h => h) (Or.inl ⟨by rfl, ?hy4⟩) (by assumption) ?rest4
  case hy4 => (intro wz hSw; (try dsimp only at hSw); first | (go_simp; done) | (go_simp; with_reducible rfl))
  try simp only [Act.put, List.getElem_toArray, List.getElem_cons_succ, List.getElem_cons_zero, List.setIfInBounds_toArray, List.set_cons_zero, List.set_cons_succ]
  refine wpAnyH_take (i := 4) (v := ?v5) rfl (by kernel_rfl) (by kernel_rfl) (by kernel_rfl) (fun _ _ _ h => h) (Or.inl ⟨by rfl, ?hy5⟩) (by assumption) ?rest5
  case hy5 => (intro wz hSw; (try dsimp only at hSw); first | (go_simp; done) | (go_simp; with_reducible rfl))
  try simp only [Act.put, List.getElem_toArray, List.getElem_cons_succ, List.getElem_cons_zero, List.setIfInBounds_toArray, List.set_cons_zero, List.set_cons_succ]
  refine wpAnyH_take (i := 5) (v := ?v6) rfl (by kernel_rfl) (by kernel_rfl) (by kernel_rfl) (fun _ _ _ h => h) (Or.inl ⟨by rfl, ?hy6⟩) (by assumption) ?rest6
  case hy6 => (intro wz hSw; (try dsimp only at hSw); first | (go_simp; done) | (go_simp; with_reducible rfl))
  try simp only [Act.put, List.getElem_toArray, List.getElem_cons_succ, List.getElem_cons_zero, List.setIfInBounds_toArray, List.set_cons_zero, List.set_cons_succ]
  refine wpAnyH_take (i := 6) (v := ?v7) rfl (by kernel_rfl) (by kernel_rfl) (by kernel_rfl) (fun _ _ _ h => h) (Or.inl ⟨by rfl, ?hy7⟩) (by assumption) ?rest7
  case hy7 => (intro wz hSw; (try dsimp only at hSw); first | (go_simp; done) | (go_simp; with_reducible rfl))
  try simp only [Act.put, List.getElem_toArray, List.getElem_cons_succ, List.getElem_cons_zero, List.setIfInBounds_toArray, List.set_cons_zero, List.set_cons_succ]
  refine wpAnyH_ready (rs := [7]) (by kernel_rfl) (by simp) ?_
  refine AllReadyH.cons (o := _) rfl (fun K hK => ?_) AllReadyH.nil
  go_simp
  (with_reducible refine (KW.out _ (gb_trans G1.out R0.out)).mono ?_)
  rintro e rw1 ⟨rfl, g⟩
  have R1 := Lib.hid (gb_trans R0.out g)
  clear g
  try dsimp only
  refine hK.out _ _ (KR.out _ R1.out) (fun hH1 => ?_)
  clear hK K hH0
  try simp only [Act.put, List.getElem_toArray, List.getElem_cons_succ, List.getElem_cons_zero, List.setIfInBounds_toArray, List.set_cons_zero, List.set_cons_succ]
  refine wpAnyH_take (i := 8) (v := ?v8) rfl (by kernel_rfl) (by kernel_rfl) (by kernel_rfl) (fun _ _ _ h => h) (Or.inl ⟨by rfl, ?hy8⟩) (by assumption) ?rest8
  case hy8 => (intro wz hSw; (try dsimp only at hSw); first | (go_simp; done) | (go_simp; with_reducible rfl))
  try simp only [Act.put, List.getElem_toArray, List.getElem_cons_succ, List.getElem_cons_zero, List.setIfInBounds_toArray, List.set_cons_zero, List.set_cons_succ]
  refine wpAnyH_done (by kernel_rfl) ?_ _
  clear hH1
  have GA := Lib.hid (gb_trans G1.out R1.out)
  have B2' := Lib.hid (B2.out.keep0 R1.out)
  have e0 := B2'.out.cell 0
  have e1 := B2'.out.cell 1
  have e2 := B2'.out.cell 2
  dsimp at e0 e1 e2
  have c0 := (B1.out.keep0 R1.out).cell 0
  have c1 := (B1.out.keep0 R1.out).cell 1
  have c2 := (B1.out.keep0 R1.out).cell 2
  have c3 := (B1.out.keep0 R1.out).cell 3
  have c4 := (B1.out.keep0 R1.out).cell 4
  have c5 := (B1.out.keep0 R1.out).cell 5
  have c6 := (B1.out.keep0 R1.out).cell 6
  have c7 := (B1.out.keep0 R1.out).cell 7
  have c8 := (B1.out.keep0 R1.out).cell 8
  dsimp at c0 c1 c2 c3 c4 c5 c6 c7 c8
  clear KW D34 i1 i0
  cases h1 : decide (cv < 2 ^ k)
  · have Z := Lib.hid (show r = 9 by rw [HR.out, if_pos (fun q => by have := decide_eq_true q.1; rw [h1] at this; cases this)])
    go_wp2_with fail
    refine (pfits_any _ cv k HV.out K32.out false h1).mono ?_
    rintro e9 w2 ⟨rfl, hw2⟩
    obtain rfl := hw2.symm
    go_wp2
    go_ret
    exact ⟨by rw [Z.out] <;> rfl, GA.out⟩
  cases h2 : decide (cm < 2 ^ k)
  · have Z := Lib.hid (show r = 9 by rw [HR.out, if_pos (fun q => by have := decide_eq_true q.2; rw [h2] at this; cases this)])
    go_wp2_with fail
    refine (pfits_any _ cv k HV.out K32.out true h1).mono ?_
    rintro e9 w2 ⟨rfl, hw2⟩
    obtain rfl := hw2.symm
    go_wp2_with fail
    refine (pfits_any _ cm k HM.out K32.out false h2).mono ?_
    rintro e9 w2 ⟨rfl, hw2⟩
    obtain rfl := hw2.symm
    go_wp2
    go_ret
    exact ⟨by rw [Z.out] <;> rfl, GA.out⟩
  have HR2 := Lib.hid (show r = if (bits .andNot .u32 cv cm == 0) = false then 5 else if nxB sn i cn = false then 14 else 0 by rw [HR.out, if_neg (fun q => q ⟨of_decide_eq_true h1, of_decide_eq_true h2⟩)])
  clear HR
  cases h3 : (bits .andNot .u32 cv cm == 0)
  · have q3 : (bits .andNot .u32 cv cm != 0) = true := by simp only [bne, h3]; rfl
    have Z := Lib.hid (show r = 5 by rw [HR2.out, if_pos h3])
    clear h3
    go_wp2_with fail
    refine (pfits_any _ cv k HV.out K32.out true h1).mono ?_
    rintro e9 w2 ⟨rfl, hw2⟩
    obtain rfl := hw2.symm
    go_wp2_with fail
    refine (pfits_any _ cm k HM.out K32.out true h2).mono ?_
    rintro e9 w2 ⟨rfl, hw2⟩
    obtain rfl := hw2.symm
    go_wp2
    go_ret
    exact ⟨by rw [Z.out] <;> rfl, GA.out⟩
  have q3 : (bits .andNot .u32 cv cm != 0) = false := by simp only [bne, h3]; rfl
  rw [h3, if_neg (by decide)] at HR2
  clear h3
  have KN := Lib.hid (fun (W : World) => pnext_any W nm v3 v4 v5 v7 v8 ha ma (some sd) hn hc mn mc sn sc i cn)
  generalize nxB sn i cn = b4 at *
  unfold RetV at KN
  go_wp2_with fail
  refine (pfits_any _ cv k HV.out K32.out true h1).mono ?_
  rintro e9 w2 ⟨rfl, hw2⟩
  obtain rfl := hw2.symm
  go_wp2_with fail
  refine (pfits_any _ cm k HM.out K32.out true h2).mono ?_
  rintro e9 w2 ⟨rfl, hw2⟩
  obtain rfl := hw2.symm
  go_wp2_with fail
  refine (KN.out _).mono ?_
  rintro e9 w3 ⟨rfl, g⟩
  have GB := Lib.hid (gb_trans GA.out g)
  clear g
  cases b4
  · have Z := Lib.hid (show r = 14 by rw [HR2.out, if_pos rfl])
    go_wp2
    go_ret
    exact ⟨by rw [Z.out] <;> rfl, GB.out⟩
  · have Z := Lib.hid (show r = 0 by rw [HR2.out, if_neg (by decide)])
    go_wp2
    go_ret
    exact ⟨by rw [Z.out] <;> rfl, GB.out⟩
set_option maxRecDepth 100000 in
set_option maxHeartbeats 8000000 in
theorem ptrans_any (w : World) (nm v3 v4 v5 v7 v8 : Value) (ha ma sa : Option Addr) (hn hc mn mc sn sc : Nat) (H : List (ByteArray × List Fld)) (M : List Fld) (S : List Pst) (hH : SH w ha hn hc H) (hM : SF w ma mn mc M) (hS : SPs w sa sn sc S) (i : Nat) (hi : i < sn) (hcs : (S.getD i psz).cs.length ≤ 100000) (a e : Int) (hr : TrC H M S i a e) :
    Calls Try.prog 46 #[.agg #[nm, .slice ha hn hc, .slice ma mn mc, v3, v4, v5, .slice sa sn sc, v7, v8], .int .i64 (i : Int)] w (RetV (.tuple #[.int .i64 a, .int .i64 e]) w) := by
  have LS := Lib.hid hS.len
  have HR := Lib.hid hr
  have KC := Lib.hid (fun (W : World) (q : w.grownBy W none) (cv cm cn : Int) (hv : 0 ≤ cv) (hm : 0 ≤ cm) => pcase_any W nm v3 v4 v5 v7 v8 ha ma sa hn hc mn mc sn sc H M S (hH.keep0 q) (hM.keep0 q) (hS.keep0SPs q) i hi cv cm cn hv hm _ rfl)
  unfold RetV at KC
  obtain ⟨sd, rfl⟩ := hS.some (by omega)
  have SC := hS.cells sd rfl i hi
  obtain ⟨z0, z1, z2, z3, z4, ⟨ca, cn, cc, z5, zc⟩, z6⟩ := SC
  have LC := Lib.hid zc.len
  have HC := Lib.hid zc
  have D56 := Lib.hid (fun (W : World) (q : w.grownBy W none) => (⟨q.cell z5 (by simp), q.cell z6 (by simp)⟩ : W.cell? ⟨(sd.add (i * 7)).block, (sd.add (i * 7)).off + 5, none⟩ = some (.slice ca cn cc) ∧ W.cell? ⟨(sd.add (i * 7)).block, (sd.add (i * 7)).off + 6, none⟩ = some (.int .i64 (S.getD i psz).df)))
  have CN := Lib.hid (show cn ≤ 100000 by have := zc.len; omega)
  clear z0 z1 z2 z3 z4 z5 z6 zc
  have G1 := Lib.hid (gb_alloc w (.cells #[nm, .slice ha hn hc, .slice ma mn mc, v3, v4, v5, .slice (some sd) sn sc, v7, v8] 31) none)
  have B1 := IsB.new w 31 #[nm, .slice ha hn hc, .slice ma mn mc, v3, v4, v5, .slice (some sd) sn sc, v7, v8]
  replace B1 := Lib.hid B1
  clear hH hM hS hr hcs
  go_enter Try.func46, Try.ntmps46
  go_upto_region 1 with fail
  generalize w.alloc (.cells #[nm, .slice ha hn hc, .slice ma mn mc, v3, v4, v5, .slice (some sd) sn sc, v7, v8] 31) = w1 at *
  obtain ⟨bx, hbx⟩ : ∃ b, b = w.heap.size := ⟨_, rfl⟩
  have Lbx := Lib.hid (show w.heap.size ≤ bx by rw [hbx]; exact Nat.le_refl _)
  rw [← hbx] at B1 ⊢
  clear hbx
  have i1 : (i : Int) < sn := by omega
  have i0 : (0 : Int) ≤ (i : Int) := by omega
  have d5 := (D56.out _ G1.out).1
  have c0 := (B1.out.keep0 (gb_refl _ _)).cell 0
  have c1 := (B1.out.keep0 (gb_refl _ _)).cell 1
  have c2 := (B1.out.keep0 (gb_refl _ _)).cell 2
  have c3 := (B1.out.keep0 (gb_refl _ _)).cell 3
  have c4 := (B1.out.keep0 (gb_refl _ _)).cell 4
  have c5 := (B1.out.keep0 (gb_refl _ _)).cell 5
  have c6 := (B1.out.keep0 (gb_refl _ _)).cell 6
  have c7 := (B1.out.keep0 (gb_refl _ _)).cell 7
  have c8 := (B1.out.keep0 (gb_refl _ _)).cell 8
  dsimp at c0 c1 c2 c3 c4 c5 c6 c7 c8
  go_wp2
  clear c0 c1 c2 c3 c4 c5 c6 c7 c8
  go_loopw [16] (fun i9 wr => ∃ j : Nat, j ≤ cn ∧ i9 = .int .i64 j ∧ (∀ x, x < j → caseE H M S i x = 0) ∧ w1.grownBy wr none) (fun i9 _ => cn - (intOf i9).toNat)
  case atStart => exact ⟨0, Nat.zero_le _, rfl, fun x hx => absurd hx (Nat.not_lt_zero _), gb_refl _ _⟩
  case round =>
    obtain ⟨j, hj, rfl, ht, hg⟩ := hrel
    have HT := Lib.hid ht
    have HG := Lib.hid hg
    clear ht hg d5
    by_cases hlt : j < cn
    · obtain ⟨cd, hcd⟩ := HC.out.some (by omega)
      subst hcd
      obtain ⟨⟨y0, y1, y2⟩, ⟨y3, y4, y5⟩, y6⟩ := (HC.out.keep0SCa (gb_trans G1.out HG.out)).cells cd rfl j hlt
      have j1 : (j : Int) < cn := by omega
      have j0 : (0 : Int) ≤ (j : Int) := by omega
      have hw : IntKind.i64.wrap ((j : Int) + 1) = ((j + 1 : Nat) : Int) := by have := CN.out; rw [IntKind.wrap_i64]; omega
      have CJ := Lib.hid (caseE_X H M S i j)
      rw [LS.out] at CJ
      generalize (S.getD i psz).cs.getD j csz = c9 at *
      obtain ⟨xv, xm, xn⟩ := c9
      dsimp only at y0 y1 y2 y3 y4 y5 y6
      have KJ := Lib.hid (fun (W : World) (q : w.grownBy W none) => KC.out W q xv xm xn y1 y4)
      rw [← CJ.out] at KJ
      have BAD := Lib.hid (fun x => HR.out.bad (j := j) (by rw [LC.out]; exact hlt) HT.out x)
      have NX := Lib.hid (show caseE H M S i j = 0 → ∀ x, x < j + 1 → caseE H M S i x = 0 from fun q x hx => by
        rcases (show x < j ∨ x = j by omega) with r | rfl
        · exact HT.out x r
        · exact q)
      generalize caseE H M S i j = r9 at *
      have GB := Lib.hid (gb_alloc wr (.cells #[.int .u32 xv, .int .u32 xm, .int .i64 xn] 114) none)
      have B2 := Lib.hid (IsB.new wr 114 #[.int .u32 xv, .int .u32 xm, .int .i64 xn])
      clear CJ y1 y2 y4 y5
      go_upto_region 4 with fail
      generalize wr.alloc (.cells #[.int .u32 xv, .int .u32 xm, .int .i64 xn] 114) = w5 at *
      generalize wr.heap.size = b7 at *
      have G5 := Lib.hid (gb_trans HG.out GB.out)
      clear GB y0 y3 y6
      have c0 := (B1.out.keep0 G5.out).cell 0
      have c1 := (B1.out.keep0 G5.out).cell 1
      have c2 := (B1.out.keep0 G5.out).cell 2
      have c3 := (B1.out.keep0 G5.out).cell 3
      have c4 := (B1.out.keep0 G5.out).cell 4
      have c5 := (B1.out.keep0 G5.out).cell 5
      have c6 := (B1.out.keep0 G5.out).cell 6
      have c7 := (B1.out.keep0 G5.out).cell 7
      have c8 := (B1.out.keep0 G5.out).cell 8
      dsimp at c0 c1 c2 c3 c4 c5 c6 c7 c8
      have x0 := (B2.out.keep0 (gb_refl _ _)).cell 0
      have x1 := (B2.out.keep0 (gb_refl _ _)).cell 1
      have x2 := (B2.out.keep0 (gb_refl _ _)).cell 2
      dsimp at x0 x1 x2
      go_wp2_with fail
      refine (KJ.out _ (gb_trans G1.out G5.out)).mono ?_
      rintro e9 w6 ⟨rfl, g⟩
      have G6 := Lib.hid (gb_trans G5.out g)
      clear g
      clear c0 c1 c2 c3 c4 c5 c6 c7 c8 x0 x1 x2
      by_cases hr0 : r9 = 0
      · have q0 : (r9 != 0) = false := by simp [hr0]
        have Z := Lib.hid (NX.out hr0)
        clear hr0
        go_wp2
        go_roundw
        case rel => exact ⟨j + 1, by omega, by go_num, Z.out, G6.out⟩
        case measure => simp [intOf]; omega
      · have q0 : (r9 != 0) = true := by simp [hr0]
        have E := Lib.hid (BAD.out hr0)
        clear hr0
        go_wp2
        go_ret2
        exact ⟨ret_ii E.out.1.symm E.out.2.symm, gb_trans G1.out G6.out⟩
    · have hje : j = cn := by omega
      have j1 : ¬ (j : Int) < cn := by omega
      have ALL := Lib.hid (show ∀ x, x < (S.getD i psz).cs.length → caseE H M S i x = 0 by rw [LC.out, ← hje]; exact HT.out)
      have LOW := Lib.hid (fun x => HR.out.low ALL.out x)
      have GOOD := Lib.hid (fun x => HR.out.good ALL.out x)
      rw [LS.out] at LOW GOOD
      generalize (S.getD i psz).df = f9 at *
      clear KC ALL HT hje
      go_upto_region 8 with fail
      have KN := Lib.hid (fun (W : World) => pnext_any W nm v3 v4 v5 v7 v8 ha ma (some sd) hn hc mn mc sn sc i f9)
      generalize nxB sn i f9 = b4 at *
      unfold RetV at KN
      have KR := Lib.hid (fun (w' : World) (q0 : wr.grownBy w' none) => (⟨(B1.out.keep0 (gb_trans HG.out q0)).cell 0, (B1.out.keep0 (gb_trans HG.out q0)).cell 1, (B1.out.keep0 (gb_trans HG.out q0)).cell 2, (B1.out.keep0 (gb_trans HG.out q0)).cell 3, (B1.out.keep0 (gb_trans HG.out q0)).cell 4, (B1.out.keep0 (gb_trans HG.out q0)).cell 5, (B1.out.keep0 (gb_trans HG.out q0)).cell 6, (B1.out.keep0 (gb_trans HG.out q0)).cell 7, (B1.out.keep0 (gb_trans HG.out q0)).cell 8, (D56.out _ (gb_trans G1.out (gb_trans HG.out q0))).2, q0⟩ : (fun w' : World => w'.cell? ⟨bx, 0, none⟩ = some (nm) ∧ w'.cell? ⟨bx, 1, none⟩ = some (.slice ha hn hc) ∧ w'.cell? ⟨bx, 2, none⟩ = some (.slice ma mn mc) ∧ w'.cell? ⟨bx, 3, none⟩ = some (v3) ∧ w'.cell? ⟨bx, 4, none⟩ = some (v4) ∧ w'.cell? ⟨bx, 5, none⟩ = some (v5) ∧ w'.cell? ⟨bx, 6, none⟩ = some (.slice (some sd) sn sc) ∧ w'.cell? ⟨bx, 7, none⟩ = some (v7) ∧ w'.cell? ⟨bx, 8, none⟩ = some (v8) ∧ w'.cell? ⟨(sd.add (i * 7)).block, (sd.add (i * 7)).off + 6, none⟩ = some (.int .i64 f9) ∧ wr.grownBy w' none) w'))
      have R0 := Lib.hid (gb_drew wr none)
      refine wp_region_held_drew (S := (fun w' : World => w'.cell? ⟨bx, 0, none⟩ = some (nm) ∧ w'.cell? ⟨bx, 1, none⟩ = some (.slice ha hn hc) ∧ w'.cell? ⟨bx, 2, none⟩ = some (.slice ma mn mc) ∧ w'.cell? ⟨bx, 3, none⟩ = some (v3) ∧ w'.cell? ⟨bx, 4, none⟩ = some (v4) ∧ w'.cell? ⟨bx, 5, none⟩ = some (v5) ∧ w'.cell? ⟨bx, 6, none⟩ = some (.slice (some sd) sn sc) ∧ w'.cell? ⟨bx, 7, none⟩ = some (v7) ∧ w'.cell? ⟨bx, 8, none⟩ = some (v8) ∧ w'.cell? ⟨(sd.add (i * 7)).block, (sd.add (i * 7)).off + 6, none⟩ = some (.int .i64 f9) ∧ wr.grownBy w' none)) (by kernel_rfl) (KR.out _ R0.out) (fun hH0 => ?_)
      refine wpAnyH_take (i := 0) (v := ?v9) rfl (by kernel_rfl) (by kernel_rfl) (by kernel_rfl) (fun _ _ _ h => h) (Or.inl ⟨by rfl, ?hy9⟩) (by assumption) ?rest9
      case hy9 => (intro wz hSw; (try dsimp only at hSw); first | (go_simp; done) | (go_simp; with_reducible rfl))
      try simp only [Act.put, List.getElem_toArray, List.getElem_cons_zero, List.setIfInBounds_toArray, List.set_cons_zero, List.set_cons_succ]
      refine wpAnyH_take (i := 1) (v := ?v10) rfl (by kernel_rfl) (by kernel_rfl) (by kernel_rfl) (fun _ _ _ h => h) (Or.inl ⟨by rfl, ?hy10⟩) (by assumption) ?rest10
      case hy10 => (intro wz hSw; (try dsimp only at hSw); first | (go_simp; done) | (go_simp; with_reducible rfl))
      try simp only [Act.put, List.getElem_toArray, List.getElem_cons_succ, List.getElem_cons_zero, List.setIfInBounds_toArray, List.set_cons_zero, List.set_cons_succ]
      refine wpAnyH_take (i := 2) (v := ?v11) rfl (by kernel_rfl) (by kernel_rfl) (by kernel_rfl) (fun _ _ _ h => h) (Or.inl ⟨by rfl, ?hy11⟩) (by assumption) ?rest11
      case hy11 => (intro wz hSw; (try dsimp only at hSw); first | (go_simp; done) | (go_simp; with_reducible rfl))
      try simp only [Act.put, List.getElem_toArray, List.getElem_cons_succ, List.getElem_cons_zero, List.setIfInBounds_toArray, List.set_cons_zero, List.set_cons_succ]
      refine wpAnyH_take (i := 3) (v := ?v12) rfl (by kernel_rfl) (by kernel_rfl) (by kernel_rfl) (fun _ _ _ h => h) (Or.inl ⟨by rfl, ?hy12⟩) (by assumption) ?rest12
      case hy12 => (intro wz hSw; (try dsimp only at hSw); first | (go_simp; done) | (go_simp; with_reducible rfl))
      try simp only [Act.put, List.getElem_toArray, List.getElem_cons_succ, List.getElem_cons_zero, List.setIfInBounds_toArray, List.set_cons_zero, List.set_cons_succ]
      refine wpAnyH_take (i := 4) (v := ?v13) rfl (by kernel_rfl) (by kernel_rfl) (by kernel_rfl) (fun _ _ _ h => h) (Or.inl ⟨by rfl, ?hy13⟩) (by assumption) ?rest13
      case hy13 => (intro wz hSw; (try dsimp only at hSw); first | (go_simp; done) | (go_simp; with_reducible rfl))
      try simp only [Act.put, List.getElem_toArray, List.getElem_cons_succ, List.getElem_cons_zero, List.setIfInBounds_toArray, List.set_cons_zero, List.set_cons_succ]
      refine wpAnyH_take (i := 5) (v := ?v14) rfl (by kernel_rfl) (by kernel_rfl) (by kernel_rfl) (fun _ _ _ h => h) (Or.inl ⟨by rfl, ?hy14⟩) (by assumption) ?rest14
      case hy14 => (intro wz hSw; (try dsimp only at hSw); first | (go_simp; done) | (go_simp; with_reducible rfl))
      try simp only [Act.put, List.getElem_toArray, List.getElem_cons_succ, List.getElem_cons_zero, List.setIfInBounds_toArray, List.set_cons_zero, List.set_cons_succ]
      refine wpAnyH_take (i := 6) (v := ?v15) rfl (by kernel_rfl) (by kernel_rfl) (by kernel_rfl) (fun _ _ _ h => h) (Or.inl ⟨by rfl, ?hy15⟩) (by assumption) ?rest15
      case hy15 => (intro wz hSw; (try dsimp only at hSw); first | (go_simp; done) | (go_simp; with_reducible rfl))
      try simp only [Act.put, List.getElem_toArray, List.getElem_cons_succ, List.getElem_cons_zero, List.setIfInBounds_toArray, List.set_cons_zero, List.set_cons_succ]
      refine wpAnyH_take (i := 7) (v := ?v16) rfl (by kernel_rfl) (by kernel_rfl) (by kernel_rfl) (fun _ _ _ h => h) (Or.inl ⟨by rfl, ?hy16⟩) (by assumption) ?rest16
      case hy16 => (intro wz hSw; (try dsimp only at hSw); first | (go_simp; done) | (go_simp; with_reducible rfl))
      try simp only [Act.put, List.getElem_toArray, List.getElem_cons_succ, List.getElem_cons_zero, List.setIfInBounds_toArray, List.set_cons_zero, List.set_cons_succ]
      refine wpAnyH_ready (rs := [8]) (by kernel_rfl) (by simp) ?_
      refine AllReadyH.cons (o := _) rfl (fun K hK => ?_) AllReadyH.nil
      go_simp
      (with_reducible refine (KN.out _).mono ?_)
      rintro e rw1 ⟨rfl, g⟩
      have R1 := Lib.hid (gb_trans R0.out g)
      clear g
      try dsimp only
      refine hK.out _ _ (KR.out _ R1.out) (fun hH1 => ?_)
      clear hK K hH0
      try simp only [Act.put, List.getElem_toArray, List.getElem_cons_succ, List.getElem_cons_zero, List.setIfInBounds_toArray, List.set_cons_zero, List.set_cons_succ]
      refine wpAnyH_take (i := 9) (v := ?v17) rfl (by kernel_rfl) (by kernel_rfl) (by kernel_rfl) (fun _ _ _ h => h) (Or.inl ⟨by rfl, ?hy17⟩) (by assumption) ?rest17
      case hy17 => (intro wz hSw; (try dsimp only at hSw); first | (go_simp; done) | (go_simp; with_reducible rfl))
      try simp only [Act.put, List.getElem_toArray, List.getElem_cons_succ, List.getElem_cons_zero, List.setIfInBounds_toArray, List.set_cons_zero, List.set_cons_succ]
      refine wpAnyH_done (by kernel_rfl) ?_ _
      clear hH1
      have GA := Lib.hid (gb_trans G1.out (gb_trans HG.out R1.out))
      cases b4
      · have E := Lib.hid (LOW.out rfl)
        go_wp2
        go_ret2
        exact ⟨ret_ii E.out.1.symm E.out.2.symm, GA.out⟩
      · have E := Lib.hid (GOOD.out rfl)
        go_wp2
        go_ret2
        exact ⟨ret_ii E.out.1.symm E.out.2.symm, GA.out⟩
end Go.Proofs.Ytjhknmklejkknaa
