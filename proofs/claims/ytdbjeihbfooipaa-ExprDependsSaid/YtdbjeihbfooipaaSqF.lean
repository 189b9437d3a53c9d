/- Expr: the order of fields, and the library sort of them; no condition. -/
import Derived.Test.YtdbjeihbfooipaaSqE
import Derived.Shelf.SlSortCmp.WholeK
import Derived.BigQuiet
namespace Go.Proofs.Ytdbjeihbfooipaa
open Go.RowKit
set_option linter.unusedVariables false
def cI (x y : Int) : Int := if x < y then -1 else if y < x then 1 else 0
/-- How fields are compared. -/
def cR (x y : Int × Int) : Int := if cI x.1 y.1 = 0 then cI x.2 y.2 else cI x.1 y.1
theorem cR_lt (x y : Int × Int) : Go.Proofs.ltOf cR x y = decide (ltR x y) := by
  unfold Go.Proofs.ltOf cR cI ltR
  congr 1
  apply propext
  (repeat' split) <;> omega
theorem cR_swo : Go.Sort.SWO (Go.Proofs.ltOf cR) where
  irrefl x := by rw [cR_lt]; exact decide_eq_false (toR.irr x)
  trans x y z h1 h2 := by rw [cR_lt] at *; exact decide_eq_true (toR.tra x y z (of_decide_eq_true h1) (of_decide_eq_true h2))
  ntrans x y z h1 h2 := by
    rw [cR_lt] at *
    have a := of_decide_eq_false h1
    have b := of_decide_eq_false h2
    refine decide_eq_false (fun h => ?_)
    unfold ltR at *
    omega
theorem isnan_any (w : World) (x : Int) : Calls Try.prog 122 #[.int .i64 x] w (RetS (.bool false) w) := by
  go_enter Try.func122, Try.ntmps122
  go_wp2
  go_ret
  exact ⟨rfl, rfl⟩
theorem cmp_any (w : World) (x y : Int) : Calls Try.prog 100 #[.int .i64 x, .int .i64 y] w (RetS (.int .i64 (cI x y)) w) := by
  have NT := Lib.hid (fun w x => isnan_any w x)
  unfold RetS at NT
  obtain ⟨r, hr⟩ : ∃ r, r = cI x y := ⟨_, rfl⟩
  rw [← hr]
  have HR := Lib.hid hr
  clear hr
  unfold cI at HR
  go_enter Try.func100, Try.ntmps100
  by_cases h : x < y
  · rw [if_pos h] at HR
    go_wp2_with (go_at_call 122; refine (NT.out _ _).mono ?_; rintro e w5 ⟨rfl, hz⟩; obtain rfl := hz.symm; clear hz)
    go_ret
    exact ⟨by rw [HR.out] <;> rfl, rfl⟩
  · rw [if_neg h] at HR
    by_cases k : y < x
    · rw [if_pos k] at HR
      go_wp2_with (go_at_call 122; refine (NT.out _ _).mono ?_; rintro e w5 ⟨rfl, hz⟩; obtain rfl := hz.symm; clear hz)
      go_ret
      exact ⟨by rw [HR.out] <;> rfl, rfl⟩
    · rw [if_neg k] at HR
      go_wp2_with (go_at_call 122; refine (NT.out _ _).mono ?_; rintro e w5 ⟨rfl, hz⟩; obtain rfl := hz.symm; clear hz)
      go_ret
      exact ⟨by rw [HR.out] <;> rfl, rfl⟩
theorem cor_any (w : World) (g : Nat) (a b : Int) (h0 : w.cell? ⟨g, 0, none⟩ = some (.int .i64 a)) (h1 : w.cell? ⟨g, 1, none⟩ = some (.int .i64 b)) :
    Calls Try.prog 99 #[.slice (some ⟨g, 0, none⟩) 2 2] w (RetS (.int .i64 (if a = 0 then b else a)) w) := by
  obtain ⟨r, hr⟩ : ∃ r, r = if a = 0 then b else a := ⟨_, rfl⟩
  rw [← hr]
  have HR := Lib.hid hr
  have H0 := Lib.hid h0
  have H1 := Lib.hid h1
  clear hr h0 h1
  go_enter Try.func99, Try.ntmps99
  go_wp2
  go_loopw [5, 8] (fun s5 s8 wr => ∃ j : Nat, j ≤ 2 ∧ s8 = .int .i64 j ∧ (1 ≤ j → a = 0) ∧ (2 ≤ j → b = 0) ∧ wr = w) (fun _ s8 _ => 2 - (intOf s8).toNat)
  case atStart => exact ⟨0, by omega, rfl, fun h => by omega, fun h => by omega, rfl⟩
  case round =>
    obtain ⟨j, hj, rfl, ha, hb, hz⟩ := hrel
    obtain rfl := hz.symm
    clear hz
    rcases (show j = 0 ∨ j = 1 ∨ j = 2 by omega) with rfl | rfl | rfl
    · have c0 := H0.out
      rw [show ((0 : Nat) : Int) = 0 from rfl]
      clear ha hb
      by_cases h : a = 0
      · subst h
        go_wp2
        go_roundw
        case rel => exact ⟨1, by omega, rfl, by simp, by simp, by first | rfl | trivial⟩
        case measure => simp [intOf]
      · have q0 : (a != 0) = true := by rw [bne_iff_ne]; exact h
        have HR2 := Lib.hid (show r = a by rw [HR.out, if_neg h])
        go_wp2
        go_ret
        exact ⟨by rw [HR2.out] <;> rfl, rfl⟩
    · have c0 := H1.out
      have ha0 := ha (by omega)
      subst ha0
      rw [show ((1 : Nat) : Int) = 1 from rfl]
      clear ha hb
      by_cases h : b = 0
      · subst h
        go_wp2
        go_roundw
        case rel => exact ⟨2, by omega, rfl, by simp, by simp, by first | rfl | trivial⟩
        case measure => simp [intOf]
      · have q0 : (b != 0) = true := by rw [bne_iff_ne]; exact h
        have HR2 := Lib.hid (show r = b by rw [HR.out, if_pos rfl])
        go_wp2
        go_ret
        exact ⟨by rw [HR2.out] <;> rfl, rfl⟩
    · have ha0 := ha (by omega)
      have hb0 := hb (by omega)
      subst ha0 hb0
      have HR2 := Lib.hid (show r = 0 by rw [HR.out, if_pos rfl])
      rw [show ((2 : Nat) : Int) = 2 from rfl]
      clear ha hb
      go_wp2
      go_ret
      exact ⟨by rw [HR2.out] <;> rfl, rfl⟩
set_option maxRecDepth 100000 in
set_option maxHeartbeats 4000000 in
theorem cref_any (W : World) (x y : Int × Int) : Calls Try.prog 62 #[.agg #[.int .i64 x.1, .int .i64 x.2], .agg #[.int .i64 y.1, .int .i64 y.2]] W (fun e w' => e = .returned (.int .i64 (cR x y)) ∧ ∃ q os, w' = Go.Sort.grow (W.drewN q) os) := by
  obtain ⟨rr, hrr⟩ : ∃ r, r = cR x y := ⟨_, rfl⟩
  rw [← hrr]
  have RR := Lib.hid hrr
  clear hrr
  have CMP := Lib.hid (fun W x y => cmp_any W x y)
  unfold RetS at CMP
  obtain ⟨o1, ho1⟩ : ∃ o, o = Obj.cells #[.int .i64 x.1, .int .i64 x.2] 48 (0, 0) := ⟨_, rfl⟩
  obtain ⟨o2, ho2⟩ : ∃ o, o = Obj.cells #[.int .i64 y.1, .int .i64 y.2] 48 (0, 0) := ⟨_, rfl⟩
  obtain ⟨W1, hW1⟩ : ∃ W1, W1 = (W.alloc o1).alloc o2 := ⟨_, rfl⟩
  obtain ⟨b, hb⟩ : ∃ b, b = W.heap.size := ⟨_, rfl⟩
  have B1 := Lib.hid (show IsB W1 b 48 #[.int .i64 x.1, .int .i64 x.2] from by rw [hW1, hb, ho1]; exact (IsB.new W 48 #[.int .i64 x.1, .int .i64 x.2]).alloc o2)
  have B2 := Lib.hid (show IsB W1 (b + 1) 48 #[.int .i64 y.1, .int .i64 y.2] from by rw [hW1, hb, ho2]; have q := IsB.new (W.alloc o1) 48 #[.int .i64 y.1, .int .i64 y.2]; rw [sz_al] at q; exact q)
  have S1 := Lib.hid (show W1.heap.size = b + 2 by rw [hW1, sz_al, sz_al, hb])
  go_enter Try.func62, Try.ntmps62
  go_upto_region 1 with fail
  rw [← ho1, ← ho2, ← hW1, ← hb]
  have HW := Lib.hid hW1
  clear hW1 hb ho1 ho2
  have KS : ∀ w' : World, (w' = W1.drew) → (w'.cell? ⟨b, 0, none⟩ = some (.int .i64 x.1) ∧ w'.cell? ⟨b, 1, none⟩ = some (.int .i64 x.2) ∧ w'.cell? ⟨b + 1, 0, none⟩ = some (.int .i64 y.1) ∧ w'.cell? ⟨b + 1, 1, none⟩ = some (.int .i64 y.2) ∧ True) := fun w' q => by subst q; exact ⟨B1.out.cell 0, B1.out.cell 1, B2.out.cell 0, B2.out.cell 1, trivial⟩
  refine wp_region_held_drew (S := (fun w' : World => w'.cell? ⟨b, 0, none⟩ = some (.int .i64 x.1) ∧ w'.cell? ⟨b, 1, none⟩ = some (.int .i64 x.2) ∧ w'.cell? ⟨b + 1, 0, none⟩ = some (.int .i64 y.1) ∧ w'.cell? ⟨b + 1, 1, none⟩ = some (.int .i64 y.2) ∧ True)) (by kernel_rfl) (KS _ rfl) (fun hH0 => ?_)
  refine wpAnyH_take (i := 0) (v := ?v1) rfl (by kernel_rfl) (by kernel_rfl) (by kernel_rfl) (fun _ _ _ h => h) (Or.inl ⟨by rfl, ?hy1⟩) (by assumption) ?rest1
  case hy1 => (intro wz hSw; (try dsimp only at hSw); first | (go_simp; done) | (go_simp; with_reducible rfl))
  try simp only [Act.put, List.getElem_toArray, List.getElem_cons_zero, List.setIfInBounds_toArray, List.set_cons_zero, List.set_cons_succ]
  refine wpAnyH_take (i := 1) (v := ?v2) rfl (by kernel_rfl) (by kernel_rfl) (by kernel_rfl) (fun _ _ _ h => h) (Or.inl ⟨by rfl, ?hy2⟩) (by assumption) ?rest2
  case hy2 => (intro wz hSw; (try dsimp only at hSw); first | (go_simp; done) | (go_simp; with_reducible rfl))
  try simp only [Act.put, List.getElem_toArray, List.getElem_cons_succ, List.getElem_cons_zero, List.setIfInBounds_toArray, List.set_cons_zero, List.set_cons_succ]
  refine wpAnyH_take (i := 2) (v := ?v3) rfl (by kernel_rfl) (by kernel_rfl) (by kernel_rfl) (fun _ _ _ h => h) (Or.inl ⟨by rfl, ?hy3⟩) (by assumption) ?rest3
  case hy3 => (intro wz hSw; (try dsimp only at hSw); first | (go_simp; done) | (go_simp; with_reducible rfl))
  try simp only [Act.put, List.getElem_toArray, List.getElem_cons_succ, List.getElem_cons_zero, List.setIfInBounds_toArray, List.set_cons_zero, List.set_cons_succ]
  refine wpAnyH_take (i := 3) (v := ?v4) rfl (by kernel_rfl) (by kernel_rfl) (by kernel_rfl) (fun _ _ _ h => h) (Or.inl ⟨by rfl, ?hy4⟩) (by assumption) ?rest4
  case hy4 => (intro wz hSw; (try dsimp only at hSw); first | (go_simp; done) | (go_simp; with_reducible rfl))
  try simp only [Act.put, List.getElem_toArray, List.getElem_cons_succ, List.getElem_cons_zero, List.setIfInBounds_toArray, List.set_cons_zero, List.set_cons_succ]
  refine wpAnyH_take (i := 5) (v := ?v5) rfl (by kernel_rfl) (by kernel_rfl) (by kernel_rfl) (fun _ _ _ h => h) (Or.inl ⟨by rfl, ?hy5⟩) (by assumption) ?rest5
  case hy5 => (intro wz hSw; (try dsimp only at hSw); first | (go_simp; done) | (go_simp; with_reducible rfl))
  try simp only [Act.put, List.getElem_toArray, List.getElem_cons_succ, List.getElem_cons_zero, List.setIfInBounds_toArray, List.set_cons_zero, List.set_cons_succ]
  refine wpAnyH_take (i := 6) (v := ?v6) rfl (by kernel_rfl) (by kernel_rfl) (by kernel_rfl) (fun _ _ _ h => h) (Or.inl ⟨by rfl, ?hy6⟩) (by assumption) ?rest6
  case hy6 => (intro wz hSw; (try dsimp only at hSw); first | (go_simp; done) | (go_simp; with_reducible rfl))
  try simp only [Act.put, List.getElem_toArray, List.getElem_cons_succ, List.getElem_cons_zero, List.setIfInBounds_toArray, List.set_cons_zero, List.set_cons_succ]
  refine wpAnyH_take (i := 7) (v := ?v7) rfl (by kernel_rfl) (by kernel_rfl) (by kernel_rfl) (fun _ _ _ h => h) (Or.inl ⟨by rfl, ?hy7⟩) (by assumption) ?rest7
  case hy7 => (intro wz hSw; (try dsimp only at hSw); first | (go_simp; done) | (go_simp; with_reducible rfl))
  try simp only [Act.put, List.getElem_toArray, List.getElem_cons_succ, List.getElem_cons_zero, List.setIfInBounds_toArray, List.set_cons_zero, List.set_cons_succ]
  refine wpAnyH_take (i := 8) (v := ?v8) rfl (by kernel_rfl) (by kernel_rfl) (by kernel_rfl) (fun _ _ _ h => h) (Or.inl ⟨by rfl, ?hy8⟩) (by assumption) ?rest8
  case hy8 => (intro wz hSw; (try dsimp only at hSw); first | (go_simp; done) | (go_simp; with_reducible rfl))
  try simp only [Act.put, List.getElem_toArray, List.getElem_cons_succ, List.getElem_cons_zero, List.setIfInBounds_toArray, List.set_cons_zero, List.set_cons_succ]
  refine wpAnyH_ready (rs := [4]) (by kernel_rfl) (by simp) ?_
  refine AllReadyH.cons (o := _) rfl (fun K hK => ?_) AllReadyH.nil
  go_simp
  (with_reducible refine (CMP.out _ _ _).mono ?_)
  rintro e v4 ⟨rfl, hz⟩
  obtain rfl := hz.symm
  clear hz
  try dsimp only
  refine hK.out _ _ (KS _ rfl) (fun hH1 => ?_)
  clear hK K hH0
  try simp only [Act.put, List.getElem_toArray, List.getElem_cons_succ, List.getElem_cons_zero, List.setIfInBounds_toArray, List.set_cons_zero, List.set_cons_succ]
  refine wpAnyH_ready (rs := [9]) (by kernel_rfl) (by simp) ?_
  refine AllReadyH.cons (o := _) rfl (fun K hK => ?_) AllReadyH.nil
  go_simp
  (with_reducible refine (CMP.out _ _ _).mono ?_)
  rintro e v9 ⟨rfl, hz⟩
  obtain rfl := hz.symm
  clear hz
  try dsimp only
  refine hK.out _ _ (KS _ rfl) (fun hH2 => ?_)
  clear hK K hH1
  try simp only [Act.put, List.getElem_toArray, List.getElem_cons_succ, List.getElem_cons_zero, List.setIfInBounds_toArray, List.set_cons_zero, List.set_cons_succ]
  have GW := Lib.hid (show W1.grownBy (W1.alloc (Obj.cells #[.int .i64 (cI x.1 y.1), .int .i64 (cI x.2 y.2)] 3 (0, 0))).drew none from gb_trans (gb_alloc W1 (Obj.cells #[.int .i64 (cI x.1 y.1), .int .i64 (cI x.2 y.2)] 3 (0, 0)) none) (gb_drew _ none))
  have B3 := Lib.hid (show IsB (W1.alloc (Obj.cells #[.int .i64 (cI x.1 y.1), .int .i64 (cI x.2 y.2)] 3 (0, 0))).drew (b + 2) 3 #[.int .i64 (cI x.1 y.1), .int .i64 (cI x.2 y.2)] from by have q := (IsB.new W1 3 #[.int .i64 (cI x.1 y.1), .int .i64 (cI x.2 y.2)]).keep0 (gb_drew _ none); rw [S1.out] at q; exact q)
  have COR := Lib.hid (show Calls Try.prog 99 #[.slice (some ⟨b + 2, 0, none⟩) 2 2] (W1.alloc (Obj.cells #[.int .i64 (cI x.1 y.1), .int .i64 (cI x.2 y.2)] 3 (0, 0))).drew (RetS (.int .i64 rr) (W1.alloc (Obj.cells #[.int .i64 (cI x.1 y.1), .int .i64 (cI x.2 y.2)] 3 (0, 0))).drew) from by rw [RR.out]; exact cor_any (W1.alloc (Obj.cells #[.int .i64 (cI x.1 y.1), .int .i64 (cI x.2 y.2)] 3 (0, 0))).drew (b + 2) (cI x.1 y.1) (cI x.2 y.2) (B3.out.cell 0) (B3.out.cell 1))
  unfold RetS at COR
  have KS2 : ∀ w' : World, (w' = (W1.alloc (Obj.cells #[.int .i64 (cI x.1 y.1), .int .i64 (cI x.2 y.2)] 3 (0, 0))).drew) → (w'.cell? ⟨b, 0, none⟩ = some (.int .i64 x.1) ∧ w'.cell? ⟨b, 1, none⟩ = some (.int .i64 x.2) ∧ w'.cell? ⟨b + 1, 0, none⟩ = some (.int .i64 y.1) ∧ w'.cell? ⟨b + 1, 1, none⟩ = some (.int .i64 y.2) ∧ True) := fun w' q => by subst q; exact ⟨(B1.out.keep0 GW.out).cell 0, (B1.out.keep0 GW.out).cell 1, (B2.out.keep0 GW.out).cell 0, (B2.out.keep0 GW.out).cell 1, trivial⟩
  refine wpAnyH_ready (rs := [10]) (by kernel_rfl) (by simp) ?_
  refine AllReadyH.cons (o := _) rfl (fun K hK => ?_) AllReadyH.nil
  go_simp
  try dsimp only
  refine hK.out _ _ (KS2 _ rfl) (fun hH3 => ?_)
  clear hK K hH2
  try simp only [Act.put, List.getElem_toArray, List.getElem_cons_succ, List.getElem_cons_zero, List.setIfInBounds_toArray, List.set_cons_zero, List.set_cons_succ]
  rw [S1.out]
  refine wpAnyH_ready (rs := [11]) (by kernel_rfl) (by simp) ?_
  refine AllReadyH.cons (o := _) rfl (fun K hK => ?_) AllReadyH.nil
  go_simp
  (with_reducible refine COR.out.mono ?_)
  rintro e v11 ⟨rfl, hz⟩
  obtain rfl := hz.symm
  clear hz
  try dsimp only
  refine hK.out _ _ (KS2 _ rfl) (fun hH4 => ?_)
  clear hK K hH3
  try simp only [Act.put, List.getElem_toArray, List.getElem_cons_succ, List.getElem_cons_zero, List.setIfInBounds_toArray, List.set_cons_zero, List.set_cons_succ]
  refine wpAnyH_take (i := 12) (v := ?v9) rfl (by kernel_rfl) (by kernel_rfl) (by kernel_rfl) (fun _ _ _ h => h) (Or.inl ⟨by rfl, ?hy9⟩) (by assumption) ?rest9
  case hy9 => (intro wz hSw; (try dsimp only at hSw); first | (go_simp; done) | (go_simp; with_reducible rfl))
  try simp only [Act.put, List.getElem_toArray, List.getElem_cons_succ, List.getElem_cons_zero, List.setIfInBounds_toArray, List.set_cons_zero, List.set_cons_succ]
  refine wpAnyH_done (by kernel_rfl) ?_ _
  clear hH4
  go_wp2
  go_ret
  exact ⟨rfl, 1, #[o1, o2, (Obj.cells #[.int .i64 (cI x.1 y.1), .int .i64 (cI x.2 y.2)] 3 (0, 0))], by rw [HW.out]; rfl⟩
end Go.Proofs.Ytdbjeihbfooipaa
