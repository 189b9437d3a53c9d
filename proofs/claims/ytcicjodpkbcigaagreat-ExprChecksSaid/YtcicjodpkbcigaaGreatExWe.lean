/- Expr: the reference's operators on values; no condition but that the operands fit their widths. -/
import Derived.Test.YtcicjodpkbcigaaGreatExWb
import Derived.Test.YtcicjodpkbcigaaGreatBvT
namespace Go.Proofs.YtcicjodpkbcigaaGreat
open Go.RowKit
set_option linter.unusedVariables false
theorem cl_g {f : Nat} {args : Array Value} {w : World} {v : Value} (h : Calls Tryz.prog f args w fun e w' => e = .returned v ∧ w = w') : Calls Tryz.prog f args w (fun e w' => e = .returned v ∧ w.grownBy w' none) :=
  h.mono fun e w' k => ⟨k.1, by rw [← k.2]; exact gb_refl _ _⟩
theorem rbit_any (W : World) (b : Bool) : Calls Tryz.prog 45 #[.bool b] W (fun e w' => e = .returned (.int .u32 (bitI b)) ∧ W.grownBy w' none) := by
  cases b with
  | true =>
    go_enter Tryz.func45, Tryz.ntmps45
    go_wp2
    go_ret
    exact ⟨rfl, gb_refl _ _⟩
  | false =>
    go_enter Tryz.func45, Tryz.ntmps45
    go_wp2
    go_ret
    exact ⟨rfl, gb_refl _ _⟩
set_option maxRecDepth 100000 in
set_option maxHeartbeats 4000000 in
theorem rap_5 (w : World) (g c_ : Nat) (n wd v0 w0 : Int) (h0 : w.cell? ⟨g, 0, none⟩ = some (.int .u32 v0)) (j0 : w.cell? ⟨g, 1, none⟩ = some (.int .i64 w0)) (hv : 0 ≤ v0 ∧ v0 < 4294967296) :
    Calls Tryz.prog 46 #[.agg #[.int .i64 5, .int .i64 n, .int .i64 wd], .slice (some ⟨g, 0, none⟩) 1 c_] w (RetV (.int .u32 (notB v0 w0)) w) := by
  have NT := Lib.hid (fun W => cl_g (rnot_any v0 w0 W hv.1 hv.2))
  generalize notB v0 w0 = r at *
  clear hv
  obtain ⟨A, hA⟩ : ∃ A, A = w.heap.size := ⟨_, rfl⟩
  obtain ⟨w1, hw1⟩ : ∃ w1, w1 = w.alloc (.cells #[.int .i64 5, .int .i64 n, .int .i64 wd] 66) := ⟨_, rfl⟩
  have BA := Lib.hid (show IsB w1 A 66 #[.int .i64 5, .int .i64 n, .int .i64 wd] from by rw [hw1, hA]; exact IsB.new _ _ _)
  have GZ := Lib.hid (show w.grownBy w1 none from by rw [hw1]; exact gb_al (gb_refl _ _))
  have k0 : w1.cell? ⟨g, 0, none⟩ = some (.int .u32 v0) := GZ.out.cell h0 (by simp)
  have l0 : w1.cell? ⟨g, 1, none⟩ = some (.int .i64 w0) := GZ.out.cell j0 (by simp)
  go_enter Tryz.func46, Tryz.ntmps46
  go_upto_region 1 with fail
  rw [← hA, ← hw1]
  clear hw1 hA
  have a0 : w1.cell? ⟨A, 0, none⟩ = some (.int .i64 5) := BA.out.cell 0
  have a1 : w1.cell? ⟨A, 1, none⟩ = some (.int .i64 n) := BA.out.cell 1
  have a2 : w1.cell? ⟨A, 2, none⟩ = some (.int .i64 wd) := BA.out.cell 2
  go_wp2_with fail
  refine (NT.out _).mono ?_
  rintro e w4 ⟨rfl, g4⟩
  have G4 := Lib.hid g4
  clear g4
  go_wp2
  go_ret
  exact ⟨rfl, gb_trans GZ.out G4.out⟩
set_option maxRecDepth 100000 in
set_option maxHeartbeats 4000000 in
theorem rap_6 (w : World) (g c_ : Nat) (n wd v0 w0 : Int) (h0 : w.cell? ⟨g, 0, none⟩ = some (.int .u32 v0)) (j0 : w.cell? ⟨g, 1, none⟩ = some (.int .i64 w0)) (hv : 0 ≤ v0 ∧ v0 < 4294967296) :
    Calls Tryz.prog 46 #[.agg #[.int .i64 6, .int .i64 n, .int .i64 wd], .slice (some ⟨g, 0, none⟩) 1 c_] w (RetV (.int .u32 (shlB v0 n w0)) w) := by
  have NT := Lib.hid (fun W => cl_g (rshl_any v0 n w0 W hv.1 hv.2))
  generalize shlB v0 n w0 = r at *
  clear hv
  obtain ⟨A, hA⟩ : ∃ A, A = w.heap.size := ⟨_, rfl⟩
  obtain ⟨w1, hw1⟩ : ∃ w1, w1 = w.alloc (.cells #[.int .i64 6, .int .i64 n, .int .i64 wd] 66) := ⟨_, rfl⟩
  have BA := Lib.hid (show IsB w1 A 66 #[.int .i64 6, .int .i64 n, .int .i64 wd] from by rw [hw1, hA]; exact IsB.new _ _ _)
  have GZ := Lib.hid (show w.grownBy w1 none from by rw [hw1]; exact gb_al (gb_refl _ _))
  have k0 : w1.cell? ⟨g, 0, none⟩ = some (.int .u32 v0) := GZ.out.cell h0 (by simp)
  have l0 : w1.cell? ⟨g, 1, none⟩ = some (.int .i64 w0) := GZ.out.cell j0 (by simp)
  go_enter Tryz.func46, Tryz.ntmps46
  go_upto_region 1 with fail
  rw [← hA, ← hw1]
  clear hw1 hA
  have a0 : w1.cell? ⟨A, 0, none⟩ = some (.int .i64 6) := BA.out.cell 0
  have a1 : w1.cell? ⟨A, 1, none⟩ = some (.int .i64 n) := BA.out.cell 1
  have a2 : w1.cell? ⟨A, 2, none⟩ = some (.int .i64 wd) := BA.out.cell 2
  go_upto_region 6 with fail
  have KS := Lib.hid (fun (w' : World) (q0 : w1.grownBy w' none) => (⟨q0.cell k0 (by simp), q0.cell l0 (by simp), q0.cell a1 (by simp), q0.cell a2 (by simp), q0⟩ : (fun w' : World => w'.cell? ⟨g, 0, none⟩ = some (.int .u32 v0) ∧ w'.cell? ⟨g, 1, none⟩ = some (.int .i64 w0) ∧ w'.cell? ⟨A, 1, none⟩ = some (.int .i64 n) ∧ w'.cell? ⟨A, 2, none⟩ = some (.int .i64 wd) ∧ w1.grownBy w' none) w'))
  have H0 := Lib.hid (gb_drew w1 none)
  refine wp_region_held_drew (S := (fun w' : World => w'.cell? ⟨g, 0, none⟩ = some (.int .u32 v0) ∧ w'.cell? ⟨g, 1, none⟩ = some (.int .i64 w0) ∧ w'.cell? ⟨A, 1, none⟩ = some (.int .i64 n) ∧ w'.cell? ⟨A, 2, none⟩ = some (.int .i64 wd) ∧ w1.grownBy w' none)) (by kernel_rfl) (KS.out _ H0.out) (fun hH0 => ?_)
  refine wpAnyH_take (i := 0) (v := ?v1) rfl (by kernel_rfl) (by kernel_rfl) (by kernel_rfl) (fun _ _ _ h => h) (Or.inl ⟨by rfl, ?hy1⟩) (by assumption) ?rest1
  case hy1 => (intro wz hSw; (try dsimp only at hSw); first | (go_simp; done) | (go_simp; with_reducible rfl))
  try simp only [Act.put, List.getElem_toArray, List.getElem_cons_zero, List.setIfInBounds_toArray, List.set_cons_zero, List.set_cons_succ]
  refine wpAnyH_take (i := 1) (v := ?v2) rfl (by kernel_rfl) (by kernel_rfl) (by kernel_rfl) (fun _ _ _ h => h) (Or.inl ⟨by rfl, ?hy2⟩) (by assumption) ?rest2
  case hy2 => (intro wz hSw; (try dsimp only at hSw); first | (go_simp; done) | (go_simp; with_reducible rfl))
  try simp only [Act.put, List.getElem_toArray, List.getElem_cons_succ, List.getElem_cons_zero, List.setIfInBounds_toArray, List.set_cons_zero, List.set_cons_succ]
  refine wpAnyH_take (i := 2) (v := ?v3) rfl (by kernel_rfl) (by kernel_rfl) (by kernel_rfl) (fun _ _ _ h => h) (Or.inl ⟨by rfl, ?hy3⟩) (by assumption) ?rest3
  case hy3 => (intro wz hSw; (try dsimp only at hSw); first | (go_simp; done) | (go_simp; with_reducible rfl))
  try simp only [Act.put, List.getElem_toArray, List.getElem_cons_succ, List.getElem_cons_zero, List.setIfInBounds_toArray, List.set_cons_zero, List.set_cons_succ]
  refine wpAnyH_take (i := 3) (v := ?v4) rfl (by kernel_rfl) (by kernel_rfl) (by kernel_rfl) (fun _ _ _ h => h) (Or.inl ⟨by rfl, ?hy4⟩) (by assumption) ?rest4
  case hy4 => (intro wz hSw; (try dsimp only at hSw); first | (go_simp; done) | (go_simp; with_reducible rfl))
  try simp only [Act.put, List.getElem_toArray, List.getElem_cons_succ, List.getElem_cons_zero, List.setIfInBounds_toArray, List.set_cons_zero, List.set_cons_succ]
  refine wpAnyH_take (i := 4) (v := ?v5) rfl (by kernel_rfl) (by kernel_rfl) (by kernel_rfl) (fun _ _ _ h => h) (Or.inl ⟨by rfl, ?hy5⟩) (by assumption) ?rest5
  case hy5 => (intro wz hSw; (try dsimp only at hSw); first | (go_simp; done) | (go_simp; with_reducible rfl))
  try simp only [Act.put, List.getElem_toArray, List.getElem_cons_succ, List.getElem_cons_zero, List.setIfInBounds_toArray, List.set_cons_zero, List.set_cons_succ]
  refine wpAnyH_take (i := 5) (v := ?v6) rfl (by kernel_rfl) (by kernel_rfl) (by kernel_rfl) (fun _ _ _ h => h) (Or.inl ⟨by rfl, ?hy6⟩) (by assumption) ?rest6
  case hy6 => (intro wz hSw; (try dsimp only at hSw); first | (go_simp; done) | (go_simp; with_reducible rfl))
  try simp only [Act.put, List.getElem_toArray, List.getElem_cons_succ, List.getElem_cons_zero, List.setIfInBounds_toArray, List.set_cons_zero, List.set_cons_succ]
  refine wpAnyH_take (i := 6) (v := ?v7) rfl (by kernel_rfl) (by kernel_rfl) (by kernel_rfl) (fun _ _ _ h => h) (Or.inl ⟨by rfl, ?hy7⟩) (by assumption) ?rest7
  case hy7 => (intro wz hSw; (try dsimp only at hSw); first | (go_simp; done) | (go_simp; with_reducible rfl))
  try simp only [Act.put, List.getElem_toArray, List.getElem_cons_succ, List.getElem_cons_zero, List.setIfInBounds_toArray, List.set_cons_zero, List.set_cons_succ]
  refine wpAnyH_ready (rs := [7]) (by kernel_rfl) (by simp) ?_
  refine AllReadyH.cons (o := _) rfl (fun K hK => ?_) AllReadyH.nil
  go_simp
  (with_reducible refine (NT.out _).mono ?_)
  rintro e hw1 ⟨rfl, g⟩
  have H1 := Lib.hid (gb_trans H0.out g)
  clear g
  try dsimp only
  refine hK.out _ _ (KS.out _ H1.out) (fun hH1 => ?_)
  clear hK K hH0
  try simp only [Act.put, List.getElem_toArray, List.getElem_cons_succ, List.getElem_cons_zero, List.setIfInBounds_toArray, List.set_cons_zero, List.set_cons_succ]
  refine wpAnyH_take (i := 8) (v := ?v8) rfl (by kernel_rfl) (by kernel_rfl) (by kernel_rfl) (fun _ _ _ h => h) (Or.inl ⟨by rfl, ?hy8⟩) (by assumption) ?rest8
  case hy8 => (intro wz hSw; (try dsimp only at hSw); first | (go_simp; done) | (go_simp; with_reducible rfl))
  try simp only [Act.put, List.getElem_toArray, List.getElem_cons_succ, List.getElem_cons_zero, List.setIfInBounds_toArray, List.set_cons_zero, List.set_cons_succ]
  refine wpAnyH_done (by kernel_rfl) ?_ _
  clear hH1
  go_wp2
  go_ret
  exact ⟨rfl, gb_trans GZ.out H1.out⟩
set_option maxRecDepth 100000 in
set_option maxHeartbeats 4000000 in
theorem rap_7 (w : World) (g c_ : Nat) (n wd v0 w0 : Int) (h0 : w.cell? ⟨g, 0, none⟩ = some (.int .u32 v0)) (j0 : w.cell? ⟨g, 1, none⟩ = some (.int .i64 w0)) (hv : 0 ≤ v0 ∧ v0 < 4294967296) :
    Calls Tryz.prog 46 #[.agg #[.int .i64 7, .int .i64 n, .int .i64 wd], .slice (some ⟨g, 0, none⟩) 1 c_] w (RetV (.int .u32 (shrB v0 n w0)) w) := by
  have NT := Lib.hid (fun W => cl_g (rshr_any v0 n w0 W hv.1 hv.2))
  generalize shrB v0 n w0 = r at *
  clear hv
  obtain ⟨A, hA⟩ : ∃ A, A = w.heap.size := ⟨_, rfl⟩
  obtain ⟨w1, hw1⟩ : ∃ w1, w1 = w.alloc (.cells #[.int .i64 7, .int .i64 n, .int .i64 wd] 66) := ⟨_, rfl⟩
  have BA := Lib.hid (show IsB w1 A 66 #[.int .i64 7, .int .i64 n, .int .i64 wd] from by rw [hw1, hA]; exact IsB.new _ _ _)
  have GZ := Lib.hid (show w.grownBy w1 none from by rw [hw1]; exact gb_al (gb_refl _ _))
  have k0 : w1.cell? ⟨g, 0, none⟩ = some (.int .u32 v0) := GZ.out.cell h0 (by simp)
  have l0 : w1.cell? ⟨g, 1, none⟩ = some (.int .i64 w0) := GZ.out.cell j0 (by simp)
  go_enter Tryz.func46, Tryz.ntmps46
  go_upto_region 1 with fail
  rw [← hA, ← hw1]
  clear hw1 hA
  have a0 : w1.cell? ⟨A, 0, none⟩ = some (.int .i64 7) := BA.out.cell 0
  have a1 : w1.cell? ⟨A, 1, none⟩ = some (.int .i64 n) := BA.out.cell 1
  have a2 : w1.cell? ⟨A, 2, none⟩ = some (.int .i64 wd) := BA.out.cell 2
  go_upto_region 8 with fail
  have KS := Lib.hid (fun (w' : World) (q0 : w1.grownBy w' none) => (⟨q0.cell k0 (by simp), q0.cell l0 (by simp), q0.cell a1 (by simp), q0.cell a2 (by simp), q0⟩ : (fun w' : World => w'.cell? ⟨g, 0, none⟩ = some (.int .u32 v0) ∧ w'.cell? ⟨g, 1, none⟩ = some (.int .i64 w0) ∧ w'.cell? ⟨A, 1, none⟩ = some (.int .i64 n) ∧ w'.cell? ⟨A, 2, none⟩ = some (.int .i64 wd) ∧ w1.grownBy w' none) w'))
  have H0 := Lib.hid (gb_drew w1 none)
  refine wp_region_held_drew (S := (fun w' : World => w'.cell? ⟨g, 0, none⟩ = some (.int .u32 v0) ∧ w'.cell? ⟨g, 1, none⟩ = some (.int .i64 w0) ∧ w'.cell? ⟨A, 1, none⟩ = some (.int .i64 n) ∧ w'.cell? ⟨A, 2, none⟩ = some (.int .i64 wd) ∧ w1.grownBy w' none)) (by kernel_rfl) (KS.out _ H0.out) (fun hH0 => ?_)
  refine wpAnyH_take (i := 0) (v := ?v9) rfl (by kernel_rfl) (by kernel_rfl) (by kernel_rfl) (fun _ _ _ h => h) (Or.inl ⟨by rfl, ?hy9⟩) (by assumption) ?rest9
  case hy9 => (intro wz hSw; (try dsimp only at hSw); first | (go_simp; done) | (go_simp; with_reducible rfl))
  try simp only [Act.put, List.getElem_toArray, List.getElem_cons_zero, List.setIfInBounds_toArray, List.set_cons_zero, List.set_cons_succ]
  refine wpAnyH_take (i := 1) (v := ?v10) rfl (by kernel_rfl) (by kernel_rfl) (by kernel_rfl) (fun _ _ _ h => h) (Or.inl ⟨by rfl, ?hy10⟩) (by assumption) ?rest10
  case hy10 => (intro wz hSw; (try dsimp only at hSw); first | (go_simp; done) | (go_simp; with_reducible rfl))
  try simp only [Act.put, List.getElem_toArray, List.getElem_cons_succ, List.getElem_cons_zero, List.setIfInBounds_toArray, List.set_cons_zero, List.set_cons_succ]
  refine wpAnyH_take (i := 2) (v := ?v11) rfl (by kernel_rfl) (by kernel_rfl) (by kernel_rfl) (fun _ _ _ h => h) (Or.inl ⟨by rfl, ?hy11⟩) (by assumption) ?rest11
  case hy11 => (intro wz hSw; (try dsimp only at hSw); first | (go_simp; done) | (go_simp; with_reducible rfl))
  try simp only [Act.put, List.getElem_toArray, List.getElem_cons_succ, List.getElem_cons_zero, List.setIfInBounds_toArray, List.set_cons_zero, List.set_cons_succ]
  refine wpAnyH_take (i := 3) (v := ?v12) rfl (by kernel_rfl) (by kernel_rfl) (by kernel_rfl) (fun _ _ _ h => h) (Or.inl ⟨by rfl, ?hy12⟩) (by assumption) ?rest12
  case hy12 => (intro wz hSw; (try dsimp only at hSw); first | (go_simp; done) | (go_simp; with_reducible rfl))
  try simp only [Act.put, List.getElem_toArray, List.getElem_cons_succ, List.getElem_cons_zero, List.setIfInBounds_toArray, List.set_cons_zero, List.set_cons_succ]
  refine wpAnyH_take (i := 4) (v := ?v13) rfl (by kernel_rfl) (by kernel_rfl) (by kernel_rfl) (fun _ _ _ h => h) (Or.inl ⟨by rfl, ?hy13⟩) (by assumption) ?rest13
  case hy13 => (intro wz hSw; (try dsimp only at hSw); first | (go_simp; done) | (go_simp; with_reducible rfl))
  try simp only [Act.put, List.getElem_toArray, List.getElem_cons_succ, List.getElem_cons_zero, List.setIfInBounds_toArray, List.set_cons_zero, List.set_cons_succ]
  refine wpAnyH_take (i := 5) (v := ?v14) rfl (by kernel_rfl) (by kernel_rfl) (by kernel_rfl) (fun _ _ _ h => h) (Or.inl ⟨by rfl, ?hy14⟩) (by assumption) ?rest14
  case hy14 => (intro wz hSw; (try dsimp only at hSw); first | (go_simp; done) | (go_simp; with_reducible rfl))
  try simp only [Act.put, List.getElem_toArray, List.getElem_cons_succ, List.getElem_cons_zero, List.setIfInBounds_toArray, List.set_cons_zero, List.set_cons_succ]
  refine wpAnyH_take (i := 6) (v := ?v15) rfl (by kernel_rfl) (by kernel_rfl) (by kernel_rfl) (fun _ _ _ h => h) (Or.inl ⟨by rfl, ?hy15⟩) (by assumption) ?rest15
  case hy15 => (intro wz hSw; (try dsimp only at hSw); first | (go_simp; done) | (go_simp; with_reducible rfl))
  try simp only [Act.put, List.getElem_toArray, List.getElem_cons_succ, List.getElem_cons_zero, List.setIfInBounds_toArray, List.set_cons_zero, List.set_cons_succ]
  refine wpAnyH_ready (rs := [7]) (by kernel_rfl) (by simp) ?_
  refine AllReadyH.cons (o := _) rfl (fun K hK => ?_) AllReadyH.nil
  go_simp
  (with_reducible refine (NT.out _).mono ?_)
  rintro e hw1 ⟨rfl, g⟩
  have H1 := Lib.hid (gb_trans H0.out g)
  clear g
  try dsimp only
  refine hK.out _ _ (KS.out _ H1.out) (fun hH1 => ?_)
  clear hK K hH0
  try simp only [Act.put, List.getElem_toArray, List.getElem_cons_succ, List.getElem_cons_zero, List.setIfInBounds_toArray, List.set_cons_zero, List.set_cons_succ]
  refine wpAnyH_take (i := 8) (v := ?v16) rfl (by kernel_rfl) (by kernel_rfl) (by kernel_rfl) (fun _ _ _ h => h) (Or.inl ⟨by rfl, ?hy16⟩) (by assumption) ?rest16
  case hy16 => (intro wz hSw; (try dsimp only at hSw); first | (go_simp; done) | (go_simp; with_reducible rfl))
  try simp only [Act.put, List.getElem_toArray, List.getElem_cons_succ, List.getElem_cons_zero, List.setIfInBounds_toArray, List.set_cons_zero, List.set_cons_succ]
  refine wpAnyH_done (by kernel_rfl) ?_ _
  clear hH1
  go_wp2
  go_ret
  exact ⟨rfl, gb_trans GZ.out H1.out⟩
set_option maxRecDepth 100000 in
set_option maxHeartbeats 4000000 in
theorem rap_8 (w : World) (g c_ : Nat) (n wd v0 w0 : Int) (h0 : w.cell? ⟨g, 0, none⟩ = some (.int .u32 v0)) (j0 : w.cell? ⟨g, 1, none⟩ = some (.int .i64 w0)) (hv : 0 ≤ v0 ∧ v0 < 4294967296) :
    Calls Tryz.prog 46 #[.agg #[.int .i64 8, .int .i64 n, .int .i64 wd], .slice (some ⟨g, 0, none⟩) 1 c_] w (RetV (.int .u32 (sliceB v0 n wd)) w) := by
  have NT := Lib.hid (fun W => cl_g (rslice_any v0 n wd W hv.1 hv.2))
  generalize sliceB v0 n wd = r at *
  clear hv
  obtain ⟨A, hA⟩ : ∃ A, A = w.heap.size := ⟨_, rfl⟩
  obtain ⟨w1, hw1⟩ : ∃ w1, w1 = w.alloc (.cells #[.int .i64 8, .int .i64 n, .int .i64 wd] 66) := ⟨_, rfl⟩
  have BA := Lib.hid (show IsB w1 A 66 #[.int .i64 8, .int .i64 n, .int .i64 wd] from by rw [hw1, hA]; exact IsB.new _ _ _)
  have GZ := Lib.hid (show w.grownBy w1 none from by rw [hw1]; exact gb_al (gb_refl _ _))
  have k0 : w1.cell? ⟨g, 0, none⟩ = some (.int .u32 v0) := GZ.out.cell h0 (by simp)
  have l0 : w1.cell? ⟨g, 1, none⟩ = some (.int .i64 w0) := GZ.out.cell j0 (by simp)
  go_enter Tryz.func46, Tryz.ntmps46
  go_upto_region 1 with fail
  rw [← hA, ← hw1]
  clear hw1 hA
  have a0 : w1.cell? ⟨A, 0, none⟩ = some (.int .i64 8) := BA.out.cell 0
  have a1 : w1.cell? ⟨A, 1, none⟩ = some (.int .i64 n) := BA.out.cell 1
  have a2 : w1.cell? ⟨A, 2, none⟩ = some (.int .i64 wd) := BA.out.cell 2
  go_upto_region 10 with fail
  have KS := Lib.hid (fun (w' : World) (q0 : w1.grownBy w' none) => (⟨q0.cell k0 (by simp), q0.cell l0 (by simp), q0.cell a1 (by simp), q0.cell a2 (by simp), q0⟩ : (fun w' : World => w'.cell? ⟨g, 0, none⟩ = some (.int .u32 v0) ∧ w'.cell? ⟨g, 1, none⟩ = some (.int .i64 w0) ∧ w'.cell? ⟨A, 1, none⟩ = some (.int .i64 n) ∧ w'.cell? ⟨A, 2, none⟩ = some (.int .i64 wd) ∧ w1.grownBy w' none) w'))
  have H0 := Lib.hid (gb_drew w1 none)
  refine wp_region_held_drew (S := (fun w' : World => w'.cell? ⟨g, 0, none⟩ = some (.int .u32 v0) ∧ w'.cell? ⟨g, 1, none⟩ = some (.int .i64 w0) ∧ w'.cell? ⟨A, 1, none⟩ = some (.int .i64 n) ∧ w'.cell? ⟨A, 2, none⟩ = some (.int .i64 wd) ∧ w1.grownBy w' none)) (by kernel_rfl) (KS.out _ H0.out) (fun hH0 => ?_)
  refine wpAnyH_take (i := 0) (v := ?v17) rfl (by kernel_rfl) (by kernel_rfl) (by kernel_rfl) (fun _ _ _ h => h) (Or.inl ⟨by rfl, ?hy17⟩) (by assumption) ?rest17
  case hy17 => (intro wz hSw; (try dsimp only at hSw); first | (go_simp; done) | (go_simp; with_reducible rfl))
  try simp only [Act.put, List.getElem_toArray, List.getElem_cons_zero, List.setIfInBounds_toArray, List.set_cons_zero, List.set_cons_succ]
  refine wpAnyH_take (i := 1) (v := ?v18) rfl (by kernel_rfl) (by kernel_rfl) (by kernel_rfl) (fun _ _ _ h => h) (Or.inl ⟨by rfl, ?hy18⟩) (by assumption) ?rest18
  case hy18 => (intro wz hSw; (try dsimp only at hSw); first | (go_simp; done) | (go_simp; with_reducible rfl))
  try simp only [Act.put, List.getElem_toArray, List.getElem_cons_succ, List.getElem_cons_zero, List.setIfInBounds_toArray, List.set_cons_zero, List.set_cons_succ]
  refine wpAnyH_take (i := 2) (v := ?v19) rfl (by kernel_rfl) (by kernel_rfl) (by kernel_rfl) (fun _ _ _ h => h) (Or.inl ⟨by rfl, ?hy19⟩) (by assumption) ?rest19
  case hy19 => (intro wz hSw; (try dsimp only at hSw); first | (go_simp; done) | (go_simp; with_reducible rfl))
  try simp only [Act.put, List.getElem_toArray, List.getElem_cons_succ, List.getElem_cons_zero, List.setIfInBounds_toArray, List.set_cons_zero, List.set_cons_succ]
  refine wpAnyH_take (i := 3) (v := ?v20) rfl (by kernel_rfl) (by kernel_rfl) (by kernel_rfl) (fun _ _ _ h => h) (Or.inl ⟨by rfl, ?hy20⟩) (by assumption) ?rest20
  case hy20 => (intro wz hSw; (try dsimp only at hSw); first | (go_simp; done) | (go_simp; with_reducible rfl))
  try simp only [Act.put, List.getElem_toArray, List.getElem_cons_succ, List.getElem_cons_zero, List.setIfInBounds_toArray, List.set_cons_zero, List.set_cons_succ]
  refine wpAnyH_take (i := 4) (v := ?v21) rfl (by kernel_rfl) (by kernel_rfl) (by kernel_rfl) (fun _ _ _ h => h) (Or.inl ⟨by rfl, ?hy21⟩) (by assumption) ?rest21
  case hy21 => (intro wz hSw; (try dsimp only at hSw); first | (go_simp; done) | (go_simp; with_reducible rfl))
  try simp only [Act.put, List.getElem_toArray, List.getElem_cons_succ, List.getElem_cons_zero, List.setIfInBounds_toArray, List.set_cons_zero, List.set_cons_succ]
  refine wpAnyH_take (i := 5) (v := ?v22) rfl (by kernel_rfl) (by kernel_rfl) (by kernel_rfl) (fun _ _ _ h => h) (Or.inl ⟨by rfl, ?hy22⟩) (by assumption) ?rest22
  case hy22 => (intro wz hSw; (try dsimp only at hSw); first | (go_simp; done) | (go_simp; with_reducible rfl))
  try simp only [Act.put, List.getElem_toArray, List.getElem_cons_succ, List.getElem_cons_zero, List.setIfInBounds_toArray, List.set_cons_zero, List.set_cons_succ]
  refine wpAnyH_take (i := 6) (v := ?v23) rfl (by kernel_rfl) (by kernel_rfl) (by kernel_rfl) (fun _ _ _ h => h) (Or.inl ⟨by rfl, ?hy23⟩) (by assumption) ?rest23
  case hy23 => (intro wz hSw; (try dsimp only at hSw); first | (go_simp; done) | (go_simp; with_reducible rfl))
  try simp only [Act.put, List.getElem_toArray, List.getElem_cons_succ, List.getElem_cons_zero, List.setIfInBounds_toArray, List.set_cons_zero, List.set_cons_succ]
  refine wpAnyH_take (i := 7) (v := ?v24) rfl (by kernel_rfl) (by kernel_rfl) (by kernel_rfl) (fun _ _ _ h => h) (Or.inl ⟨by rfl, ?hy24⟩) (by assumption) ?rest24
  case hy24 => (intro wz hSw; (try dsimp only at hSw); first | (go_simp; done) | (go_simp; with_reducible rfl))
  try simp only [Act.put, List.getElem_toArray, List.getElem_cons_succ, List.getElem_cons_zero, List.setIfInBounds_toArray, List.set_cons_zero, List.set_cons_succ]
  refine wpAnyH_ready (rs := [8]) (by kernel_rfl) (by simp) ?_
  refine AllReadyH.cons (o := _) rfl (fun K hK => ?_) AllReadyH.nil
  go_simp
  (with_reducible refine (NT.out _).mono ?_)
  rintro e hw1 ⟨rfl, g⟩
  have H1 := Lib.hid (gb_trans H0.out g)
  clear g
  try dsimp only
  refine hK.out _ _ (KS.out _ H1.out) (fun hH1 => ?_)
  clear hK K hH0
  try simp only [Act.put, List.getElem_toArray, List.getElem_cons_succ, List.getElem_cons_zero, List.setIfInBounds_toArray, List.set_cons_zero, List.set_cons_succ]
  refine wpAnyH_take (i := 9) (v := ?v25) rfl (by kernel_rfl) (by kernel_rfl) (by kernel_rfl) (fun _ _ _ h => h) (Or.inl ⟨by rfl, ?hy25⟩) (by assumption) ?rest25
  case hy25 => (intro wz hSw; (try dsimp only at hSw); first | (go_simp; done) | (go_simp; with_reducible rfl))
  try simp only [Act.put, List.getElem_toArray, List.getElem_cons_succ, List.getElem_cons_zero, List.setIfInBounds_toArray, List.set_cons_zero, List.set_cons_succ]
  refine wpAnyH_done (by kernel_rfl) ?_ _
  clear hH1
  go_wp2
  go_ret
  exact ⟨rfl, gb_trans GZ.out H1.out⟩
set_option maxRecDepth 100000 in
set_option maxHeartbeats 4000000 in
theorem rap_9 (w : World) (g c_ : Nat) (n wd v0 w0 v1 x1 : Int) (h0 : w.cell? ⟨g, 0, none⟩ = some (.int .u32 v0)) (j0 : w.cell? ⟨g, 1, none⟩ = some (.int .i64 w0)) (h1 : w.cell? ⟨g, 3, none⟩ = some (.int .u32 v1)) (j1 : w.cell? ⟨g, 4, none⟩ = some (.int .i64 x1)) (hv : 0 ≤ v0 ∧ v0 < 4294967296) (hv1 : 0 ≤ v1 ∧ v1 < 4294967296) :
    Calls Tryz.prog 46 #[.agg #[.int .i64 9, .int .i64 n, .int .i64 wd], .slice (some ⟨g, 0, none⟩) 2 c_] w (RetV (.int .u32 (addB v0 v1 w0)) w) := by
  have NT := Lib.hid (fun W => cl_g (radd_any v0 v1 w0 W hv.1 hv.2 hv1.1 hv1.2))
  generalize addB v0 v1 w0 = r at *
  clear hv hv1
  obtain ⟨A, hA⟩ : ∃ A, A = w.heap.size := ⟨_, rfl⟩
  obtain ⟨w1, hw1⟩ : ∃ w1, w1 = w.alloc (.cells #[.int .i64 9, .int .i64 n, .int .i64 wd] 66) := ⟨_, rfl⟩
  have BA := Lib.hid (show IsB w1 A 66 #[.int .i64 9, .int .i64 n, .int .i64 wd] from by rw [hw1, hA]; exact IsB.new _ _ _)
  have GZ := Lib.hid (show w.grownBy w1 none from by rw [hw1]; exact gb_al (gb_refl _ _))
  have k0 : w1.cell? ⟨g, 0, none⟩ = some (.int .u32 v0) := GZ.out.cell h0 (by simp)
  have l0 : w1.cell? ⟨g, 1, none⟩ = some (.int .i64 w0) := GZ.out.cell j0 (by simp)
  have k1 : w1.cell? ⟨g, 3, none⟩ = some (.int .u32 v1) := GZ.out.cell h1 (by simp)
  have l1 : w1.cell? ⟨g, 4, none⟩ = some (.int .i64 x1) := GZ.out.cell j1 (by simp)
  go_enter Tryz.func46, Tryz.ntmps46
  go_upto_region 1 with fail
  rw [← hA, ← hw1]
  clear hw1 hA
  have a0 : w1.cell? ⟨A, 0, none⟩ = some (.int .i64 9) := BA.out.cell 0
  have a1 : w1.cell? ⟨A, 1, none⟩ = some (.int .i64 n) := BA.out.cell 1
  have a2 : w1.cell? ⟨A, 2, none⟩ = some (.int .i64 wd) := BA.out.cell 2
  go_upto_region 12 with fail
  have KS := Lib.hid (fun (w' : World) (q0 : w1.grownBy w' none) => (⟨q0.cell k0 (by simp), q0.cell k1 (by simp), q0.cell l0 (by simp), q0.cell l1 (by simp), q0.cell a1 (by simp), q0.cell a2 (by simp), q0⟩ : (fun w' : World => w'.cell? ⟨g, 0, none⟩ = some (.int .u32 v0) ∧ w'.cell? ⟨g, 3, none⟩ = some (.int .u32 v1) ∧ w'.cell? ⟨g, 1, none⟩ = some (.int .i64 w0) ∧ w'.cell? ⟨g, 4, none⟩ = some (.int .i64 x1) ∧ w'.cell? ⟨A, 1, none⟩ = some (.int .i64 n) ∧ w'.cell? ⟨A, 2, none⟩ = some (.int .i64 wd) ∧ w1.grownBy w' none) w'))
  have H0 := Lib.hid (gb_drew w1 none)
  refine wp_region_held_drew (S := (fun w' : World => w'.cell? ⟨g, 0, none⟩ = some (.int .u32 v0) ∧ w'.cell? ⟨g, 3, none⟩ = some (.int .u32 v1) ∧ w'.cell? ⟨g, 1, none⟩ = some (.int .i64 w0) ∧ w'.cell? ⟨g, 4, none⟩ = some (.int .i64 x1) ∧ w'.cell? ⟨A, 1, none⟩ = some (.int .i64 n) ∧ w'.cell? ⟨A, 2, none⟩ = some (.int .i64 wd) ∧ w1.grownBy w' none)) (by kernel_rfl) (KS.out _ H0.out) (fun hH0 => ?_)
  refine wpAnyH_take (i := 0) (v := ?v26) rfl (by kernel_rfl) (by kernel_rfl) (by kernel_rfl) (fun _ _ _ h => h) (Or.inl ⟨by rfl, ?hy26⟩) (by assumption) ?rest26
  case hy26 => (intro wz hSw; (try dsimp only at hSw); first | (go_simp; done) | (go_simp; with_reducible rfl))
  try simp only [Act.put, List.getElem_toArray, List.getElem_cons_zero, List.setIfInBounds_toArray, List.set_cons_zero, List.set_cons_succ]
  refine wpAnyH_take (i := 1) (v := ?v27) rfl (by kernel_rfl) (by kernel_rfl) (by kernel_rfl) (fun _ _ _ h => h) (Or.inl ⟨by rfl, ?hy27⟩) (by assumption) ?rest27
  case hy27 => (intro wz hSw; (try dsimp only at hSw); first | (go_simp; done) | (go_simp; with_reducible rfl))
  try simp only [Act.put, List.getElem_toArray, List.getElem_cons_succ, List.getElem_cons_zero, List.setIfInBounds_toArray, List.set_cons_zero, List.set_cons_succ]
  refine wpAnyH_take (i := 2) (v := ?v28) rfl (by kernel_rfl) (by kernel_rfl) (by kernel_rfl) (fun _ _ _ h => h) (Or.inl ⟨by rfl, ?hy28⟩) (by assumption) ?rest28
  case hy28 => (intro wz hSw; (try dsimp only at hSw); first | (go_simp; done) | (go_simp; with_reducible rfl))
  try simp only [Act.put, List.getElem_toArray, List.getElem_cons_succ, List.getElem_cons_zero, List.setIfInBounds_toArray, List.set_cons_zero, List.set_cons_succ]
  refine wpAnyH_take (i := 3) (v := ?v29) rfl (by kernel_rfl) (by kernel_rfl) (by kernel_rfl) (fun _ _ _ h => h) (Or.inl ⟨by rfl, ?hy29⟩) (by assumption) ?rest29
  case hy29 => (intro wz hSw; (try dsimp only at hSw); first | (go_simp; done) | (go_simp; with_reducible rfl))
  try simp only [Act.put, List.getElem_toArray, List.getElem_cons_succ, List.getElem_cons_zero, List.setIfInBounds_toArray, List.set_cons_zero, List.set_cons_succ]
  refine wpAnyH_take (i := 4) (v := ?v30) rfl (by kernel_rfl) (by kernel_rfl) (by kernel_rfl) (fun _ _ _ h => h) (Or.inl ⟨by rfl, ?hy30⟩) (by assumption) ?rest30
  case hy30 => (intro wz hSw; (try dsimp only at hSw); first | (go_simp; done) | (go_simp; with_reducible rfl))
  try simp only [Act.put, List.getElem_toArray, List.getElem_cons_succ, List.getElem_cons_zero, List.setIfInBounds_toArray, List.set_cons_zero, List.set_cons_succ]
  refine wpAnyH_take (i := 5) (v := ?v31) rfl (by kernel_rfl) (by kernel_rfl) (by kernel_rfl) (fun _ _ _ h => h) (Or.inl ⟨by rfl, ?hy31⟩) (by assumption) ?rest31
  case hy31 => (intro wz hSw; (try dsimp only at hSw); first | (go_simp; done) | (go_simp; with_reducible rfl))
  try simp only [Act.put, List.getElem_toArray, List.getElem_cons_succ, List.getElem_cons_zero, List.setIfInBounds_toArray, List.set_cons_zero, List.set_cons_succ]
  refine wpAnyH_take (i := 6) (v := ?v32) rfl (by kernel_rfl) (by kernel_rfl) (by kernel_rfl) (fun _ _ _ h => h) (Or.inl ⟨by rfl, ?hy32⟩) (by assumption) ?rest32
  case hy32 => (intro wz hSw; (try dsimp only at hSw); first | (go_simp; done) | (go_simp; with_reducible rfl))
  try simp only [Act.put, List.getElem_toArray, List.getElem_cons_succ, List.getElem_cons_zero, List.setIfInBounds_toArray, List.set_cons_zero, List.set_cons_succ]
  refine wpAnyH_take (i := 7) (v := ?v33) rfl (by kernel_rfl) (by kernel_rfl) (by kernel_rfl) (fun _ _ _ h => h) (Or.inl ⟨by rfl, ?hy33⟩) (by assumption) ?rest33
  case hy33 => (intro wz hSw; (try dsimp only at hSw); first | (go_simp; done) | (go_simp; with_reducible rfl))
  try simp only [Act.put, List.getElem_toArray, List.getElem_cons_succ, List.getElem_cons_zero, List.setIfInBounds_toArray, List.set_cons_zero, List.set_cons_succ]
  refine wpAnyH_take (i := 8) (v := ?v34) rfl (by kernel_rfl) (by kernel_rfl) (by kernel_rfl) (fun _ _ _ h => h) (Or.inl ⟨by rfl, ?hy34⟩) (by assumption) ?rest34
  case hy34 => (intro wz hSw; (try dsimp only at hSw); first | (go_simp; done) | (go_simp; with_reducible rfl))
  try simp only [Act.put, List.getElem_toArray, List.getElem_cons_succ, List.getElem_cons_zero, List.setIfInBounds_toArray, List.set_cons_zero, List.set_cons_succ]
  refine wpAnyH_ready (rs := [9]) (by kernel_rfl) (by simp) ?_
  refine AllReadyH.cons (o := _) rfl (fun K hK => ?_) AllReadyH.nil
  go_simp
  (with_reducible refine (NT.out _).mono ?_)
  rintro e hw1 ⟨rfl, g⟩
  have H1 := Lib.hid (gb_trans H0.out g)
  clear g
  try dsimp only
  refine hK.out _ _ (KS.out _ H1.out) (fun hH1 => ?_)
  clear hK K hH0
  try simp only [Act.put, List.getElem_toArray, List.getElem_cons_succ, List.getElem_cons_zero, List.setIfInBounds_toArray, List.set_cons_zero, List.set_cons_succ]
  refine wpAnyH_take (i := 10) (v := ?v35) rfl (by kernel_rfl) (by kernel_rfl) (by kernel_rfl) (fun _ _ _ h => h) (Or.inl ⟨by rfl, ?hy35⟩) (by assumption) ?rest35
  case hy35 => (intro wz hSw; (try dsimp only at hSw); first | (go_simp; done) | (go_simp; with_reducible rfl))
  try simp only [Act.put, List.getElem_toArray, List.getElem_cons_succ, List.getElem_cons_zero, List.setIfInBounds_toArray, List.set_cons_zero, List.set_cons_succ]
  refine wpAnyH_done (by kernel_rfl) ?_ _
  clear hH1
  go_wp2
  go_ret
  exact ⟨rfl, gb_trans GZ.out H1.out⟩
set_option maxRecDepth 100000 in
set_option maxHeartbeats 4000000 in
theorem rap_10 (w : World) (g c_ : Nat) (n wd v0 w0 v1 x1 : Int) (h0 : w.cell? ⟨g, 0, none⟩ = some (.int .u32 v0)) (j0 : w.cell? ⟨g, 1, none⟩ = some (.int .i64 w0)) (h1 : w.cell? ⟨g, 3, none⟩ = some (.int .u32 v1)) (j1 : w.cell? ⟨g, 4, none⟩ = some (.int .i64 x1)) (hv : 0 ≤ v0 ∧ v0 < 4294967296) (hv1 : 0 ≤ v1 ∧ v1 < 4294967296) :
    Calls Tryz.prog 46 #[.agg #[.int .i64 10, .int .i64 n, .int .i64 wd], .slice (some ⟨g, 0, none⟩) 2 c_] w (RetV (.int .u32 (subB v0 v1 w0)) w) := by
  have NT := Lib.hid (fun W => cl_g (rsub_any v0 v1 w0 W hv.1 hv.2 hv1.1 hv1.2))
  generalize subB v0 v1 w0 = r at *
  clear hv hv1
  obtain ⟨A, hA⟩ : ∃ A, A = w.heap.size := ⟨_, rfl⟩
  obtain ⟨w1, hw1⟩ : ∃ w1, w1 = w.alloc (.cells #[.int .i64 10, .int .i64 n, .int .i64 wd] 66) := ⟨_, rfl⟩
  have BA := Lib.hid (show IsB w1 A 66 #[.int .i64 10, .int .i64 n, .int .i64 wd] from by rw [hw1, hA]; exact IsB.new _ _ _)
  have GZ := Lib.hid (show w.grownBy w1 none from by rw [hw1]; exact gb_al (gb_refl _ _))
  have k0 : w1.cell? ⟨g, 0, none⟩ = some (.int .u32 v0) := GZ.out.cell h0 (by simp)
  have l0 : w1.cell? ⟨g, 1, none⟩ = some (.int .i64 w0) := GZ.out.cell j0 (by simp)
  have k1 : w1.cell? ⟨g, 3, none⟩ = some (.int .u32 v1) := GZ.out.cell h1 (by simp)
  have l1 : w1.cell? ⟨g, 4, none⟩ = some (.int .i64 x1) := GZ.out.cell j1 (by simp)
  go_enter Tryz.func46, Tryz.ntmps46
  go_upto_region 1 with fail
  rw [← hA, ← hw1]
  clear hw1 hA
  have a0 : w1.cell? ⟨A, 0, none⟩ = some (.int .i64 10) := BA.out.cell 0
  have a1 : w1.cell? ⟨A, 1, none⟩ = some (.int .i64 n) := BA.out.cell 1
  have a2 : w1.cell? ⟨A, 2, none⟩ = some (.int .i64 wd) := BA.out.cell 2
  go_upto_region 14 with fail
  have KS := Lib.hid (fun (w' : World) (q0 : w1.grownBy w' none) => (⟨q0.cell k0 (by simp), q0.cell k1 (by simp), q0.cell l0 (by simp), q0.cell l1 (by simp), q0.cell a1 (by simp), q0.cell a2 (by simp), q0⟩ : (fun w' : World => w'.cell? ⟨g, 0, none⟩ = some (.int .u32 v0) ∧ w'.cell? ⟨g, 3, none⟩ = some (.int .u32 v1) ∧ w'.cell? ⟨g, 1, none⟩ = some (.int .i64 w0) ∧ w'.cell? ⟨g, 4, none⟩ = some (.int .i64 x1) ∧ w'.cell? ⟨A, 1, none⟩ = some (.int .i64 n) ∧ w'.cell? ⟨A, 2, none⟩ = some (.int .i64 wd) ∧ w1.grownBy w' none) w'))
  have H0 := Lib.hid (gb_drew w1 none)
  refine wp_region_held_drew (S := (fun w' : World => w'.cell? ⟨g, 0, none⟩ = some (.int .u32 v0) ∧ w'.cell? ⟨g, 3, none⟩ = some (.int .u32 v1) ∧ w'.cell? ⟨g, 1, none⟩ = some (.int .i64 w0) ∧ w'.cell? ⟨g, 4, none⟩ = some (.int .i64 x1) ∧ w'.cell? ⟨A, 1, none⟩ = some (.int .i64 n) ∧ w'.cell? ⟨A, 2, none⟩ = some (.int .i64 wd) ∧ w1.grownBy w' none)) (by kernel_rfl) (KS.out _ H0.out) (fun hH0 => ?_)
  refine wpAnyH_take (i := 0) (v := ?v36) rfl (by kernel_rfl) (by kernel_rfl) (by kernel_rfl) (fun _ _ _ h => h) (Or.inl ⟨by rfl, ?hy36⟩) (by assumption) ?rest36
  case hy36 => (intro wz hSw; (try dsimp only at hSw); first | (go_simp; done) | (go_simp; with_reducible rfl))
  try simp only [Act.put, List.getElem_toArray, List.getElem_cons_zero, List.setIfInBounds_toArray, List.set_cons_zero, List.set_cons_succ]
  refine wpAnyH_take (i := 1) (v := ?v37) rfl (by kernel_rfl) (by kernel_rfl) (by kernel_rfl) (fun _ _ _ h => h) (Or.inl ⟨by rfl, ?hy37⟩) (by assumption) ?rest37
  case hy37 => (intro wz hSw; (try dsimp only at hSw); first | (go_simp; done) | (go_simp; with_reducible rfl))
  try simp only [Act.put, List.getElem_toArray, List.getElem_cons_succ, List.getElem_cons_zero, List.setIfInBounds_toArray, List.set_cons_zero, List.set_cons_succ]
  refine wpAnyH_take (i := 2) (v := ?v38) rfl (by kernel_rfl) (by kernel_rfl) (by kernel_rfl) (fun _ _ _ h => h) (Or.inl ⟨by rfl, ?hy38⟩) (by assumption) ?rest38
  case hy38 => (intro wz hSw; (try dsimp only at hSw); first | (go_simp; done) | (go_simp; with_reducible rfl))
  try simp only [Act.put, List.getElem_toArray, List.getElem_cons_succ, List.getElem_cons_zero, List.setIfInBounds_toArray, List.set_cons_zero, List.set_cons_succ]
  refine wpAnyH_take (i := 3) (v := ?v39) rfl (by kernel_rfl) (by kernel_rfl) (by kernel_rfl) (fun _ _ _ h => h) (Or.inl ⟨by rfl, ?hy39⟩) (by assumption) ?rest39
  case hy39 => (intro wz hSw; (try dsimp only at hSw); first | (go_simp; done) | (go_simp; with_reducible rfl))
  try simp only [Act.put, List.getElem_toArray, List.getElem_cons_succ, List.getElem_cons_zero, List.setIfInBounds_toArray, List.set_cons_zero, List.set_cons_succ]
  refine wpAnyH_take (i := 4) (v := ?v40) rfl (by kernel_rfl) (by kernel_rfl) (by kernel_rfl) (fun _ _ _ h => h) (Or.inl ⟨by rfl, ?hy40⟩) (by assumption) ?rest40
  case hy40 => (intro wz hSw; (try dsimp only at hSw); first | (go_simp; done) | (go_simp; with_reducible rfl))
  try simp only [Act.put, List.getElem_toArray, List.getElem_cons_succ, List.getElem_cons_zero, List.setIfInBounds_toArray, List.set_cons_zero, List.set_cons_succ]
  refine wpAnyH_take (i := 5) (v := ?v41) rfl (by kernel_rfl) (by kernel_rfl) (by kernel_rfl) (fun _ _ _ h => h) (Or.inl ⟨by rfl, ?hy41⟩) (by assumption) ?rest41
  case hy41 => (intro wz hSw; (try dsimp only at hSw); first | (go_simp; done) | (go_simp; with_reducible rfl))
  try simp only [Act.put, List.getElem_toArray, List.getElem_cons_succ, List.getElem_cons_zero, List.setIfInBounds_toArray, List.set_cons_zero, List.set_cons_succ]
  refine wpAnyH_take (i := 6) (v := ?v42) rfl (by kernel_rfl) (by kernel_rfl) (by kernel_rfl) (fun _ _ _ h => h) (Or.inl ⟨by rfl, ?hy42⟩) (by assumption) ?rest42
  case hy42 => (intro wz hSw; (try dsimp only at hSw); first | (go_simp; done) | (go_simp; with_reducible rfl))
  try simp only [Act.put, List.getElem_toArray, List.getElem_cons_succ, List.getElem_cons_zero, List.setIfInBounds_toArray, List.set_cons_zero, List.set_cons_succ]
  refine wpAnyH_take (i := 7) (v := ?v43) rfl (by kernel_rfl) (by kernel_rfl) (by kernel_rfl) (fun _ _ _ h => h) (Or.inl ⟨by rfl, ?hy43⟩) (by assumption) ?rest43
  case hy43 => (intro wz hSw; (try dsimp only at hSw); first | (go_simp; done) | (go_simp; with_reducible rfl))
  try simp only [Act.put, List.getElem_toArray, List.getElem_cons_succ, List.getElem_cons_zero, List.setIfInBounds_toArray, List.set_cons_zero, List.set_cons_succ]
  refine wpAnyH_take (i := 8) (v := ?v44) rfl (by kernel_rfl) (by kernel_rfl) (by kernel_rfl) (fun _ _ _ h => h) (Or.inl ⟨by rfl, ?hy44⟩) (by assumption) ?rest44
  case hy44 => (intro wz hSw; (try dsimp only at hSw); first | (go_simp; done) | (go_simp; with_reducible rfl))
  try simp only [Act.put, List.getElem_toArray, List.getElem_cons_succ, List.getElem_cons_zero, List.setIfInBounds_toArray, List.set_cons_zero, List.set_cons_succ]
  refine wpAnyH_ready (rs := [9]) (by kernel_rfl) (by simp) ?_
  refine AllReadyH.cons (o := _) rfl (fun K hK => ?_) AllReadyH.nil
  go_simp
  (with_reducible refine (NT.out _).mono ?_)
  rintro e hw1 ⟨rfl, g⟩
  have H1 := Lib.hid (gb_trans H0.out g)
  clear g
  try dsimp only
  refine hK.out _ _ (KS.out _ H1.out) (fun hH1 => ?_)
  clear hK K hH0
  try simp only [Act.put, List.getElem_toArray, List.getElem_cons_succ, List.getElem_cons_zero, List.setIfInBounds_toArray, List.set_cons_zero, List.set_cons_succ]
  refine wpAnyH_take (i := 10) (v := ?v45) rfl (by kernel_rfl) (by kernel_rfl) (by kernel_rfl) (fun _ _ _ h => h) (Or.inl ⟨by rfl, ?hy45⟩) (by assumption) ?rest45
  case hy45 => (intro wz hSw; (try dsimp only at hSw); first | (go_simp; done) | (go_simp; with_reducible rfl))
  try simp only [Act.put, List.getElem_toArray, List.getElem_cons_succ, List.getElem_cons_zero, List.setIfInBounds_toArray, List.set_cons_zero, List.set_cons_succ]
  refine wpAnyH_done (by kernel_rfl) ?_ _
  clear hH1
  go_wp2
  go_ret
  exact ⟨rfl, gb_trans GZ.out H1.out⟩
set_option maxRecDepth 100000 in
set_option maxHeartbeats 4000000 in
theorem rap_11 (w : World) (g c_ : Nat) (n wd v0 w0 v1 x1 : Int) (h0 : w.cell? ⟨g, 0, none⟩ = some (.int .u32 v0)) (j0 : w.cell? ⟨g, 1, none⟩ = some (.int .i64 w0)) (h1 : w.cell? ⟨g, 3, none⟩ = some (.int .u32 v1)) (j1 : w.cell? ⟨g, 4, none⟩ = some (.int .i64 x1))  :
    Calls Tryz.prog 46 #[.agg #[.int .i64 11, .int .i64 n, .int .i64 wd], .slice (some ⟨g, 0, none⟩) 2 c_] w (RetV (.int .u32 (bits .and .u32 v0 v1)) w) := by
  obtain ⟨A, hA⟩ : ∃ A, A = w.heap.size := ⟨_, rfl⟩
  obtain ⟨w1, hw1⟩ : ∃ w1, w1 = w.alloc (.cells #[.int .i64 11, .int .i64 n, .int .i64 wd] 66) := ⟨_, rfl⟩
  have BA := Lib.hid (show IsB w1 A 66 #[.int .i64 11, .int .i64 n, .int .i64 wd] from by rw [hw1, hA]; exact IsB.new _ _ _)
  have GZ := Lib.hid (show w.grownBy w1 none from by rw [hw1]; exact gb_al (gb_refl _ _))
  have k0 : w1.cell? ⟨g, 0, none⟩ = some (.int .u32 v0) := GZ.out.cell h0 (by simp)
  have l0 : w1.cell? ⟨g, 1, none⟩ = some (.int .i64 w0) := GZ.out.cell j0 (by simp)
  have k1 : w1.cell? ⟨g, 3, none⟩ = some (.int .u32 v1) := GZ.out.cell h1 (by simp)
  have l1 : w1.cell? ⟨g, 4, none⟩ = some (.int .i64 x1) := GZ.out.cell j1 (by simp)
  go_enter Tryz.func46, Tryz.ntmps46
  go_upto_region 1 with fail
  rw [← hA, ← hw1]
  clear hw1 hA
  have a0 : w1.cell? ⟨A, 0, none⟩ = some (.int .i64 11) := BA.out.cell 0
  have a1 : w1.cell? ⟨A, 1, none⟩ = some (.int .i64 n) := BA.out.cell 1
  have a2 : w1.cell? ⟨A, 2, none⟩ = some (.int .i64 wd) := BA.out.cell 2
  go_upto_region 16 with fail
  have KS := Lib.hid (fun (w' : World) (q0 : w1.grownBy w' none) => (⟨q0.cell k0 (by simp), q0.cell k1 (by simp), q0.cell l0 (by simp), q0.cell l1 (by simp), q0.cell a1 (by simp), q0.cell a2 (by simp), q0⟩ : (fun w' : World => w'.cell? ⟨g, 0, none⟩ = some (.int .u32 v0) ∧ w'.cell? ⟨g, 3, none⟩ = some (.int .u32 v1) ∧ w'.cell? ⟨g, 1, none⟩ = some (.int .i64 w0) ∧ w'.cell? ⟨g, 4, none⟩ = some (.int .i64 x1) ∧ w'.cell? ⟨A, 1, none⟩ = some (.int .i64 n) ∧ w'.cell? ⟨A, 2, none⟩ = some (.int .i64 wd) ∧ w1.grownBy w' none) w'))
  have H0 := Lib.hid (gb_drew w1 none)
  refine wp_region_held_drew (S := (fun w' : World => w'.cell? ⟨g, 0, none⟩ = some (.int .u32 v0) ∧ w'.cell? ⟨g, 3, none⟩ = some (.int .u32 v1) ∧ w'.cell? ⟨g, 1, none⟩ = some (.int .i64 w0) ∧ w'.cell? ⟨g, 4, none⟩ = some (.int .i64 x1) ∧ w'.cell? ⟨A, 1, none⟩ = some (.int .i64 n) ∧ w'.cell? ⟨A, 2, none⟩ = some (.int .i64 wd) ∧ w1.grownBy w' none)) (by kernel_rfl) (KS.out _ H0.out) (fun hH0 => ?_)
  refine wpAnyH_take (i := 0) (v := ?v46) rfl (by kernel_rfl) (by kernel_rfl) (by kernel_rfl) (fun _ _ _ h => h) (Or.inl ⟨by rfl, ?hy46⟩) (by assumption) ?rest46
  case hy46 => (intro wz hSw; (try dsimp only at hSw); first | (go_simp; done) | (go_simp; with_reducible rfl))
  try simp only [Act.put, List.getElem_toArray, List.getElem_cons_zero, List.setIfInBounds_toArray, List.set_cons_zero, List.set_cons_succ]
  refine wpAnyH_take (i := 1) (v := ?v47) rfl (by kernel_rfl) (by kernel_rfl) (by kernel_rfl) (fun _ _ _ h => h) (Or.inl ⟨by rfl, ?hy47⟩) (by assumption) ?rest47
  case hy47 => (intro wz hSw; (try dsimp only at hSw); first | (go_simp; done) | (go_simp; with_reducible rfl))
  try simp only [Act.put, List.getElem_toArray, List.getElem_cons_succ, List.getElem_cons_zero, List.setIfInBounds_toArray, List.set_cons_zero, List.set_cons_succ]
  refine wpAnyH_take (i := 2) (v := ?v48) rfl (by kernel_rfl) (by kernel_rfl) (by kernel_rfl) (fun _ _ _ h => h) (Or.inl ⟨by rfl, ?hy48⟩) (by assumption) ?rest48
  case hy48 => (intro wz hSw; (try dsimp only at hSw); first | (go_simp; done) | (go_simp; with_reducible rfl))
  try simp only [Act.put, List.getElem_toArray, List.getElem_cons_succ, List.getElem_cons_zero, List.setIfInBounds_toArray, List.set_cons_zero, List.set_cons_succ]
  refine wpAnyH_take (i := 3) (v := ?v49) rfl (by kernel_rfl) (by kernel_rfl) (by kernel_rfl) (fun _ _ _ h => h) (Or.inl ⟨by rfl, ?hy49⟩) (by assumption) ?rest49
  case hy49 => (intro wz hSw; (try dsimp only at hSw); first | (go_simp; done) | (go_simp; with_reducible rfl))
  try simp only [Act.put, List.getElem_toArray, List.getElem_cons_succ, List.getElem_cons_zero, List.setIfInBounds_toArray, List.set_cons_zero, List.set_cons_succ]
  refine wpAnyH_take (i := 4) (v := ?v50) rfl (by kernel_rfl) (by kernel_rfl) (by kernel_rfl) (fun _ _ _ h => h) (Or.inl ⟨by rfl, ?hy50⟩) (by assumption) ?rest50
  case hy50 => (intro wz hSw; (try dsimp only at hSw); first | (go_simp; done) | (go_simp; with_reducible rfl))
  try simp only [Act.put, List.getElem_toArray, List.getElem_cons_succ, List.getElem_cons_zero, List.setIfInBounds_toArray, List.set_cons_zero, List.set_cons_succ]
  refine wpAnyH_take (i := 5) (v := ?v51) rfl (by kernel_rfl) (by kernel_rfl) (by kernel_rfl) (fun _ _ _ h => h) (Or.inl ⟨by rfl, ?hy51⟩) (by assumption) ?rest51
  case hy51 => (intro wz hSw; (try dsimp only at hSw); first | (go_simp; done) | (go_simp; with_reducible rfl))
  try simp only [Act.put, List.getElem_toArray, List.getElem_cons_succ, List.getElem_cons_zero, List.setIfInBounds_toArray, List.set_cons_zero, List.set_cons_succ]
  refine wpAnyH_take (i := 6) (v := ?v52) rfl (by kernel_rfl) (by kernel_rfl) (by kernel_rfl) (fun _ _ _ h => h) (Or.inl ⟨by rfl, ?hy52⟩) (by assumption) ?rest52
  case hy52 => (intro wz hSw; (try dsimp only at hSw); first | (go_simp; done) | (go_simp; with_reducible rfl))
  try simp only [Act.put, List.getElem_toArray, List.getElem_cons_succ, List.getElem_cons_zero, List.setIfInBounds_toArray, List.set_cons_zero, List.set_cons_succ]
  refine wpAnyH_take (i := 7) (v := ?v53) rfl (by kernel_rfl) (by kernel_rfl) (by kernel_rfl) (fun _ _ _ h => h) (Or.inl ⟨by rfl, ?hy53⟩) (by assumption) ?rest53
  case hy53 => (intro wz hSw; (try dsimp only at hSw); first | (go_simp; done) | (go_simp; with_reducible rfl))
  try simp only [Act.put, List.getElem_toArray, List.getElem_cons_succ, List.getElem_cons_zero, List.setIfInBounds_toArray, List.set_cons_zero, List.set_cons_succ]
  refine wpAnyH_take (i := 8) (v := ?v54) rfl (by kernel_rfl) (by kernel_rfl) (by kernel_rfl) (fun _ _ _ h => h) (Or.inl ⟨by rfl, ?hy54⟩) (by assumption) ?rest54
  case hy54 => (intro wz hSw; (try dsimp only at hSw); first | (go_simp; done) | (go_simp; with_reducible rfl))
  try simp only [Act.put, List.getElem_toArray, List.getElem_cons_succ, List.getElem_cons_zero, List.setIfInBounds_toArray, List.set_cons_zero, List.set_cons_succ]
  refine wpAnyH_take (i := 9) (v := ?v55) rfl (by kernel_rfl) (by kernel_rfl) (by kernel_rfl) (fun _ _ _ h => h) (Or.inl ⟨by rfl, ?hy55⟩) (by assumption) ?rest55
  case hy55 => (intro wz hSw; (try dsimp only at hSw); first | (go_simp; done) | (go_simp; with_reducible rfl))
  try simp only [Act.put, List.getElem_toArray, List.getElem_cons_succ, List.getElem_cons_zero, List.setIfInBounds_toArray, List.set_cons_zero, List.set_cons_succ]
  refine wpAnyH_done (by kernel_rfl) ?_ _
  clear hH0
  go_wp2
  go_ret
  exact ⟨rfl, gb_trans GZ.out H0.out⟩
set_option maxRecDepth 100000 in
set_option maxHeartbeats 4000000 in
theorem rap_12 (w : World) (g c_ : Nat) (n wd v0 w0 v1 x1 : Int) (h0 : w.cell? ⟨g, 0, none⟩ = some (.int .u32 v0)) (j0 : w.cell? ⟨g, 1, none⟩ = some (.int .i64 w0)) (h1 : w.cell? ⟨g, 3, none⟩ = some (.int .u32 v1)) (j1 : w.cell? ⟨g, 4, none⟩ = some (.int .i64 x1))  :
    Calls Tryz.prog 46 #[.agg #[.int .i64 12, .int .i64 n, .int .i64 wd], .slice (some ⟨g, 0, none⟩) 2 c_] w (RetV (.int .u32 (bits .or .u32 v0 v1)) w) := by
  obtain ⟨A, hA⟩ : ∃ A, A = w.heap.size := ⟨_, rfl⟩
  obtain ⟨w1, hw1⟩ : ∃ w1, w1 = w.alloc (.cells #[.int .i64 12, .int .i64 n, .int .i64 wd] 66) := ⟨_, rfl⟩
  have BA := Lib.hid (show IsB w1 A 66 #[.int .i64 12, .int .i64 n, .int .i64 wd] from by rw [hw1, hA]; exact IsB.new _ _ _)
  have GZ := Lib.hid (show w.grownBy w1 none from by rw [hw1]; exact gb_al (gb_refl _ _))
  have k0 : w1.cell? ⟨g, 0, none⟩ = some (.int .u32 v0) := GZ.out.cell h0 (by simp)
  have l0 : w1.cell? ⟨g, 1, none⟩ = some (.int .i64 w0) := GZ.out.cell j0 (by simp)
  have k1 : w1.cell? ⟨g, 3, none⟩ = some (.int .u32 v1) := GZ.out.cell h1 (by simp)
  have l1 : w1.cell? ⟨g, 4, none⟩ = some (.int .i64 x1) := GZ.out.cell j1 (by simp)
  go_enter Tryz.func46, Tryz.ntmps46
  go_upto_region 1 with fail
  rw [← hA, ← hw1]
  clear hw1 hA
  have a0 : w1.cell? ⟨A, 0, none⟩ = some (.int .i64 12) := BA.out.cell 0
  have a1 : w1.cell? ⟨A, 1, none⟩ = some (.int .i64 n) := BA.out.cell 1
  have a2 : w1.cell? ⟨A, 2, none⟩ = some (.int .i64 wd) := BA.out.cell 2
  go_upto_region 18 with fail
  have KS := Lib.hid (fun (w' : World) (q0 : w1.grownBy w' none) => (⟨q0.cell k0 (by simp), q0.cell k1 (by simp), q0.cell l0 (by simp), q0.cell l1 (by simp), q0.cell a1 (by simp), q0.cell a2 (by simp), q0⟩ : (fun w' : World => w'.cell? ⟨g, 0, none⟩ = some (.int .u32 v0) ∧ w'.cell? ⟨g, 3, none⟩ = some (.int .u32 v1) ∧ w'.cell? ⟨g, 1, none⟩ = some (.int .i64 w0) ∧ w'.cell? ⟨g, 4, none⟩ = some (.int .i64 x1) ∧ w'.cell? ⟨A, 1, none⟩ = some (.int .i64 n) ∧ w'.cell? ⟨A, 2, none⟩ = some (.int .i64 wd) ∧ w1.grownBy w' none) w'))
  have H0 := Lib.hid (gb_drew w1 none)
  refine wp_region_held_drew (S := (fun w' : World => w'.cell? ⟨g, 0, none⟩ = some (.int .u32 v0) ∧ w'.cell? ⟨g, 3, none⟩ = some (.int .u32 v1) ∧ w'.cell? ⟨g, 1, none⟩ = some (.int .i64 w0) ∧ w'.cell? ⟨g, 4, none⟩ = some (.int .i64 x1) ∧ w'.cell? ⟨A, 1, none⟩ = some (.int .i64 n) ∧ w'.cell? ⟨A, 2, none⟩ = some (.int .i64 wd) ∧ w1.grownBy w' none)) (by kernel_rfl) (KS.out _ H0.out) (fun hH0 => ?_)
  refine wpAnyH_take (i := 0) (v := ?v56) rfl (by kernel_rfl) (by kernel_rfl) (by kernel_rfl) (fun _ _ _ h => h) (Or.inl ⟨by rfl, ?hy56⟩) (by assumption) ?rest56
  case hy56 => (intro wz hSw; (try dsimp only at hSw); first | (go_simp; done) | (go_simp; with_reducible rfl))
  try simp only [Act.put, List.getElem_toArray, List.getElem_cons_zero, List.setIfInBounds_toArray, List.set_cons_zero, List.set_cons_succ]
  refine wpAnyH_take (i := 1) (v := ?v57) rfl (by kernel_rfl) (by kernel_rfl) (by kernel_rfl) (fun _ _ _ h => h) (Or.inl ⟨by rfl, ?hy57⟩) (by assumption) ?rest57
  case hy57 => (intro wz hSw; (try dsimp only at hSw); first | (go_simp; done) | (go_simp; with_reducible rfl))
  try simp only [Act.put, List.getElem_toArray, List.getElem_cons_succ, List.getElem_cons_zero, List.setIfInBounds_toArray, List.set_cons_zero, List.set_cons_succ]
  refine wpAnyH_take (i := 2) (v := ?v58) rfl (by kernel_rfl) (by kernel_rfl) (by kernel_rfl) (fun _ _ _ h => h) (Or.inl ⟨by rfl, ?hy58⟩) (by assumption) ?rest58
  case hy58 => (intro wz hSw; (try dsimp only at hSw); first | (go_simp; done) | (go_simp; with_reducible rfl))
  try simp only [Act.put, List.getElem_toArray, List.getElem_cons_succ, List.getElem_cons_zero, List.setIfInBounds_toArray, List.set_cons_zero, List.set_cons_succ]
  refine wpAnyH_take (i := 3) (v := ?v59) rfl (by kernel_rfl) (by kernel_rfl) (by kernel_rfl) (fun _ _ _ h => h) (Or.inl ⟨by rfl, ?hy59⟩) (by assumption) ?rest59
  case hy59 => (intro wz hSw; (try dsimp only at hSw); first | (go_simp; done) | (go_simp; with_reducible rfl))
  try simp only [Act.put, List.getElem_toArray, List.getElem_cons_succ, List.getElem_cons_zero, List.setIfInBounds_toArray, List.set_cons_zero, List.set_cons_succ]
  refine wpAnyH_take (i := 4) (v := ?v60) rfl (by kernel_rfl) (by kernel_rfl) (by kernel_rfl) (fun _ _ _ h => h) (Or.inl ⟨by rfl, ?hy60⟩) (by assumption) ?rest60
  case hy60 => (intro wz hSw; (try dsimp only at hSw); first | (go_simp; done) | (go_simp; with_reducible rfl))
  try simp only [Act.put, List.getElem_toArray, List.getElem_cons_succ, List.getElem_cons_zero, List.setIfInBounds_toArray, List.set_cons_zero, List.set_cons_succ]
  refine wpAnyH_take (i := 5) (v := ?v61) rfl (by kernel_rfl) (by kernel_rfl) (by kernel_rfl) (fun _ _ _ h => h) (Or.inl ⟨by rfl, ?hy61⟩) (by assumption) ?rest61
  case hy61 => (intro wz hSw; (try dsimp only at hSw); first | (go_simp; done) | (go_simp; with_reducible rfl))
  try simp only [Act.put, List.getElem_toArray, List.getElem_cons_succ, List.getElem_cons_zero, List.setIfInBounds_toArray, List.set_cons_zero, List.set_cons_succ]
  refine wpAnyH_take (i := 6) (v := ?v62) rfl (by kernel_rfl) (by kernel_rfl) (by kernel_rfl) (fun _ _ _ h => h) (Or.inl ⟨by rfl, ?hy62⟩) (by assumption) ?rest62
  case hy62 => (intro wz hSw; (try dsimp only at hSw); first | (go_simp; done) | (go_simp; with_reducible rfl))
  try simp only [Act.put, List.getElem_toArray, List.getElem_cons_succ, List.getElem_cons_zero, List.setIfInBounds_toArray, List.set_cons_zero, List.set_cons_succ]
  refine wpAnyH_take (i := 7) (v := ?v63) rfl (by kernel_rfl) (by kernel_rfl) (by kernel_rfl) (fun _ _ _ h => h) (Or.inl ⟨by rfl, ?hy63⟩) (by assumption) ?rest63
  case hy63 => (intro wz hSw; (try dsimp only at hSw); first | (go_simp; done) | (go_simp; with_reducible rfl))
  try simp only [Act.put, List.getElem_toArray, List.getElem_cons_succ, List.getElem_cons_zero, List.setIfInBounds_toArray, List.set_cons_zero, List.set_cons_succ]
  refine wpAnyH_take (i := 8) (v := ?v64) rfl (by kernel_rfl) (by kernel_rfl) (by kernel_rfl) (fun _ _ _ h => h) (Or.inl ⟨by rfl, ?hy64⟩) (by assumption) ?rest64
  case hy64 => (intro wz hSw; (try dsimp only at hSw); first | (go_simp; done) | (go_simp; with_reducible rfl))
  try simp only [Act.put, List.getElem_toArray, List.getElem_cons_succ, List.getElem_cons_zero, List.setIfInBounds_toArray, List.set_cons_zero, List.set_cons_succ]
  refine wpAnyH_take (i := 9) (v := ?v65) rfl (by kernel_rfl) (by kernel_rfl) (by kernel_rfl) (fun _ _ _ h => h) (Or.inl ⟨by rfl, ?hy65⟩) (by assumption) ?rest65
  case hy65 => (intro wz hSw; (try dsimp only at hSw); first | (go_simp; done) | (go_simp; with_reducible rfl))
  try simp only [Act.put, List.getElem_toArray, List.getElem_cons_succ, List.getElem_cons_zero, List.setIfInBounds_toArray, List.set_cons_zero, List.set_cons_succ]
  refine wpAnyH_done (by kernel_rfl) ?_ _
  clear hH0
  go_wp2
  go_ret
  exact ⟨rfl, gb_trans GZ.out H0.out⟩
set_option maxRecDepth 100000 in
set_option maxHeartbeats 4000000 in
theorem rap_13 (w : World) (g c_ : Nat) (n wd v0 w0 v1 x1 : Int) (h0 : w.cell? ⟨g, 0, none⟩ = some (.int .u32 v0)) (j0 : w.cell? ⟨g, 1, none⟩ = some (.int .i64 w0)) (h1 : w.cell? ⟨g, 3, none⟩ = some (.int .u32 v1)) (j1 : w.cell? ⟨g, 4, none⟩ = some (.int .i64 x1))  :
    Calls Tryz.prog 46 #[.agg #[.int .i64 13, .int .i64 n, .int .i64 wd], .slice (some ⟨g, 0, none⟩) 2 c_] w (RetV (.int .u32 (bits .xor .u32 v0 v1)) w) := by
  obtain ⟨A, hA⟩ : ∃ A, A = w.heap.size := ⟨_, rfl⟩
  obtain ⟨w1, hw1⟩ : ∃ w1, w1 = w.alloc (.cells #[.int .i64 13, .int .i64 n, .int .i64 wd] 66) := ⟨_, rfl⟩
  have BA := Lib.hid (show IsB w1 A 66 #[.int .i64 13, .int .i64 n, .int .i64 wd] from by rw [hw1, hA]; exact IsB.new _ _ _)
  have GZ := Lib.hid (show w.grownBy w1 none from by rw [hw1]; exact gb_al (gb_refl _ _))
  have k0 : w1.cell? ⟨g, 0, none⟩ = some (.int .u32 v0) := GZ.out.cell h0 (by simp)
  have l0 : w1.cell? ⟨g, 1, none⟩ = some (.int .i64 w0) := GZ.out.cell j0 (by simp)
  have k1 : w1.cell? ⟨g, 3, none⟩ = some (.int .u32 v1) := GZ.out.cell h1 (by simp)
  have l1 : w1.cell? ⟨g, 4, none⟩ = some (.int .i64 x1) := GZ.out.cell j1 (by simp)
  go_enter Tryz.func46, Tryz.ntmps46
  go_upto_region 1 with fail
  rw [← hA, ← hw1]
  clear hw1 hA
  have a0 : w1.cell? ⟨A, 0, none⟩ = some (.int .i64 13) := BA.out.cell 0
  have a1 : w1.cell? ⟨A, 1, none⟩ = some (.int .i64 n) := BA.out.cell 1
  have a2 : w1.cell? ⟨A, 2, none⟩ = some (.int .i64 wd) := BA.out.cell 2
  go_upto_region 20 with fail
  have KS := Lib.hid (fun (w' : World) (q0 : w1.grownBy w' none) => (⟨q0.cell k0 (by simp), q0.cell k1 (by simp), q0.cell l0 (by simp), q0.cell l1 (by simp), q0.cell a1 (by simp), q0.cell a2 (by simp), q0⟩ : (fun w' : World => w'.cell? ⟨g, 0, none⟩ = some (.int .u32 v0) ∧ w'.cell? ⟨g, 3, none⟩ = some (.int .u32 v1) ∧ w'.cell? ⟨g, 1, none⟩ = some (.int .i64 w0) ∧ w'.cell? ⟨g, 4, none⟩ = some (.int .i64 x1) ∧ w'.cell? ⟨A, 1, none⟩ = some (.int .i64 n) ∧ w'.cell? ⟨A, 2, none⟩ = some (.int .i64 wd) ∧ w1.grownBy w' none) w'))
  have H0 := Lib.hid (gb_drew w1 none)
  refine wp_region_held_drew (S := (fun w' : World => w'.cell? ⟨g, 0, none⟩ = some (.int .u32 v0) ∧ w'.cell? ⟨g, 3, none⟩ = some (.int .u32 v1) ∧ w'.cell? ⟨g, 1, none⟩ = some (.int .i64 w0) ∧ w'.cell? ⟨g, 4, none⟩ = some (.int .i64 x1) ∧ w'.cell? ⟨A, 1, none⟩ = some (.int .i64 n) ∧ w'.cell? ⟨A, 2, none⟩ = some (.int .i64 wd) ∧ w1.grownBy w' none)) (by kernel_rfl) (KS.out _ H0.out) (fun hH0 => ?_)
  refine wpAnyH_take (i := 0) (v := ?v66) rfl (by kernel_rfl) (by kernel_rfl) (by kernel_rfl) (fun _ _ _ h => h) (Or.inl ⟨by rfl, ?hy66⟩) (by assumption) ?rest66
  case hy66 => (intro wz hSw; (try dsimp only at hSw); first | (go_simp; done) | (go_simp; with_reducible rfl))
  try simp only [Act.put, List.getElem_toArray, List.getElem_cons_zero, List.setIfInBounds_toArray, List.set_cons_zero, List.set_cons_succ]
  refine wpAnyH_take (i := 1) (v := ?v67) rfl (by kernel_rfl) (by kernel_rfl) (by kernel_rfl) (fun _ _ _ h => h) (Or.inl ⟨by rfl, ?hy67⟩) (by assumption) ?rest67
  case hy67 => (intro wz hSw; (try dsimp only at hSw); first | (go_simp; done) | (go_simp; with_reducible rfl))
  try simp only [Act.put, List.getElem_toArray, List.getElem_cons_succ, List.getElem_cons_zero, List.setIfInBounds_toArray, List.set_cons_zero, List.set_cons_succ]
  refine wpAnyH_take (i := 2) (v := ?v68) rfl (by kernel_rfl) (by kernel_rfl) (by kernel_rfl) (fun _ _ _ h => h) (Or.inl ⟨by rfl, ?hy68⟩) (by assumption) ?rest68
  case hy68 => (intro wz hSw; (try dsimp only at hSw); first | (go_simp; done) | (go_simp; with_reducible rfl))
  try simp only [Act.put, List.getElem_toArray, List.getElem_cons_succ, List.getElem_cons_zero, List.setIfInBounds_toArray, List.set_cons_zero, List.set_cons_succ]
  refine wpAnyH_take (i := 3) (v := ?v69) rfl (by kernel_rfl) (by kernel_rfl) (by kernel_rfl) (fun _ _ _ h => h) (Or.inl ⟨by rfl, ?hy69⟩) (by assumption) ?rest69
  case hy69 => (intro wz hSw; (try dsimp only at hSw); first | (go_simp; done) | (go_simp; with_reducible rfl))
  try simp only [Act.put, List.getElem_toArray, List.getElem_cons_succ, List.getElem_cons_zero, List.setIfInBounds_toArray, List.set_cons_zero, List.set_cons_succ]
  refine wpAnyH_take (i := 4) (v := ?v70) rfl (by kernel_rfl) (by kernel_rfl) (by kernel_rfl) (fun _ _ _ h => h) (Or.inl ⟨by rfl, ?hy70⟩) (by assumption) ?rest70
  case hy70 => (intro wz hSw; (try dsimp only at hSw); first | (go_simp; done) | (go_simp; with_reducible rfl))
  try simp only [Act.put, List.getElem_toArray, List.getElem_cons_succ, List.getElem_cons_zero, List.setIfInBounds_toArray, List.set_cons_zero, List.set_cons_succ]
  refine wpAnyH_take (i := 5) (v := ?v71) rfl (by kernel_rfl) (by kernel_rfl) (by kernel_rfl) (fun _ _ _ h => h) (Or.inl ⟨by rfl, ?hy71⟩) (by assumption) ?rest71
  case hy71 => (intro wz hSw; (try dsimp only at hSw); first | (go_simp; done) | (go_simp; with_reducible rfl))
  try simp only [Act.put, List.getElem_toArray, List.getElem_cons_succ, List.getElem_cons_zero, List.setIfInBounds_toArray, List.set_cons_zero, List.set_cons_succ]
  refine wpAnyH_take (i := 6) (v := ?v72) rfl (by kernel_rfl) (by kernel_rfl) (by kernel_rfl) (fun _ _ _ h => h) (Or.inl ⟨by rfl, ?hy72⟩) (by assumption) ?rest72
  case hy72 => (intro wz hSw; (try dsimp only at hSw); first | (go_simp; done) | (go_simp; with_reducible rfl))
  try simp only [Act.put, List.getElem_toArray, List.getElem_cons_succ, List.getElem_cons_zero, List.setIfInBounds_toArray, List.set_cons_zero, List.set_cons_succ]
  refine wpAnyH_take (i := 7) (v := ?v73) rfl (by kernel_rfl) (by kernel_rfl) (by kernel_rfl) (fun _ _ _ h => h) (Or.inl ⟨by rfl, ?hy73⟩) (by assumption) ?rest73
  case hy73 => (intro wz hSw; (try dsimp only at hSw); first | (go_simp; done) | (go_simp; with_reducible rfl))
  try simp only [Act.put, List.getElem_toArray, List.getElem_cons_succ, List.getElem_cons_zero, List.setIfInBounds_toArray, List.set_cons_zero, List.set_cons_succ]
  refine wpAnyH_take (i := 8) (v := ?v74) rfl (by kernel_rfl) (by kernel_rfl) (by kernel_rfl) (fun _ _ _ h => h) (Or.inl ⟨by rfl, ?hy74⟩) (by assumption) ?rest74
  case hy74 => (intro wz hSw; (try dsimp only at hSw); first | (go_simp; done) | (go_simp; with_reducible rfl))
  try simp only [Act.put, List.getElem_toArray, List.getElem_cons_succ, List.getElem_cons_zero, List.setIfInBounds_toArray, List.set_cons_zero, List.set_cons_succ]
  refine wpAnyH_take (i := 9) (v := ?v75) rfl (by kernel_rfl) (by kernel_rfl) (by kernel_rfl) (fun _ _ _ h => h) (Or.inl ⟨by rfl, ?hy75⟩) (by assumption) ?rest75
  case hy75 => (intro wz hSw; (try dsimp only at hSw); first | (go_simp; done) | (go_simp; with_reducible rfl))
  try simp only [Act.put, List.getElem_toArray, List.getElem_cons_succ, List.getElem_cons_zero, List.setIfInBounds_toArray, List.set_cons_zero, List.set_cons_succ]
  refine wpAnyH_done (by kernel_rfl) ?_ _
  clear hH0
  go_wp2
  go_ret
  exact ⟨rfl, gb_trans GZ.out H0.out⟩
set_option maxRecDepth 100000 in
set_option maxHeartbeats 4000000 in
theorem rap_14 (w : World) (g c_ : Nat) (n wd v0 w0 v1 x1 : Int) (h0 : w.cell? ⟨g, 0, none⟩ = some (.int .u32 v0)) (j0 : w.cell? ⟨g, 1, none⟩ = some (.int .i64 w0)) (h1 : w.cell? ⟨g, 3, none⟩ = some (.int .u32 v1)) (j1 : w.cell? ⟨g, 4, none⟩ = some (.int .i64 x1)) (hv : 0 ≤ v0 ∧ v0 < 4294967296) (hv1 : 0 ≤ v1 ∧ v1 < 4294967296) :
    Calls Tryz.prog 46 #[.agg #[.int .i64 14, .int .i64 n, .int .i64 wd], .slice (some ⟨g, 0, none⟩) 2 c_] w (RetV (.int .u32 (catB v0 w0 v1 x1)) w) := by
  have NT := Lib.hid (fun W => cl_g (rcat_any v0 w0 v1 x1 W hv.1 hv.2 hv1.1 hv1.2))
  generalize catB v0 w0 v1 x1 = r at *
  generalize catOk w0 x1 = ok at *
  clear hv hv1
  obtain ⟨A, hA⟩ : ∃ A, A = w.heap.size := ⟨_, rfl⟩
  obtain ⟨w1, hw1⟩ : ∃ w1, w1 = w.alloc (.cells #[.int .i64 14, .int .i64 n, .int .i64 wd] 66) := ⟨_, rfl⟩
  have BA := Lib.hid (show IsB w1 A 66 #[.int .i64 14, .int .i64 n, .int .i64 wd] from by rw [hw1, hA]; exact IsB.new _ _ _)
  have GZ := Lib.hid (show w.grownBy w1 none from by rw [hw1]; exact gb_al (gb_refl _ _))
  have k0 : w1.cell? ⟨g, 0, none⟩ = some (.int .u32 v0) := GZ.out.cell h0 (by simp)
  have l0 : w1.cell? ⟨g, 1, none⟩ = some (.int .i64 w0) := GZ.out.cell j0 (by simp)
  have k1 : w1.cell? ⟨g, 3, none⟩ = some (.int .u32 v1) := GZ.out.cell h1 (by simp)
  have l1 : w1.cell? ⟨g, 4, none⟩ = some (.int .i64 x1) := GZ.out.cell j1 (by simp)
  go_enter Tryz.func46, Tryz.ntmps46
  go_upto_region 1 with fail
  rw [← hA, ← hw1]
  clear hw1 hA
  have a0 : w1.cell? ⟨A, 0, none⟩ = some (.int .i64 14) := BA.out.cell 0
  have a1 : w1.cell? ⟨A, 1, none⟩ = some (.int .i64 n) := BA.out.cell 1
  have a2 : w1.cell? ⟨A, 2, none⟩ = some (.int .i64 wd) := BA.out.cell 2
  go_upto_region 22 with fail
  have KS := Lib.hid (fun (w' : World) (q0 : w1.grownBy w' none) => (⟨q0.cell k0 (by simp), q0.cell k1 (by simp), q0.cell l0 (by simp), q0.cell l1 (by simp), q0.cell a1 (by simp), q0.cell a2 (by simp), q0⟩ : (fun w' : World => w'.cell? ⟨g, 0, none⟩ = some (.int .u32 v0) ∧ w'.cell? ⟨g, 3, none⟩ = some (.int .u32 v1) ∧ w'.cell? ⟨g, 1, none⟩ = some (.int .i64 w0) ∧ w'.cell? ⟨g, 4, none⟩ = some (.int .i64 x1) ∧ w'.cell? ⟨A, 1, none⟩ = some (.int .i64 n) ∧ w'.cell? ⟨A, 2, none⟩ = some (.int .i64 wd) ∧ w1.grownBy w' none) w'))
  have H0 := Lib.hid (gb_drew w1 none)
  refine wp_region_held_drew (S := (fun w' : World => w'.cell? ⟨g, 0, none⟩ = some (.int .u32 v0) ∧ w'.cell? ⟨g, 3, none⟩ = some (.int .u32 v1) ∧ w'.cell? ⟨g, 1, none⟩ = some (.int .i64 w0) ∧ w'.cell? ⟨g, 4, none⟩ = some (.int .i64 x1) ∧ w'.cell? ⟨A, 1, none⟩ = some (.int .i64 n) ∧ w'.cell? ⟨A, 2, none⟩ = some (.int .i64 wd) ∧ w1.grownBy w' none)) (by kernel_rfl) (KS.out _ H0.out) (fun hH0 => ?_)
  refine wpAnyH_take (i := 0) (v := ?v76) rfl (by kernel_rfl) (by kernel_rfl) (by kernel_rfl) (fun _ _ _ h => h) (Or.inl ⟨by rfl, ?hy76⟩) (by assumption) ?rest76
  case hy76 => (intro wz hSw; (try dsimp only at hSw); first | (go_simp; done) | (go_simp; with_reducible rfl))
  try simp only [Act.put, List.getElem_toArray, List.getElem_cons_zero, List.setIfInBounds_toArray, List.set_cons_zero, List.set_cons_succ]
  refine wpAnyH_take (i := 1) (v := ?v77) rfl (by kernel_rfl) (by kernel_rfl) (by kernel_rfl) (fun _ _ _ h => h) (Or.inl ⟨by rfl, ?hy77⟩) (by assumption) ?rest77
  case hy77 => (intro wz hSw; (try dsimp only at hSw); first | (go_simp; done) | (go_simp; with_reducible rfl))
  try simp only [Act.put, List.getElem_toArray, List.getElem_cons_succ, List.getElem_cons_zero, List.setIfInBounds_toArray, List.set_cons_zero, List.set_cons_succ]
  refine wpAnyH_take (i := 2) (v := ?v78) rfl (by kernel_rfl) (by kernel_rfl) (by kernel_rfl) (fun _ _ _ h => h) (Or.inl ⟨by rfl, ?hy78⟩) (by assumption) ?rest78
  case hy78 => (intro wz hSw; (try dsimp only at hSw); first | (go_simp; done) | (go_simp; with_reducible rfl))
  try simp only [Act.put, List.getElem_toArray, List.getElem_cons_succ, List.getElem_cons_zero, List.setIfInBounds_toArray, List.set_cons_zero, List.set_cons_succ]
  refine wpAnyH_take (i := 3) (v := ?v79) rfl (by kernel_rfl) (by kernel_rfl) (by kernel_rfl) (fun _ _ _ h => h) (Or.inl ⟨by rfl, ?hy79⟩) (by assumption) ?rest79
  case hy79 => (intro wz hSw; (try dsimp only at hSw); first | (go_simp; done) | (go_simp; with_reducible rfl))
  try simp only [Act.put, List.getElem_toArray, List.getElem_cons_succ, List.getElem_cons_zero, List.setIfInBounds_toArray, List.set_cons_zero, List.set_cons_succ]
  refine wpAnyH_take (i := 4) (v := ?v80) rfl (by kernel_rfl) (by kernel_rfl) (by kernel_rfl) (fun _ _ _ h => h) (Or.inl ⟨by rfl, ?hy80⟩) (by assumption) ?rest80
  case hy80 => (intro wz hSw; (try dsimp only at hSw); first | (go_simp; done) | (go_simp; with_reducible rfl))
  try simp only [Act.put, List.getElem_toArray, List.getElem_cons_succ, List.getElem_cons_zero, List.setIfInBounds_toArray, List.set_cons_zero, List.set_cons_succ]
  refine wpAnyH_take (i := 5) (v := ?v81) rfl (by kernel_rfl) (by kernel_rfl) (by kernel_rfl) (fun _ _ _ h => h) (Or.inl ⟨by rfl, ?hy81⟩) (by assumption) ?rest81
  case hy81 => (intro wz hSw; (try dsimp only at hSw); first | (go_simp; done) | (go_simp; with_reducible rfl))
  try simp only [Act.put, List.getElem_toArray, List.getElem_cons_succ, List.getElem_cons_zero, List.setIfInBounds_toArray, List.set_cons_zero, List.set_cons_succ]
  refine wpAnyH_take (i := 6) (v := ?v82) rfl (by kernel_rfl) (by kernel_rfl) (by kernel_rfl) (fun _ _ _ h => h) (Or.inl ⟨by rfl, ?hy82⟩) (by assumption) ?rest82
  case hy82 => (intro wz hSw; (try dsimp only at hSw); first | (go_simp; done) | (go_simp; with_reducible rfl))
  try simp only [Act.put, List.getElem_toArray, List.getElem_cons_succ, List.getElem_cons_zero, List.setIfInBounds_toArray, List.set_cons_zero, List.set_cons_succ]
  refine wpAnyH_take (i := 7) (v := ?v83) rfl (by kernel_rfl) (by kernel_rfl) (by kernel_rfl) (fun _ _ _ h => h) (Or.inl ⟨by rfl, ?hy83⟩) (by assumption) ?rest83
  case hy83 => (intro wz hSw; (try dsimp only at hSw); first | (go_simp; done) | (go_simp; with_reducible rfl))
  try simp only [Act.put, List.getElem_toArray, List.getElem_cons_succ, List.getElem_cons_zero, List.setIfInBounds_toArray, List.set_cons_zero, List.set_cons_succ]
  refine wpAnyH_take (i := 8) (v := ?v84) rfl (by kernel_rfl) (by kernel_rfl) (by kernel_rfl) (fun _ _ _ h => h) (Or.inl ⟨by rfl, ?hy84⟩) (by assumption) ?rest84
  case hy84 => (intro wz hSw; (try dsimp only at hSw); first | (go_simp; done) | (go_simp; with_reducible rfl))
  try simp only [Act.put, List.getElem_toArray, List.getElem_cons_succ, List.getElem_cons_zero, List.setIfInBounds_toArray, List.set_cons_zero, List.set_cons_succ]
  refine wpAnyH_take (i := 9) (v := ?v85) rfl (by kernel_rfl) (by kernel_rfl) (by kernel_rfl) (fun _ _ _ h => h) (Or.inl ⟨by rfl, ?hy85⟩) (by assumption) ?rest85
  case hy85 => (intro wz hSw; (try dsimp only at hSw); first | (go_simp; done) | (go_simp; with_reducible rfl))
  try simp only [Act.put, List.getElem_toArray, List.getElem_cons_succ, List.getElem_cons_zero, List.setIfInBounds_toArray, List.set_cons_zero, List.set_cons_succ]
  refine wpAnyH_take (i := 10) (v := ?v86) rfl (by kernel_rfl) (by kernel_rfl) (by kernel_rfl) (fun _ _ _ h => h) (Or.inl ⟨by rfl, ?hy86⟩) (by assumption) ?rest86
  case hy86 => (intro wz hSw; (try dsimp only at hSw); first | (go_simp; done) | (go_simp; with_reducible rfl))
  try simp only [Act.put, List.getElem_toArray, List.getElem_cons_succ, List.getElem_cons_zero, List.setIfInBounds_toArray, List.set_cons_zero, List.set_cons_succ]
  refine wpAnyH_take (i := 11) (v := ?v87) rfl (by kernel_rfl) (by kernel_rfl) (by kernel_rfl) (fun _ _ _ h => h) (Or.inl ⟨by rfl, ?hy87⟩) (by assumption) ?rest87
  case hy87 => (intro wz hSw; (try dsimp only at hSw); first | (go_simp; done) | (go_simp; with_reducible rfl))
  try simp only [Act.put, List.getElem_toArray, List.getElem_cons_succ, List.getElem_cons_zero, List.setIfInBounds_toArray, List.set_cons_zero, List.set_cons_succ]
  refine wpAnyH_take (i := 12) (v := ?v88) rfl (by kernel_rfl) (by kernel_rfl) (by kernel_rfl) (fun _ _ _ h => h) (Or.inl ⟨by rfl, ?hy88⟩) (by assumption) ?rest88
  case hy88 => (intro wz hSw; (try dsimp only at hSw); first | (go_simp; done) | (go_simp; with_reducible rfl))
  try simp only [Act.put, List.getElem_toArray, List.getElem_cons_succ, List.getElem_cons_zero, List.setIfInBounds_toArray, List.set_cons_zero, List.set_cons_succ]
  refine wpAnyH_ready (rs := [13]) (by kernel_rfl) (by simp) ?_
  refine AllReadyH.cons (o := _) rfl (fun K hK => ?_) AllReadyH.nil
  go_simp
  (with_reducible refine (NT.out _).mono ?_)
  rintro e hw1 ⟨rfl, g⟩
  have H1 := Lib.hid (gb_trans H0.out g)
  clear g
  try dsimp only
  refine hK.out _ _ (KS.out _ H1.out) (fun hH1 => ?_)
  clear hK K hH0
  try simp only [Act.put, List.getElem_toArray, List.getElem_cons_succ, List.getElem_cons_zero, List.setIfInBounds_toArray, List.set_cons_zero, List.set_cons_succ]
  refine wpAnyH_take (i := 14) (v := ?v89) rfl (by kernel_rfl) (by kernel_rfl) (by kernel_rfl) (fun _ _ _ h => h) (Or.inl ⟨by rfl, ?hy89⟩) (by assumption) ?rest89
  case hy89 => (intro wz hSw; (try dsimp only at hSw); first | (go_simp; done) | (go_simp; with_reducible rfl))
  try simp only [Act.put, List.getElem_toArray, List.getElem_cons_succ, List.getElem_cons_zero, List.setIfInBounds_toArray, List.set_cons_zero, List.set_cons_succ]
  refine wpAnyH_take (i := 15) (v := ?v90) rfl (by kernel_rfl) (by kernel_rfl) (by kernel_rfl) (fun _ _ _ h => h) (Or.inl ⟨by rfl, ?hy90⟩) (by assumption) ?rest90
  case hy90 => (intro wz hSw; (try dsimp only at hSw); first | (go_simp; done) | (go_simp; with_reducible rfl))
  try simp only [Act.put, List.getElem_toArray, List.getElem_cons_succ, List.getElem_cons_zero, List.setIfInBounds_toArray, List.set_cons_zero, List.set_cons_succ]
  refine wpAnyH_take (i := 16) (v := ?v91) rfl (by kernel_rfl) (by kernel_rfl) (by kernel_rfl) (fun _ _ _ h => h) (Or.inl ⟨by rfl, ?hy91⟩) (by assumption) ?rest91
  case hy91 => (intro wz hSw; (try dsimp only at hSw); first | (go_simp; done) | (go_simp; with_reducible rfl))
  try simp only [Act.put, List.getElem_toArray, List.getElem_cons_succ, List.getElem_cons_zero, List.setIfInBounds_toArray, List.set_cons_zero, List.set_cons_succ]
  refine wpAnyH_take (i := 17) (v := ?v92) rfl (by kernel_rfl) (by kernel_rfl) (by kernel_rfl) (fun _ _ _ h => h) (Or.inl ⟨by rfl, ?hy92⟩) (by assumption) ?rest92
  case hy92 => (intro wz hSw; (try dsimp only at hSw); first | (go_simp; done) | (go_simp; with_reducible rfl))
  try simp only [Act.put, List.getElem_toArray, List.getElem_cons_succ, List.getElem_cons_zero, List.setIfInBounds_toArray, List.set_cons_zero, List.set_cons_succ]
  refine wpAnyH_take (i := 18) (v := ?v93) rfl (by kernel_rfl) (by kernel_rfl) (by kernel_rfl) (fun _ _ _ h => h) (Or.inl ⟨by rfl, ?hy93⟩) (by assumption) ?rest93
  case hy93 => (intro wz hSw; (try dsimp only at hSw); first | (go_simp; done) | (go_simp; with_reducible rfl))
  try simp only [Act.put, List.getElem_toArray, List.getElem_cons_succ, List.getElem_cons_zero, List.setIfInBounds_toArray, List.set_cons_zero, List.set_cons_succ]
  refine wpAnyH_done (by kernel_rfl) ?_ _
  clear hH1
  go_wp2
  go_ret
  exact ⟨rfl, gb_trans GZ.out H1.out⟩
set_option maxRecDepth 100000 in
set_option maxHeartbeats 4000000 in
theorem rap_15t (w : World) (g c_ : Nat) (n wd v0 w0 v1 x1 : Int) (h0 : w.cell? ⟨g, 0, none⟩ = some (.int .u32 v0)) (j0 : w.cell? ⟨g, 1, none⟩ = some (.int .i64 w0)) (h1 : w.cell? ⟨g, 3, none⟩ = some (.int .u32 v1)) (j1 : w.cell? ⟨g, 4, none⟩ = some (.int .i64 x1)) (hq : v0 = v1) :
    Calls Tryz.prog 46 #[.agg #[.int .i64 15, .int .i64 n, .int .i64 wd], .slice (some ⟨g, 0, none⟩) 2 c_] w (RetV (.int .u32 (bitI true)) w) := by
  subst hq
  have NT := Lib.hid (fun W => rbit_any W true)
  obtain ⟨A, hA⟩ : ∃ A, A = w.heap.size := ⟨_, rfl⟩
  obtain ⟨w1, hw1⟩ : ∃ w1, w1 = w.alloc (.cells #[.int .i64 15, .int .i64 n, .int .i64 wd] 66) := ⟨_, rfl⟩
  have BA := Lib.hid (show IsB w1 A 66 #[.int .i64 15, .int .i64 n, .int .i64 wd] from by rw [hw1, hA]; exact IsB.new _ _ _)
  have GZ := Lib.hid (show w.grownBy w1 none from by rw [hw1]; exact gb_al (gb_refl _ _))
  have k0 : w1.cell? ⟨g, 0, none⟩ = some (.int .u32 v0) := GZ.out.cell h0 (by simp)
  have l0 : w1.cell? ⟨g, 1, none⟩ = some (.int .i64 w0) := GZ.out.cell j0 (by simp)
  have k1 : w1.cell? ⟨g, 3, none⟩ = some (.int .u32 v0) := GZ.out.cell h1 (by simp)
  have l1 : w1.cell? ⟨g, 4, none⟩ = some (.int .i64 x1) := GZ.out.cell j1 (by simp)
  go_enter Tryz.func46, Tryz.ntmps46
  go_upto_region 1 with fail
  rw [← hA, ← hw1]
  clear hw1 hA
  have a0 : w1.cell? ⟨A, 0, none⟩ = some (.int .i64 15) := BA.out.cell 0
  have a1 : w1.cell? ⟨A, 1, none⟩ = some (.int .i64 n) := BA.out.cell 1
  have a2 : w1.cell? ⟨A, 2, none⟩ = some (.int .i64 wd) := BA.out.cell 2
  go_upto_region 25 with fail
  have KS := Lib.hid (fun (w' : World) (q0 : w1.grownBy w' none) => (⟨q0.cell k0 (by simp), q0.cell k1 (by simp), q0.cell l0 (by simp), q0.cell l1 (by simp), q0.cell a1 (by simp), q0.cell a2 (by simp), q0⟩ : (fun w' : World => w'.cell? ⟨g, 0, none⟩ = some (.int .u32 v0) ∧ w'.cell? ⟨g, 3, none⟩ = some (.int .u32 v0) ∧ w'.cell? ⟨g, 1, none⟩ = some (.int .i64 w0) ∧ w'.cell? ⟨g, 4, none⟩ = some (.int .i64 x1) ∧ w'.cell? ⟨A, 1, none⟩ = some (.int .i64 n) ∧ w'.cell? ⟨A, 2, none⟩ = some (.int .i64 wd) ∧ w1.grownBy w' none) w'))
  have H0 := Lib.hid (gb_drew w1 none)
  refine wp_region_held_drew (S := (fun w' : World => w'.cell? ⟨g, 0, none⟩ = some (.int .u32 v0) ∧ w'.cell? ⟨g, 3, none⟩ = some (.int .u32 v0) ∧ w'.cell? ⟨g, 1, none⟩ = some (.int .i64 w0) ∧ w'.cell? ⟨g, 4, none⟩ = some (.int .i64 x1) ∧ w'.cell? ⟨A, 1, none⟩ = some (.int .i64 n) ∧ w'.cell? ⟨A, 2, none⟩ = some (.int .i64 wd) ∧ w1.grownBy w' none)) (by kernel_rfl) (KS.out _ H0.out) (fun hH0 => ?_)
  refine wpAnyH_take (i := 0) (v := ?v94) rfl (by kernel_rfl) (by kernel_rfl) (by kernel_rfl) (fun _ _ _ h => h) (Or.inl ⟨by rfl, ?hy94⟩) (by assumption) ?rest94
  case hy94 => (intro wz hSw; (try dsimp only at hSw); first | (go_simp; done) | (go_simp; with_reducible rfl))
  try simp only [Act.put, List.getElem_toArray, List.getElem_cons_zero, List.setIfInBounds_toArray, List.set_cons_zero, List.set_cons_succ]
  refine wpAnyH_take (i := 1) (v := ?v95) rfl (by kernel_rfl) (by kernel_rfl) (by kernel_rfl) (fun _ _ _ h => h) (Or.inl ⟨by rfl, ?hy95⟩) (by assumption) ?rest95
  case hy95 => (intro wz hSw; (try dsimp only at hSw); first | (go_simp; done) | (go_simp; with_reducible rfl))
  try simp only [Act.put, List.getElem_toArray, List.getElem_cons_succ, List.getElem_cons_zero, List.setIfInBounds_toArray, List.set_cons_zero, List.set_cons_succ]
  refine wpAnyH_take (i := 2) (v := ?v96) rfl (by kernel_rfl) (by kernel_rfl) (by kernel_rfl) (fun _ _ _ h => h) (Or.inl ⟨by rfl, ?hy96⟩) (by assumption) ?rest96
  case hy96 => (intro wz hSw; (try dsimp only at hSw); first | (go_simp; done) | (go_simp; with_reducible rfl))
  try simp only [Act.put, List.getElem_toArray, List.getElem_cons_succ, List.getElem_cons_zero, List.setIfInBounds_toArray, List.set_cons_zero, List.set_cons_succ]
  refine wpAnyH_take (i := 3) (v := ?v97) rfl (by kernel_rfl) (by kernel_rfl) (by kernel_rfl) (fun _ _ _ h => h) (Or.inl ⟨by rfl, ?hy97⟩) (by assumption) ?rest97
  case hy97 => (intro wz hSw; (try dsimp only at hSw); first | (go_simp; done) | (go_simp; with_reducible rfl))
  try simp only [Act.put, List.getElem_toArray, List.getElem_cons_succ, List.getElem_cons_zero, List.setIfInBounds_toArray, List.set_cons_zero, List.set_cons_succ]
  refine wpAnyH_take (i := 4) (v := ?v98) rfl (by kernel_rfl) (by kernel_rfl) (by kernel_rfl) (fun _ _ _ h => h) (Or.inl ⟨by rfl, ?hy98⟩) (by assumption) ?rest98
  case hy98 => (intro wz hSw; (try dsimp only at hSw); first | (go_simp; done) | (go_simp; with_reducible rfl))
  try simp only [Act.put, List.getElem_toArray, List.getElem_cons_succ, List.getElem_cons_zero, List.setIfInBounds_toArray, List.set_cons_zero, List.set_cons_succ]
  refine wpAnyH_take (i := 5) (v := ?v99) rfl (by kernel_rfl) (by kernel_rfl) (by kernel_rfl) (fun _ _ _ h => h) (Or.inl ⟨by rfl, ?hy99⟩) (by assumption) ?rest99
  case hy99 => (intro wz hSw; (try dsimp only at hSw); first | (go_simp; done) | (go_simp; with_reducible rfl))
  try simp only [Act.put, List.getElem_toArray, List.getElem_cons_succ, List.getElem_cons_zero, List.setIfInBounds_toArray, List.set_cons_zero, List.set_cons_succ]
  refine wpAnyH_take (i := 6) (v := ?v100) rfl (by kernel_rfl) (by kernel_rfl) (by kernel_rfl) (fun _ _ _ h => h) (Or.inl ⟨by rfl, ?hy100⟩) (by assumption) ?rest100
  case hy100 => (intro wz hSw; (try dsimp only at hSw); first | (go_simp; done) | (go_simp; with_reducible rfl))
  try simp only [Act.put, List.getElem_toArray, List.getElem_cons_succ, List.getElem_cons_zero, List.setIfInBounds_toArray, List.set_cons_zero, List.set_cons_succ]
  refine wpAnyH_take (i := 7) (v := ?v101) rfl (by kernel_rfl) (by kernel_rfl) (by kernel_rfl) (fun _ _ _ h => h) (Or.inl ⟨by rfl, ?hy101⟩) (by assumption) ?rest101
  case hy101 => (intro wz hSw; (try dsimp only at hSw); first | (go_simp; done) | (go_simp; with_reducible rfl))
  try simp only [Act.put, List.getElem_toArray, List.getElem_cons_succ, List.getElem_cons_zero, List.setIfInBounds_toArray, List.set_cons_zero, List.set_cons_succ]
  refine wpAnyH_take (i := 8) (v := ?v102) rfl (by kernel_rfl) (by kernel_rfl) (by kernel_rfl) (fun _ _ _ h => h) (Or.inl ⟨by rfl, ?hy102⟩) (by assumption) ?rest102
  case hy102 => (intro wz hSw; (try dsimp only at hSw); first | (go_simp; done) | (go_simp; with_reducible rfl))
  try simp only [Act.put, List.getElem_toArray, List.getElem_cons_succ, List.getElem_cons_zero, List.setIfInBounds_toArray, List.set_cons_zero, List.set_cons_succ]
  refine wpAnyH_ready (rs := [9]) (by kernel_rfl) (by simp) ?_
  refine AllReadyH.cons (o := _) rfl (fun K hK => ?_) AllReadyH.nil
  go_simp
  (with_reducible refine (NT.out _).mono ?_)
  rintro e hw1 ⟨rfl, g⟩
  have H1 := Lib.hid (gb_trans H0.out g)
  clear g
  try dsimp only
  refine hK.out _ _ (KS.out _ H1.out) (fun hH1 => ?_)
  clear hK K hH0
  try simp only [Act.put, List.getElem_toArray, List.getElem_cons_succ, List.getElem_cons_zero, List.setIfInBounds_toArray, List.set_cons_zero, List.set_cons_succ]
  refine wpAnyH_take (i := 10) (v := ?v103) rfl (by kernel_rfl) (by kernel_rfl) (by kernel_rfl) (fun _ _ _ h => h) (Or.inl ⟨by rfl, ?hy103⟩) (by assumption) ?rest103
  case hy103 => (intro wz hSw; (try dsimp only at hSw); first | (go_simp; done) | (go_simp; with_reducible rfl))
  try simp only [Act.put, List.getElem_toArray, List.getElem_cons_succ, List.getElem_cons_zero, List.setIfInBounds_toArray, List.set_cons_zero, List.set_cons_succ]
  refine wpAnyH_done (by kernel_rfl) ?_ _
  clear hH1
  go_wp2
  go_ret
  exact ⟨rfl, gb_trans GZ.out H1.out⟩
set_option maxRecDepth 100000 in
set_option maxHeartbeats 4000000 in
theorem rap_15f (w : World) (g c_ : Nat) (n wd v0 w0 v1 x1 : Int) (h0 : w.cell? ⟨g, 0, none⟩ = some (.int .u32 v0)) (j0 : w.cell? ⟨g, 1, none⟩ = some (.int .i64 w0)) (h1 : w.cell? ⟨g, 3, none⟩ = some (.int .u32 v1)) (j1 : w.cell? ⟨g, 4, none⟩ = some (.int .i64 x1)) (hq : ¬ v0 = v1) :
    Calls Tryz.prog 46 #[.agg #[.int .i64 15, .int .i64 n, .int .i64 wd], .slice (some ⟨g, 0, none⟩) 2 c_] w (RetV (.int .u32 (bitI false)) w) := by
  have e1 : (v0 == v1) = false := by rw [beq_eq_false_iff_ne]; exact hq
  have e2 : decide (v0 = v1) = false := decide_eq_false hq
  have NT := Lib.hid (fun W => rbit_any W false)
  obtain ⟨A, hA⟩ : ∃ A, A = w.heap.size := ⟨_, rfl⟩
  obtain ⟨w1, hw1⟩ : ∃ w1, w1 = w.alloc (.cells #[.int .i64 15, .int .i64 n, .int .i64 wd] 66) := ⟨_, rfl⟩
  have BA := Lib.hid (show IsB w1 A 66 #[.int .i64 15, .int .i64 n, .int .i64 wd] from by rw [hw1, hA]; exact IsB.new _ _ _)
  have GZ := Lib.hid (show w.grownBy w1 none from by rw [hw1]; exact gb_al (gb_refl _ _))
  have k0 : w1.cell? ⟨g, 0, none⟩ = some (.int .u32 v0) := GZ.out.cell h0 (by simp)
  have l0 : w1.cell? ⟨g, 1, none⟩ = some (.int .i64 w0) := GZ.out.cell j0 (by simp)
  have k1 : w1.cell? ⟨g, 3, none⟩ = some (.int .u32 v1) := GZ.out.cell h1 (by simp)
  have l1 : w1.cell? ⟨g, 4, none⟩ = some (.int .i64 x1) := GZ.out.cell j1 (by simp)
  go_enter Tryz.func46, Tryz.ntmps46
  go_upto_region 1 with fail
  rw [← hA, ← hw1]
  clear hw1 hA
  have a0 : w1.cell? ⟨A, 0, none⟩ = some (.int .i64 15) := BA.out.cell 0
  have a1 : w1.cell? ⟨A, 1, none⟩ = some (.int .i64 n) := BA.out.cell 1
  have a2 : w1.cell? ⟨A, 2, none⟩ = some (.int .i64 wd) := BA.out.cell 2
  go_upto_region 25 with fail
  have KS := Lib.hid (fun (w' : World) (q0 : w1.grownBy w' none) => (⟨q0.cell k0 (by simp), q0.cell k1 (by simp), q0.cell l0 (by simp), q0.cell l1 (by simp), q0.cell a1 (by simp), q0.cell a2 (by simp), q0⟩ : (fun w' : World => w'.cell? ⟨g, 0, none⟩ = some (.int .u32 v0) ∧ w'.cell? ⟨g, 3, none⟩ = some (.int .u32 v1) ∧ w'.cell? ⟨g, 1, none⟩ = some (.int .i64 w0) ∧ w'.cell? ⟨g, 4, none⟩ = some (.int .i64 x1) ∧ w'.cell? ⟨A, 1, none⟩ = some (.int .i64 n) ∧ w'.cell? ⟨A, 2, none⟩ = some (.int .i64 wd) ∧ w1.grownBy w' none) w'))
  have H0 := Lib.hid (gb_drew w1 none)
  refine wp_region_held_drew (S := (fun w' : World => w'.cell? ⟨g, 0, none⟩ = some (.int .u32 v0) ∧ w'.cell? ⟨g, 3, none⟩ = some (.int .u32 v1) ∧ w'.cell? ⟨g, 1, none⟩ = some (.int .i64 w0) ∧ w'.cell? ⟨g, 4, none⟩ = some (.int .i64 x1) ∧ w'.cell? ⟨A, 1, none⟩ = some (.int .i64 n) ∧ w'.cell? ⟨A, 2, none⟩ = some (.int .i64 wd) ∧ w1.grownBy w' none)) (by kernel_rfl) (KS.out _ H0.out) (fun hH0 => ?_)
  refine wpAnyH_take (i := 0) (v := ?v104) rfl (by kernel_rfl) (by kernel_rfl) (by kernel_rfl) (fun _ _ _ h => h) (Or.inl ⟨by rfl, ?hy104⟩) (by assumption) ?rest104
  case hy104 => (intro wz hSw; (try dsimp only at hSw); first | (go_simp; done) | (go_simp; with_reducible rfl))
  try simp only [Act.put, List.getElem_toArray, List.getElem_cons_zero, List.setIfInBounds_toArray, List.set_cons_zero, List.set_cons_succ]
  refine wpAnyH_take (i := 1) (v := ?v105) rfl (by kernel_rfl) (by kernel_rfl) (by kernel_rfl) (fun _ _ _ h => h) (Or.inl ⟨by rfl, ?hy105⟩) (by assumption) ?rest105
  case hy105 => (intro wz hSw; (try dsimp only at hSw); first | (go_simp; done) | (go_simp; with_reducible rfl))
  try simp only [Act.put, List.getElem_toArray, List.getElem_cons_succ, List.getElem_cons_zero, List.setIfInBounds_toArray, List.set_cons_zero, List.set_cons_succ]
  refine wpAnyH_take (i := 2) (v := ?v106) rfl (by kernel_rfl) (by kernel_rfl) (by kernel_rfl) (fun _ _ _ h => h) (Or.inl ⟨by rfl, ?hy106⟩) (by assumption) ?rest106
  case hy106 => (intro wz hSw; (try dsimp only at hSw); first | (go_simp; done) | (go_simp; with_reducible rfl))
  try simp only [Act.put, List.getElem_toArray, List.getElem_cons_succ, List.getElem_cons_zero, List.setIfInBounds_toArray, List.set_cons_zero, List.set_cons_succ]
  refine wpAnyH_take (i := 3) (v := ?v107) rfl (by kernel_rfl) (by kernel_rfl) (by kernel_rfl) (fun _ _ _ h => h) (Or.inl ⟨by rfl, ?hy107⟩) (by assumption) ?rest107
  case hy107 => (intro wz hSw; (try dsimp only at hSw); first | (go_simp; done) | (go_simp; with_reducible rfl))
  try simp only [Act.put, List.getElem_toArray, List.getElem_cons_succ, List.getElem_cons_zero, List.setIfInBounds_toArray, List.set_cons_zero, List.set_cons_succ]
  refine wpAnyH_take (i := 4) (v := ?v108) rfl (by kernel_rfl) (by kernel_rfl) (by kernel_rfl) (fun _ _ _ h => h) (Or.inl ⟨by rfl, ?hy108⟩) (by assumption) ?rest108
  case hy108 => (intro wz hSw; (try dsimp only at hSw); first | (go_simp; done) | (go_simp; with_reducible rfl))
  try simp only [Act.put, List.getElem_toArray, List.getElem_cons_succ, List.getElem_cons_zero, List.setIfInBounds_toArray, List.set_cons_zero, List.set_cons_succ]
  refine wpAnyH_take (i := 5) (v := ?v109) rfl (by kernel_rfl) (by kernel_rfl) (by kernel_rfl) (fun _ _ _ h => h) (Or.inl ⟨by rfl, ?hy109⟩) (by assumption) ?rest109
  case hy109 => (intro wz hSw; (try dsimp only at hSw); first | (go_simp; done) | (go_simp; with_reducible rfl))
  try simp only [Act.put, List.getElem_toArray, List.getElem_cons_succ, List.getElem_cons_zero, List.setIfInBounds_toArray, List.set_cons_zero, List.set_cons_succ]
  refine wpAnyH_take (i := 6) (v := ?v110) rfl (by kernel_rfl) (by kernel_rfl) (by kernel_rfl) (fun _ _ _ h => h) (Or.inl ⟨by rfl, ?hy110⟩) (by assumption) ?rest110
  case hy110 => (intro wz hSw; (try dsimp only at hSw); first | (go_simp; done) | (go_simp; with_reducible rfl))
  try simp only [Act.put, List.getElem_toArray, List.getElem_cons_succ, List.getElem_cons_zero, List.setIfInBounds_toArray, List.set_cons_zero, List.set_cons_succ]
  refine wpAnyH_take (i := 7) (v := ?v111) rfl (by kernel_rfl) (by kernel_rfl) (by kernel_rfl) (fun _ _ _ h => h) (Or.inl ⟨by rfl, ?hy111⟩) (by assumption) ?rest111
  case hy111 => (intro wz hSw; (try dsimp only at hSw); first | (go_simp; done) | (go_simp; with_reducible rfl))
  try simp only [Act.put, List.getElem_toArray, List.getElem_cons_succ, List.getElem_cons_zero, List.setIfInBounds_toArray, List.set_cons_zero, List.set_cons_succ]
  refine wpAnyH_take (i := 8) (v := ?v112) rfl (by kernel_rfl) (by kernel_rfl) (by kernel_rfl) (fun _ _ _ h => h) (Or.inl ⟨by rfl, ?hy112⟩) (by assumption) ?rest112
  case hy112 => (intro wz hSw; (try dsimp only at hSw); first | (go_simp; done) | (go_simp; with_reducible rfl))
  try simp only [Act.put, List.getElem_toArray, List.getElem_cons_succ, List.getElem_cons_zero, List.setIfInBounds_toArray, List.set_cons_zero, List.set_cons_succ]
  refine wpAnyH_ready (rs := [9]) (by kernel_rfl) (by simp) ?_
  refine AllReadyH.cons (o := _) rfl (fun K hK => ?_) AllReadyH.nil
  go_simp
  (with_reducible refine (NT.out _).mono ?_)
  rintro e hw1 ⟨rfl, g⟩
  have H1 := Lib.hid (gb_trans H0.out g)
  clear g
  try dsimp only
  refine hK.out _ _ (KS.out _ H1.out) (fun hH1 => ?_)
  clear hK K hH0
  try simp only [Act.put, List.getElem_toArray, List.getElem_cons_succ, List.getElem_cons_zero, List.setIfInBounds_toArray, List.set_cons_zero, List.set_cons_succ]
  refine wpAnyH_take (i := 10) (v := ?v113) rfl (by kernel_rfl) (by kernel_rfl) (by kernel_rfl) (fun _ _ _ h => h) (Or.inl ⟨by rfl, ?hy113⟩) (by assumption) ?rest113
  case hy113 => (intro wz hSw; (try dsimp only at hSw); first | (go_simp; done) | (go_simp; with_reducible rfl))
  try simp only [Act.put, List.getElem_toArray, List.getElem_cons_succ, List.getElem_cons_zero, List.setIfInBounds_toArray, List.set_cons_zero, List.set_cons_succ]
  refine wpAnyH_done (by kernel_rfl) ?_ _
  clear hH1
  go_wp2
  go_ret
  exact ⟨rfl, gb_trans GZ.out H1.out⟩
set_option maxRecDepth 100000 in
set_option maxHeartbeats 4000000 in
theorem rap_16t (w : World) (g c_ : Nat) (n wd v0 w0 v1 x1 : Int) (h0 : w.cell? ⟨g, 0, none⟩ = some (.int .u32 v0)) (j0 : w.cell? ⟨g, 1, none⟩ = some (.int .i64 w0)) (h1 : w.cell? ⟨g, 3, none⟩ = some (.int .u32 v1)) (j1 : w.cell? ⟨g, 4, none⟩ = some (.int .i64 x1)) (hq : v0 < v1) :
    Calls Tryz.prog 46 #[.agg #[.int .i64 16, .int .i64 n, .int .i64 wd], .slice (some ⟨g, 0, none⟩) 2 c_] w (RetV (.int .u32 (bitI true)) w) := by
  have e2 : decide (v0 < v1) = true := decide_eq_true hq
  have NT := Lib.hid (fun W => rbit_any W true)
  obtain ⟨A, hA⟩ : ∃ A, A = w.heap.size := ⟨_, rfl⟩
  obtain ⟨w1, hw1⟩ : ∃ w1, w1 = w.alloc (.cells #[.int .i64 16, .int .i64 n, .int .i64 wd] 66) := ⟨_, rfl⟩
  have BA := Lib.hid (show IsB w1 A 66 #[.int .i64 16, .int .i64 n, .int .i64 wd] from by rw [hw1, hA]; exact IsB.new _ _ _)
  have GZ := Lib.hid (show w.grownBy w1 none from by rw [hw1]; exact gb_al (gb_refl _ _))
  have k0 : w1.cell? ⟨g, 0, none⟩ = some (.int .u32 v0) := GZ.out.cell h0 (by simp)
  have l0 : w1.cell? ⟨g, 1, none⟩ = some (.int .i64 w0) := GZ.out.cell j0 (by simp)
  have k1 : w1.cell? ⟨g, 3, none⟩ = some (.int .u32 v1) := GZ.out.cell h1 (by simp)
  have l1 : w1.cell? ⟨g, 4, none⟩ = some (.int .i64 x1) := GZ.out.cell j1 (by simp)
  go_enter Tryz.func46, Tryz.ntmps46
  go_upto_region 1 with fail
  rw [← hA, ← hw1]
  clear hw1 hA
  have a0 : w1.cell? ⟨A, 0, none⟩ = some (.int .i64 16) := BA.out.cell 0
  have a1 : w1.cell? ⟨A, 1, none⟩ = some (.int .i64 n) := BA.out.cell 1
  have a2 : w1.cell? ⟨A, 2, none⟩ = some (.int .i64 wd) := BA.out.cell 2
  go_upto_region 27 with fail
  have KS := Lib.hid (fun (w' : World) (q0 : w1.grownBy w' none) => (⟨q0.cell k0 (by simp), q0.cell k1 (by simp), q0.cell l0 (by simp), q0.cell l1 (by simp), q0.cell a1 (by simp), q0.cell a2 (by simp), q0⟩ : (fun w' : World => w'.cell? ⟨g, 0, none⟩ = some (.int .u32 v0) ∧ w'.cell? ⟨g, 3, none⟩ = some (.int .u32 v1) ∧ w'.cell? ⟨g, 1, none⟩ = some (.int .i64 w0) ∧ w'.cell? ⟨g, 4, none⟩ = some (.int .i64 x1) ∧ w'.cell? ⟨A, 1, none⟩ = some (.int .i64 n) ∧ w'.cell? ⟨A, 2, none⟩ = some (.int .i64 wd) ∧ w1.grownBy w' none) w'))
  have H0 := Lib.hid (gb_drew w1 none)
  refine wp_region_held_drew (S := (fun w' : World => w'.cell? ⟨g, 0, none⟩ = some (.int .u32 v0) ∧ w'.cell? ⟨g, 3, none⟩ = some (.int .u32 v1) ∧ w'.cell? ⟨g, 1, none⟩ = some (.int .i64 w0) ∧ w'.cell? ⟨g, 4, none⟩ = some (.int .i64 x1) ∧ w'.cell? ⟨A, 1, none⟩ = some (.int .i64 n) ∧ w'.cell? ⟨A, 2, none⟩ = some (.int .i64 wd) ∧ w1.grownBy w' none)) (by kernel_rfl) (KS.out _ H0.out) (fun hH0 => ?_)
  refine wpAnyH_take (i := 0) (v := ?v114) rfl (by kernel_rfl) (by kernel_rfl) (by kernel_rfl) (fun _ _ _ h => h) (Or.inl ⟨by rfl, ?hy114⟩) (by assumption) ?rest114
  case hy114 => (intro wz hSw; (try dsimp only at hSw); first | (go_simp; done) | (go_simp; with_reducible rfl))
  try simp only [Act.put, List.getElem_toArray, List.getElem_cons_zero, List.setIfInBounds_toArray, List.set_cons_zero, List.set_cons_succ]
  refine wpAnyH_take (i := 1) (v := ?v115) rfl (by kernel_rfl) (by kernel_rfl) (by kernel_rfl) (fun _ _ _ h => h) (Or.inl ⟨by rfl, ?hy115⟩) (by assumption) ?rest115
  case hy115 => (intro wz hSw; (try dsimp only at hSw); first | (go_simp; done) | (go_simp; with_reducible rfl))
  try simp only [Act.put, List.getElem_toArray, List.getElem_cons_succ, List.getElem_cons_zero, List.setIfInBounds_toArray, List.set_cons_zero, List.set_cons_succ]
  refine wpAnyH_take (i := 2) (v := ?v116) rfl (by kernel_rfl) (by kernel_rfl) (by kernel_rfl) (fun _ _ _ h => h) (Or.inl ⟨by rfl, ?hy116⟩) (by assumption) ?rest116
  case hy116 => (intro wz hSw; (try dsimp only at hSw); first | (go_simp; done) | (go_simp; with_reducible rfl))
  try simp only [Act.put, List.getElem_toArray, List.getElem_cons_succ, List.getElem_cons_zero, List.setIfInBounds_toArray, List.set_cons_zero, List.set_cons_succ]
  refine wpAnyH_take (i := 3) (v := ?v117) rfl (by kernel_rfl) (by kernel_rfl) (by kernel_rfl) (fun _ _ _ h => h) (Or.inl ⟨by rfl, ?hy117⟩) (by assumption) ?rest117
  case hy117 => (intro wz hSw; (try dsimp only at hSw); first | (go_simp; done) | (go_simp; with_reducible rfl))
  try simp only [Act.put, List.getElem_toArray, List.getElem_cons_succ, List.getElem_cons_zero, List.setIfInBounds_toArray, List.set_cons_zero, List.set_cons_succ]
  refine wpAnyH_take (i := 4) (v := ?v118) rfl (by kernel_rfl) (by kernel_rfl) (by kernel_rfl) (fun _ _ _ h => h) (Or.inl ⟨by rfl, ?hy118⟩) (by assumption) ?rest118
  case hy118 => (intro wz hSw; (try dsimp only at hSw); first | (go_simp; done) | (go_simp; with_reducible rfl))
  try simp only [Act.put, List.getElem_toArray, List.getElem_cons_succ, List.getElem_cons_zero, List.setIfInBounds_toArray, List.set_cons_zero, List.set_cons_succ]
  refine wpAnyH_take (i := 5) (v := ?v119) rfl (by kernel_rfl) (by kernel_rfl) (by kernel_rfl) (fun _ _ _ h => h) (Or.inl ⟨by rfl, ?hy119⟩) (by assumption) ?rest119
  case hy119 => (intro wz hSw; (try dsimp only at hSw); first | (go_simp; done) | (go_simp; with_reducible rfl))
  try simp only [Act.put, List.getElem_toArray, List.getElem_cons_succ, List.getElem_cons_zero, List.setIfInBounds_toArray, List.set_cons_zero, List.set_cons_succ]
  refine wpAnyH_take (i := 6) (v := ?v120) rfl (by kernel_rfl) (by kernel_rfl) (by kernel_rfl) (fun _ _ _ h => h) (Or.inl ⟨by rfl, ?hy120⟩) (by assumption) ?rest120
  case hy120 => (intro wz hSw; (try dsimp only at hSw); first | (go_simp; done) | (go_simp; with_reducible rfl))
  try simp only [Act.put, List.getElem_toArray, List.getElem_cons_succ, List.getElem_cons_zero, List.setIfInBounds_toArray, List.set_cons_zero, List.set_cons_succ]
  refine wpAnyH_take (i := 7) (v := ?v121) rfl (by kernel_rfl) (by kernel_rfl) (by kernel_rfl) (fun _ _ _ h => h) (Or.inl ⟨by rfl, ?hy121⟩) (by assumption) ?rest121
  case hy121 => (intro wz hSw; (try dsimp only at hSw); first | (go_simp; done) | (go_simp; with_reducible rfl))
  try simp only [Act.put, List.getElem_toArray, List.getElem_cons_succ, List.getElem_cons_zero, List.setIfInBounds_toArray, List.set_cons_zero, List.set_cons_succ]
  refine wpAnyH_take (i := 8) (v := ?v122) rfl (by kernel_rfl) (by kernel_rfl) (by kernel_rfl) (fun _ _ _ h => h) (Or.inl ⟨by rfl, ?hy122⟩) (by assumption) ?rest122
  case hy122 => (intro wz hSw; (try dsimp only at hSw); first | (go_simp; done) | (go_simp; with_reducible rfl))
  try simp only [Act.put, List.getElem_toArray, List.getElem_cons_succ, List.getElem_cons_zero, List.setIfInBounds_toArray, List.set_cons_zero, List.set_cons_succ]
  refine wpAnyH_ready (rs := [9]) (by kernel_rfl) (by simp) ?_
  refine AllReadyH.cons (o := _) rfl (fun K hK => ?_) AllReadyH.nil
  go_simp
  (with_reducible refine (NT.out _).mono ?_)
  rintro e hw1 ⟨rfl, g⟩
  have H1 := Lib.hid (gb_trans H0.out g)
  clear g
  try dsimp only
  refine hK.out _ _ (KS.out _ H1.out) (fun hH1 => ?_)
  clear hK K hH0
  try simp only [Act.put, List.getElem_toArray, List.getElem_cons_succ, List.getElem_cons_zero, List.setIfInBounds_toArray, List.set_cons_zero, List.set_cons_succ]
  refine wpAnyH_take (i := 10) (v := ?v123) rfl (by kernel_rfl) (by kernel_rfl) (by kernel_rfl) (fun _ _ _ h => h) (Or.inl ⟨by rfl, ?hy123⟩) (by assumption) ?rest123
  case hy123 => (intro wz hSw; (try dsimp only at hSw); first | (go_simp; done) | (go_simp; with_reducible rfl))
  try simp only [Act.put, List.getElem_toArray, List.getElem_cons_succ, List.getElem_cons_zero, List.setIfInBounds_toArray, List.set_cons_zero, List.set_cons_succ]
  refine wpAnyH_done (by kernel_rfl) ?_ _
  clear hH1
  go_wp2
  go_ret
  exact ⟨rfl, gb_trans GZ.out H1.out⟩
set_option maxRecDepth 100000 in
set_option maxHeartbeats 4000000 in
theorem rap_16f (w : World) (g c_ : Nat) (n wd v0 w0 v1 x1 : Int) (h0 : w.cell? ⟨g, 0, none⟩ = some (.int .u32 v0)) (j0 : w.cell? ⟨g, 1, none⟩ = some (.int .i64 w0)) (h1 : w.cell? ⟨g, 3, none⟩ = some (.int .u32 v1)) (j1 : w.cell? ⟨g, 4, none⟩ = some (.int .i64 x1)) (hq : ¬ v0 < v1) :
    Calls Tryz.prog 46 #[.agg #[.int .i64 16, .int .i64 n, .int .i64 wd], .slice (some ⟨g, 0, none⟩) 2 c_] w (RetV (.int .u32 (bitI false)) w) := by
  have e2 : decide (v0 < v1) = false := decide_eq_false hq
  have NT := Lib.hid (fun W => rbit_any W false)
  obtain ⟨A, hA⟩ : ∃ A, A = w.heap.size := ⟨_, rfl⟩
  obtain ⟨w1, hw1⟩ : ∃ w1, w1 = w.alloc (.cells #[.int .i64 16, .int .i64 n, .int .i64 wd] 66) := ⟨_, rfl⟩
  have BA := Lib.hid (show IsB w1 A 66 #[.int .i64 16, .int .i64 n, .int .i64 wd] from by rw [hw1, hA]; exact IsB.new _ _ _)
  have GZ := Lib.hid (show w.grownBy w1 none from by rw [hw1]; exact gb_al (gb_refl _ _))
  have k0 : w1.cell? ⟨g, 0, none⟩ = some (.int .u32 v0) := GZ.out.cell h0 (by simp)
  have l0 : w1.cell? ⟨g, 1, none⟩ = some (.int .i64 w0) := GZ.out.cell j0 (by simp)
  have k1 : w1.cell? ⟨g, 3, none⟩ = some (.int .u32 v1) := GZ.out.cell h1 (by simp)
  have l1 : w1.cell? ⟨g, 4, none⟩ = some (.int .i64 x1) := GZ.out.cell j1 (by simp)
  go_enter Tryz.func46, Tryz.ntmps46
  go_upto_region 1 with fail
  rw [← hA, ← hw1]
  clear hw1 hA
  have a0 : w1.cell? ⟨A, 0, none⟩ = some (.int .i64 16) := BA.out.cell 0
  have a1 : w1.cell? ⟨A, 1, none⟩ = some (.int .i64 n) := BA.out.cell 1
  have a2 : w1.cell? ⟨A, 2, none⟩ = some (.int .i64 wd) := BA.out.cell 2
  go_upto_region 27 with fail
  have KS := Lib.hid (fun (w' : World) (q0 : w1.grownBy w' none) => (⟨q0.cell k0 (by simp), q0.cell k1 (by simp), q0.cell l0 (by simp), q0.cell l1 (by simp), q0.cell a1 (by simp), q0.cell a2 (by simp), q0⟩ : (fun w' : World => w'.cell? ⟨g, 0, none⟩ = some (.int .u32 v0) ∧ w'.cell? ⟨g, 3, none⟩ = some (.int .u32 v1) ∧ w'.cell? ⟨g, 1, none⟩ = some (.int .i64 w0) ∧ w'.cell? ⟨g, 4, none⟩ = some (.int .i64 x1) ∧ w'.cell? ⟨A, 1, none⟩ = some (.int .i64 n) ∧ w'.cell? ⟨A, 2, none⟩ = some (.int .i64 wd) ∧ w1.grownBy w' none) w'))
  have H0 := Lib.hid (gb_drew w1 none)
  refine wp_region_held_drew (S := (fun w' : World => w'.cell? ⟨g, 0, none⟩ = some (.int .u32 v0) ∧ w'.cell? ⟨g, 3, none⟩ = some (.int .u32 v1) ∧ w'.cell? ⟨g, 1, none⟩ = some (.int .i64 w0) ∧ w'.cell? ⟨g, 4, none⟩ = some (.int .i64 x1) ∧ w'.cell? ⟨A, 1, none⟩ = some (.int .i64 n) ∧ w'.cell? ⟨A, 2, none⟩ = some (.int .i64 wd) ∧ w1.grownBy w' none)) (by kernel_rfl) (KS.out _ H0.out) (fun hH0 => ?_)
  refine wpAnyH_take (i := 0) (v := ?v124) rfl (by kernel_rfl) (by kernel_rfl) (by kernel_rfl) (fun _ _ _ h => h) (Or.inl ⟨by rfl, ?hy124⟩) (by assumption) ?rest124
  case hy124 => (intro wz hSw; (try dsimp only at hSw); first | (go_simp; done) | (go_simp; with_reducible rfl))
  try simp only [Act.put, List.getElem_toArray, List.getElem_cons_zero, List.setIfInBounds_toArray, List.set_cons_zero, List.set_cons_succ]
  refine wpAnyH_take (i := 1) (v := ?v125) rfl (by kernel_rfl) (by kernel_rfl) (by kernel_rfl) (fun _ _ _ h => h) (Or.inl ⟨by rfl, ?hy125⟩) (by assumption) ?rest125
  case hy125 => (intro wz hSw; (try dsimp only at hSw); first | (go_simp; done) | (go_simp; with_reducible rfl))
  try simp only [Act.put, List.getElem_toArray, List.getElem_cons_succ, List.getElem_cons_zero, List.setIfInBounds_toArray, List.set_cons_zero, List.set_cons_succ]
  refine wpAnyH_take (i := 2) (v := ?v126) rfl (by kernel_rfl) (by kernel_rfl) (by kernel_rfl) (fun _ _ _ h => h) (Or.inl ⟨by rfl, ?hy126⟩) (by assumption) ?rest126
  case hy126 => (intro wz hSw; (try dsimp only at hSw); first | (go_simp; done) | (go_simp; with_reducible rfl))
  try simp only [Act.put, List.getElem_toArray, List.getElem_cons_succ, List.getElem_cons_zero, List.setIfInBounds_toArray, List.set_cons_zero, List.set_cons_succ]
  refine wpAnyH_take (i := 3) (v := ?v127) rfl (by kernel_rfl) (by kernel_rfl) (by kernel_rfl) (fun _ _ _ h => h) (Or.inl ⟨by rfl, ?hy127⟩) (by assumption) ?rest127
  case hy127 => (intro wz hSw; (try dsimp only at hSw); first | (go_simp; done) | (go_simp; with_reducible rfl))
  try simp only [Act.put, List.getElem_toArray, List.getElem_cons_succ, List.getElem_cons_zero, List.setIfInBounds_toArray, List.set_cons_zero, List.set_cons_succ]
  refine wpAnyH_take (i := 4) (v := ?v128) rfl (by kernel_rfl) (by kernel_rfl) (by kernel_rfl) (fun _ _ _ h => h) (Or.inl ⟨by rfl, ?hy128⟩) (by assumption) ?rest128
  case hy128 => (intro wz hSw; (try dsimp only at hSw); first | (go_simp; done) | (go_simp; with_reducible rfl))
  try simp only [Act.put, List.getElem_toArray, List.getElem_cons_succ, List.getElem_cons_zero, List.setIfInBounds_toArray, List.set_cons_zero, List.set_cons_succ]
  refine wpAnyH_take (i := 5) (v := ?v129) rfl (by kernel_rfl) (by kernel_rfl) (by kernel_rfl) (fun _ _ _ h => h) (Or.inl ⟨by rfl, ?hy129⟩) (by assumption) ?rest129
  case hy129 => (intro wz hSw; (try dsimp only at hSw); first | (go_simp; done) | (go_simp; with_reducible rfl))
  try simp only [Act.put, List.getElem_toArray, List.getElem_cons_succ, List.getElem_cons_zero, List.setIfInBounds_toArray, List.set_cons_zero, List.set_cons_succ]
  refine wpAnyH_take (i := 6) (v := ?v130) rfl (by kernel_rfl) (by kernel_rfl) (by kernel_rfl) (fun _ _ _ h => h) (Or.inl ⟨by rfl, ?hy130⟩) (by assumption) ?rest130
  case hy130 => (intro wz hSw; (try dsimp only at hSw); first | (go_simp; done) | (go_simp; with_reducible rfl))
  try simp only [Act.put, List.getElem_toArray, List.getElem_cons_succ, List.getElem_cons_zero, List.setIfInBounds_toArray, List.set_cons_zero, List.set_cons_succ]
  refine wpAnyH_take (i := 7) (v := ?v131) rfl (by kernel_rfl) (by kernel_rfl) (by kernel_rfl) (fun _ _ _ h => h) (Or.inl ⟨by rfl, ?hy131⟩) (by assumption) ?rest131
  case hy131 => (intro wz hSw; (try dsimp only at hSw); first | (go_simp; done) | (go_simp; with_reducible rfl))
  try simp only [Act.put, List.getElem_toArray, List.getElem_cons_succ, List.getElem_cons_zero, List.setIfInBounds_toArray, List.set_cons_zero, List.set_cons_succ]
  refine wpAnyH_take (i := 8) (v := ?v132) rfl (by kernel_rfl) (by kernel_rfl) (by kernel_rfl) (fun _ _ _ h => h) (Or.inl ⟨by rfl, ?hy132⟩) (by assumption) ?rest132
  case hy132 => (intro wz hSw; (try dsimp only at hSw); first | (go_simp; done) | (go_simp; with_reducible rfl))
  try simp only [Act.put, List.getElem_toArray, List.getElem_cons_succ, List.getElem_cons_zero, List.setIfInBounds_toArray, List.set_cons_zero, List.set_cons_succ]
  refine wpAnyH_ready (rs := [9]) (by kernel_rfl) (by simp) ?_
  refine AllReadyH.cons (o := _) rfl (fun K hK => ?_) AllReadyH.nil
  go_simp
  (with_reducible refine (NT.out _).mono ?_)
  rintro e hw1 ⟨rfl, g⟩
  have H1 := Lib.hid (gb_trans H0.out g)
  clear g
  try dsimp only
  refine hK.out _ _ (KS.out _ H1.out) (fun hH1 => ?_)
  clear hK K hH0
  try simp only [Act.put, List.getElem_toArray, List.getElem_cons_succ, List.getElem_cons_zero, List.setIfInBounds_toArray, List.set_cons_zero, List.set_cons_succ]
  refine wpAnyH_take (i := 10) (v := ?v133) rfl (by kernel_rfl) (by kernel_rfl) (by kernel_rfl) (fun _ _ _ h => h) (Or.inl ⟨by rfl, ?hy133⟩) (by assumption) ?rest133
  case hy133 => (intro wz hSw; (try dsimp only at hSw); first | (go_simp; done) | (go_simp; with_reducible rfl))
  try simp only [Act.put, List.getElem_toArray, List.getElem_cons_succ, List.getElem_cons_zero, List.setIfInBounds_toArray, List.set_cons_zero, List.set_cons_succ]
  refine wpAnyH_done (by kernel_rfl) ?_ _
  clear hH1
  go_wp2
  go_ret
  exact ⟨rfl, gb_trans GZ.out H1.out⟩
set_option maxRecDepth 100000 in
set_option maxHeartbeats 4000000 in
theorem rap_17t (w : World) (g c_ : Nat) (n wd v0 w0 v1 x1 v2 w2 : Int) (h0 : w.cell? ⟨g, 0, none⟩ = some (.int .u32 v0)) (j0 : w.cell? ⟨g, 1, none⟩ = some (.int .i64 w0)) (h1 : w.cell? ⟨g, 3, none⟩ = some (.int .u32 v1)) (j1 : w.cell? ⟨g, 4, none⟩ = some (.int .i64 x1)) (h2 : w.cell? ⟨g, 6, none⟩ = some (.int .u32 v2)) (j2 : w.cell? ⟨g, 7, none⟩ = some (.int .i64 w2)) (hq : v0 = 1) :
    Calls Tryz.prog 46 #[.agg #[.int .i64 17, .int .i64 n, .int .i64 wd], .slice (some ⟨g, 0, none⟩) 3 c_] w (RetV (.int .u32 (v1)) w) := by
  subst hq
  obtain ⟨A, hA⟩ : ∃ A, A = w.heap.size := ⟨_, rfl⟩
  obtain ⟨w1, hw1⟩ : ∃ w1, w1 = w.alloc (.cells #[.int .i64 17, .int .i64 n, .int .i64 wd] 66) := ⟨_, rfl⟩
  have BA := Lib.hid (show IsB w1 A 66 #[.int .i64 17, .int .i64 n, .int .i64 wd] from by rw [hw1, hA]; exact IsB.new _ _ _)
  have GZ := Lib.hid (show w.grownBy w1 none from by rw [hw1]; exact gb_al (gb_refl _ _))
  have k0 : w1.cell? ⟨g, 0, none⟩ = some (.int .u32 1) := GZ.out.cell h0 (by simp)
  have l0 : w1.cell? ⟨g, 1, none⟩ = some (.int .i64 w0) := GZ.out.cell j0 (by simp)
  have k1 : w1.cell? ⟨g, 3, none⟩ = some (.int .u32 v1) := GZ.out.cell h1 (by simp)
  have l1 : w1.cell? ⟨g, 4, none⟩ = some (.int .i64 x1) := GZ.out.cell j1 (by simp)
  have k2 : w1.cell? ⟨g, 6, none⟩ = some (.int .u32 v2) := GZ.out.cell h2 (by simp)
  have l2 : w1.cell? ⟨g, 7, none⟩ = some (.int .i64 w2) := GZ.out.cell j2 (by simp)
  go_enter Tryz.func46, Tryz.ntmps46
  go_upto_region 1 with fail
  rw [← hA, ← hw1]
  clear hw1 hA
  have a0 : w1.cell? ⟨A, 0, none⟩ = some (.int .i64 17) := BA.out.cell 0
  have a1 : w1.cell? ⟨A, 1, none⟩ = some (.int .i64 n) := BA.out.cell 1
  have a2 : w1.cell? ⟨A, 2, none⟩ = some (.int .i64 wd) := BA.out.cell 2
  go_wp2
  go_ret
  exact ⟨rfl, GZ.out⟩
set_option maxRecDepth 100000 in
set_option maxHeartbeats 4000000 in
theorem rap_17f (w : World) (g c_ : Nat) (n wd v0 w0 v1 x1 v2 w2 : Int) (h0 : w.cell? ⟨g, 0, none⟩ = some (.int .u32 v0)) (j0 : w.cell? ⟨g, 1, none⟩ = some (.int .i64 w0)) (h1 : w.cell? ⟨g, 3, none⟩ = some (.int .u32 v1)) (j1 : w.cell? ⟨g, 4, none⟩ = some (.int .i64 x1)) (h2 : w.cell? ⟨g, 6, none⟩ = some (.int .u32 v2)) (j2 : w.cell? ⟨g, 7, none⟩ = some (.int .i64 w2)) (hq : ¬ v0 = 1) :
    Calls Tryz.prog 46 #[.agg #[.int .i64 17, .int .i64 n, .int .i64 wd], .slice (some ⟨g, 0, none⟩) 3 c_] w (RetV (.int .u32 (v2)) w) := by
  have e1 : (v0 == 1) = false := by rw [beq_eq_false_iff_ne]; exact hq
  obtain ⟨A, hA⟩ : ∃ A, A = w.heap.size := ⟨_, rfl⟩
  obtain ⟨w1, hw1⟩ : ∃ w1, w1 = w.alloc (.cells #[.int .i64 17, .int .i64 n, .int .i64 wd] 66) := ⟨_, rfl⟩
  have BA := Lib.hid (show IsB w1 A 66 #[.int .i64 17, .int .i64 n, .int .i64 wd] from by rw [hw1, hA]; exact IsB.new _ _ _)
  have GZ := Lib.hid (show w.grownBy w1 none from by rw [hw1]; exact gb_al (gb_refl _ _))
  have k0 : w1.cell? ⟨g, 0, none⟩ = some (.int .u32 v0) := GZ.out.cell h0 (by simp)
  have l0 : w1.cell? ⟨g, 1, none⟩ = some (.int .i64 w0) := GZ.out.cell j0 (by simp)
  have k1 : w1.cell? ⟨g, 3, none⟩ = some (.int .u32 v1) := GZ.out.cell h1 (by simp)
  have l1 : w1.cell? ⟨g, 4, none⟩ = some (.int .i64 x1) := GZ.out.cell j1 (by simp)
  have k2 : w1.cell? ⟨g, 6, none⟩ = some (.int .u32 v2) := GZ.out.cell h2 (by simp)
  have l2 : w1.cell? ⟨g, 7, none⟩ = some (.int .i64 w2) := GZ.out.cell j2 (by simp)
  go_enter Tryz.func46, Tryz.ntmps46
  go_upto_region 1 with fail
  rw [← hA, ← hw1]
  clear hw1 hA
  have a0 : w1.cell? ⟨A, 0, none⟩ = some (.int .i64 17) := BA.out.cell 0
  have a1 : w1.cell? ⟨A, 1, none⟩ = some (.int .i64 n) := BA.out.cell 1
  have a2 : w1.cell? ⟨A, 2, none⟩ = some (.int .i64 wd) := BA.out.cell 2
  go_wp2
  go_ret
  exact ⟨rfl, GZ.out⟩
theorem rap_any (w : World) (g c_ : Nat) (C : Cx) (op n wd : Int) (ts : List Tm) (hb : arB op = true) (hl : ts.length = arN op) (hp : 0 < arN op) (hg : ∀ t ∈ ts, GT t) (hc : ∀ i, i < ts.length → w.cell? ⟨g, i * 3, none⟩ = some (.int .u32 (ts.getD i tz).2) ∧ w.cell? ⟨g, i * 3 + 1, none⟩ = some (.int .i64 (ts.getD i tz).1)) (r : Tm) (hok : nodeT C (op, n, wd) ts = .ok r) :
    Calls Tryz.prog 46 #[.agg #[.int .i64 op, .int .i64 n, .int .i64 wd], .slice (some ⟨g, 0, none⟩) ts.length c_] w (RetV (.int .u32 r.2) w) := by
  have h17 : 1 ≤ op ∧ op ≤ 17 := of_decide_eq_true hb
  have h5 : 5 ≤ op := by
    rcases Int.lt_or_le op 5 with h | h
    · have : arN op = 0 := by unfold arN; (repeat' split) <;> omega
      omega
    · exact h
  rcases (show (5 ≤ op ∧ op ≤ 8) ∨ (9 ≤ op ∧ op ≤ 16) ∨ op = 17 by omega) with h | h | h
  · have e1 := arN_un op h
    rw [e1] at hl
    match ts, hl with
    | [t], _ =>
      obtain ⟨h0, j0⟩ := hc 0 (by simp)
      have gt := gt_u32 (hg t (by simp))
      rw [nod1 C op n wd t e1] at hok
      rcases (show op = 5 ∨ op = 6 ∨ op = 7 ∨ op = 8 by omega) with rfl | rfl | rfl | rfl
      · obtain rfl : (t.1, notB t.2 t.1) = r := by injection hok
        exact rap_5 w g c_ n wd t.2 t.1 h0 j0 gt
      · have hn : 0 ≤ n ∧ n ≤ 31 := by
          obtain ⟨k1, k2, _⟩ := un_sh 6 n wd t (.inl rfl)
          refine ⟨Int.not_lt.1 fun q => ?_, Int.not_lt.1 fun q => ?_⟩
          · rw [k1 q] at hok; cases hok
          · rw [k2 q] at hok; cases hok
        have e : unT (6, n, wd) t = .ok (t.1, shlB t.2 n t.1) := by unfold unT; dsimp only; rw [if_neg (by decide), if_neg (by decide), if_neg (by omega), if_pos rfl]
        rw [e] at hok
        obtain rfl : (t.1, shlB t.2 n t.1) = r := by injection hok
        exact rap_6 w g c_ n wd t.2 t.1 h0 j0 gt
      · have hn : 0 ≤ n ∧ n ≤ 31 := by
          obtain ⟨k1, k2, _⟩ := un_sh 7 n wd t (.inr rfl)
          refine ⟨Int.not_lt.1 fun q => ?_, Int.not_lt.1 fun q => ?_⟩
          · rw [k1 q] at hok; cases hok
          · rw [k2 q] at hok; cases hok
        have e : unT (7, n, wd) t = .ok (t.1, shrB t.2 n t.1) := by unfold unT; dsimp only; rw [if_neg (by decide), if_neg (by decide), if_neg (by omega), if_neg (by decide)]
        rw [e] at hok
        obtain rfl : (t.1, shrB t.2 n t.1) = r := by injection hok
        exact rap_7 w g c_ n wd t.2 t.1 h0 j0 gt
      · have e : unT (8, n, wd) t = sliceT t n wd := rfl
        rw [e] at hok
        unfold sliceT at hok
        split at hok
        · cases hok
        · split at hok
          · obtain rfl : (wd, sliceB t.2 n wd) = r := by injection hok
            exact rap_8 w g c_ n wd t.2 t.1 h0 j0 gt
          · cases hok
  · have e1 := arN_bi op h
    rw [e1] at hl
    match ts, hl with
    | [t, u], _ =>
      obtain ⟨h0, j0⟩ := hc 0 (by simp)
      obtain ⟨h1, j1⟩ := hc 1 (by simp)
      have gt := gt_u32 (hg t (by simp))
      have gu := gt_u32 (hg u (by simp))
      rw [nod2 C op n wd t u e1] at hok
      by_cases h14 : op = 14
      · subst h14
        have e : binT 14 t u = concT t u := rfl
        rw [e] at hok
        unfold concT at hok
        split at hok
        · obtain rfl : (t.1 + u.1, catB t.2 t.1 u.2 u.1) = r := by injection hok
          exact rap_14 w g c_ n wd t.2 t.1 u.2 u.1 h0 j0 h1 j1 gt gu
        · cases hok
      · have hk : t.1 = u.1 := by
          rcases Int.decEq t.1 u.1 with q | q
          · rw [bin_ne op t u h14 q] at hok; cases hok
          · exact q
        rw [bin_eq op t u h14 hk] at hok
        obtain rfl : combT op t u = r := by injection hok
        rcases (show op = 9 ∨ op = 10 ∨ op = 11 ∨ op = 12 ∨ op = 13 ∨ op = 15 ∨ op = 16 by omega) with rfl | rfl | rfl | rfl | rfl | rfl | rfl
        · exact rap_9 w g c_ n wd t.2 t.1 u.2 u.1 h0 j0 h1 j1 gt gu
        · exact rap_10 w g c_ n wd t.2 t.1 u.2 u.1 h0 j0 h1 j1 gt gu
        · exact rap_11 w g c_ n wd t.2 t.1 u.2 u.1 h0 j0 h1 j1
        · exact rap_12 w g c_ n wd t.2 t.1 u.2 u.1 h0 j0 h1 j1
        · exact rap_13 w g c_ n wd t.2 t.1 u.2 u.1 h0 j0 h1 j1
        · show Calls _ _ _ _ (RetV (.int .u32 (bitI (decide (t.2 = u.2)))) w)
          by_cases q : t.2 = u.2
          · rw [decide_eq_true q]; exact rap_15t w g c_ n wd t.2 t.1 u.2 u.1 h0 j0 h1 j1 q
          · rw [decide_eq_false q]; exact rap_15f w g c_ n wd t.2 t.1 u.2 u.1 h0 j0 h1 j1 q
        · show Calls _ _ _ _ (RetV (.int .u32 (bitI (decide (t.2 < u.2)))) w)
          by_cases q : t.2 < u.2
          · rw [decide_eq_true q]; exact rap_16t w g c_ n wd t.2 t.1 u.2 u.1 h0 j0 h1 j1 q
          · rw [decide_eq_false q]; exact rap_16f w g c_ n wd t.2 t.1 u.2 u.1 h0 j0 h1 j1 q
  · subst h
    rw [arN_17] at hl
    match ts, hl with
    | [t, u, v], _ =>
      obtain ⟨h0, j0⟩ := hc 0 (by simp)
      obtain ⟨h1, j1⟩ := hc 1 (by simp)
      obtain ⟨h2, j2⟩ := hc 2 (by simp)
      rw [nod3 C 17 n wd t u v arN_17] at hok
      unfold choT at hok
      split at hok
      · split at hok
        · rename_i q
          obtain rfl : u = r := by injection hok
          exact rap_17t w g c_ n wd t.2 t.1 u.2 u.1 v.2 v.1 h0 j0 h1 j1 h2 j2 q
        · rename_i q
          obtain rfl : v = r := by injection hok
          exact rap_17f w g c_ n wd t.2 t.1 u.2 u.1 v.2 v.1 h0 j0 h1 j1 h2 j2 q
      · cases hok
end Go.Proofs.YtcicjodpkbcigaaGreat
