/- The reference's order of fields and a field added; no condition but that lists are short. -/
import Derived.Test.YtcicjodpkbcigaaGreatSqI
namespace Go.Proofs.YtcicjodpkbcigaaGreat
open Go.RowKit
set_option linter.unusedVariables false
set_option maxRecDepth 100000 in
theorem rless_any (W : World) (a1 a2 c1 c2 : Int) : Calls Tryz.prog 41 #[.agg #[.int .i64 a1, .int .i64 a2], .agg #[.int .i64 c1, .int .i64 c2]] W (RetV (.bool (decide (ltR (a1, a2) (c1, c2)))) W) := by
  obtain ⟨r, hr⟩ : ∃ r, r = decide (ltR (a1, a2) (c1, c2)) := ⟨_, rfl⟩
  have HR := Lib.hid hr
  rw [← hr]
  clear hr
  go_enter Tryz.func41, Tryz.ntmps41
  by_cases h : a1 < c1
  · have e : r = true := by rw [HR.out]; exact decide_eq_true (Or.inl h)
    subst e
    go_wp2
    go_ret
    exact ⟨rfl, gb_al (gb_al (gb_refl _ _))⟩
  · have h' : c1 ≤ a1 := by omega
    by_cases k : a1 = c1
    · subst k
      by_cases l : a2 < c2
      · have e : r = true := by rw [HR.out]; exact decide_eq_true (Or.inr ⟨rfl, l⟩)
        subst e
        go_wp2
        go_ret
        exact ⟨rfl, gb_al (gb_al (gb_refl _ _))⟩
      · have e : r = false := by rw [HR.out]; exact decide_eq_false (by unfold ltR; simp; omega)
        have l' : c2 ≤ a2 := by omega
        subst e
        go_wp2
        go_ret
        exact ⟨rfl, gb_al (gb_al (gb_refl _ _))⟩
    · have e : r = false := by rw [HR.out]; exact decide_eq_false (by unfold ltR; simp; omega)
      have k' : (a1 == c1) = false := by rw [beq_eq_false_iff_ne]; exact k
      subst e
      go_wp2
      go_ret
      exact ⟨rfl, gb_al (gb_al (gb_refl _ _))⟩
theorem drop_f (L : List (Int × Int)) (i : Nat) (h : i < L.length) : L.drop i = L.getD i rz :: L.drop (i + 1) := by
  rw [List.drop_eq_getElem_cons h, List.getD_eq_getElem?_getD, List.getElem?_eq_getElem h]; rfl
def aR (x : Int × Int) (L : List (Int × Int)) : List (Int × Int) := addA ltR x L
theorem aR_nil (x : Int × Int) : aR x [] = [x] := rfl
theorem aR_lt (x y : Int × Int) (l : List (Int × Int)) (h : ltR y x) : aR x (y :: l) = y :: aR x l := by unfold aR; rw [addA, if_pos h]
theorem aR_eq (y : Int × Int) (l : List (Int × Int)) : aR y (y :: l) = y :: l := by unfold aR; rw [addA, if_neg (toR.irr y), if_pos rfl]
theorem aR_gt (x y : Int × Int) (l : List (Int × Int)) (h : ¬ ltR y x) (k : ¬ y = x) : aR x (y :: l) = x :: y :: l := by unfold aR; rw [addA, if_neg h, if_neg k]
def rstR (pl : Bool) (x : Int × Int) (L : List (Int × Int)) : List (Int × Int) := if pl = true then L else aR x L
set_option maxRecDepth 100000 in
set_option maxHeartbeats 16000000 in
theorem raddfield_any (w : World) (base : Nat) (a : Option Addr) (n c : Nat) (L : List (Int × Int)) (hn0 : L.length = n) (hL : FL w base (.slice a n c) L) (hn : n ≤ 1000) (x1 x2 : Int) :
    Calls Tryz.prog 29 #[.slice a n c, .agg #[.int .i64 x1, .int .i64 x2]] w (RetFX (aR (x1, x2) L) w) := by
  have LN := Lib.hid hn0
  have HL := Lib.hid hL
  clear hL hn0
  obtain ⟨R, hR⟩ : ∃ R, R = aR (x1, x2) L := ⟨_, rfl⟩
  have HR := Lib.hid (show R = [] ++ rstR false (x1, x2) (L.drop 0) by rw [hR]; rfl)
  rw [← hR]
  clear hR
  go_enter Tryz.func29, Tryz.ntmps29
  go_upto_region 1 with fail
  have B := Lib.hid (IsB.new w 69 #[.int .i64 x1, .int .i64 x2])
  have G0 := Lib.hid (gb_alloc w (.cells #[.int .i64 x1, .int .i64 x2] 69) none)
  replace HL := Lib.hid (HL.out.keep0 G0.out)
  generalize w.alloc (.cells #[.int .i64 x1, .int .i64 x2] 69) = w1 at *
  generalize w.heap.size = b3 at B ⊢
  have X0 := Lib.hid (show w1.cell? ⟨b3, 0, none⟩ = some (.int .i64 x1) from B.out.cell 0)
  have X1 := Lib.hid (show w1.cell? ⟨b3, 1, none⟩ = some (.int .i64 x2) from B.out.cell 1)
  go_wp2
  go_loopw [5, 6, 7] (fun s5 s6 s7 wr => ∃ (i m : Nat) (pl : Bool) (out : List (Int × Int)) (b : Option Addr) (d : Nat), i ≤ n ∧ s7 = .int .i64 i ∧ s6 = .bool pl ∧ s5 = .slice b m d ∧ out.length = m ∧ m ≤ 2 * i ∧ FL wr w1.heap.size (.slice b m d) out ∧ R = out ++ rstR pl (x1, x2) (L.drop i) ∧ w1.grownBy wr none) (fun _ _ s7 _ => n - (intOf s7).toNat)
  case atStart => exact ⟨0, 0, false, [], none, 0, Nat.zero_le _, rfl, rfl, rfl, rfl, Nat.le_refl _, FL.nil _ _, HR.out, gb_refl _ _⟩
  case round =>
    obtain ⟨i, m, pl, out, b, d, hi, rfl, rfl, rfl, hm, hm2, ho, hr, hg⟩ := hrel
    have OM := Lib.hid hm
    have O := Lib.hid ho
    have RR := Lib.hid hr
    have G := Lib.hid hg
    clear hm ho hr hg HR
    by_cases hlt : i < n
    · have i1 : (i : Int) < n := by omega
      have i0 : (0 : Int) ≤ (i : Int) := by omega
      have hw : IntKind.i64.wrap ((i : Int) + 1) = ((i + 1 : Nat) : Int) := by rw [IntKind.wrap_i64]; omega
      have ncap := own_cap (show w1.ownsRow base 69 2 (.slice a n c) n (L.flatMap rC) by have z := HL.out; unfold FL at z; rw [LN.out] at z; exact z)
      obtain ⟨g, cx, hv⟩ := own_head (show w1.ownsRow base 69 2 (.slice a n c) n (L.flatMap rC) by have z := HL.out; unfold FL at z; rw [LN.out] at z; exact z) (by omega)
      injection hv with hv _ hc
      subst hv hc
      have DR := Lib.hid (drop_f L i (by rw [LN.out]; exact hlt))
      obtain ⟨yy, zz⟩ := FL.at_ (show FL w1 base (.slice (some ⟨g, 0, none⟩) L.length c) L by rw [LN.out]; exact HL.out) i (by rw [LN.out]; exact hlt)
      have Y0 := Lib.hid yy
      have Y1 := Lib.hid zz
      clear yy zz
      generalize L.getD i rz = y at *
      obtain ⟨y1, y2⟩ := y
      dsimp only at Y0 Y1
      have LS := Lib.hid (fun W => rless_any W y1 y2 x1 x2)
      unfold RetV at LS
      cases pl with
      | true =>
        have RN := Lib.hid (show R = (out ++ [(y1, y2)]) ++ rstR true (x1, x2) (L.drop (i + 1)) by rw [RR.out, DR.out]; simp [rstR])
        go_upto_region 6 with fail
        have KJ := Lib.hid (fun (w' : World) (q0 : wr.grownBy w' none) => (⟨(gb_trans G.out q0).cell X0.out (by simp), (gb_trans G.out q0).cell X1.out (by simp), (gb_trans G.out q0).cell Y0.out (by simp), (gb_trans G.out q0).cell Y1.out (by simp), q0⟩ : (fun w' : World => w'.cell? ⟨b3, 0, none⟩ = some (.int .i64 x1) ∧ w'.cell? ⟨b3, 1, none⟩ = some (.int .i64 x2) ∧ w'.cell? ⟨g, i * 2, none⟩ = some (.int .i64 y1) ∧ w'.cell? ⟨g, i * 2 + 1, none⟩ = some (.int .i64 y2) ∧ wr.grownBy w' none) w'))
        have J0 := Lib.hid (gb_drew wr none)
        refine wp_region_held_drew (S := (fun w' : World => w'.cell? ⟨b3, 0, none⟩ = some (.int .i64 x1) ∧ w'.cell? ⟨b3, 1, none⟩ = some (.int .i64 x2) ∧ w'.cell? ⟨g, i * 2, none⟩ = some (.int .i64 y1) ∧ w'.cell? ⟨g, i * 2 + 1, none⟩ = some (.int .i64 y2) ∧ wr.grownBy w' none)) (by kernel_rfl) (KJ.out _ J0.out) (fun hH0 => ?_)
        refine wpAnyH_take (i := 0) (v := ?v1) rfl (by kernel_rfl) (by kernel_rfl) (by kernel_rfl) (fun _ _ _ h => h) (Or.inl ⟨by rfl, ?hy1⟩) (by assumption) ?rest1
        case hy1 => (intro wz hSw; (try dsimp only at hSw); first | (go_simp; done) | (go_simp; with_reducible rfl))
        try simp only [Act.put, List.getElem_toArray, List.getElem_cons_zero, List.setIfInBounds_toArray, List.set_cons_zero, List.set_cons_succ]
        refine wpAnyH_take (i := 1) (v := ?v2) rfl (by kernel_rfl) (by kernel_rfl) (by kernel_rfl) (fun _ _ _ h => h) (Or.inl ⟨by rfl, ?hy2⟩) (by assumption) ?rest2
        case hy2 => (intro wz hSw; (try dsimp only at hSw); first | (go_simp; done) | (go_simp; with_reducible rfl))
        try simp only [Act.put, List.getElem_toArray, List.getElem_cons_succ, List.getElem_cons_zero, List.setIfInBounds_toArray, List.set_cons_zero, List.set_cons_succ]
        refine wpAnyH_take (i := 2) (v := ?v3) rfl (by kernel_rfl) (by kernel_rfl) (by kernel_rfl) (fun _ _ _ h => h) (Or.inl ⟨by rfl, ?hy3⟩) (by assumption) ?rest3
        case hy3 => (intro wz hSw; (try dsimp only at hSw); first | (go_simp; done) | (go_simp; with_reducible rfl))
        try simp only [Act.put, List.getElem_toArray, List.getElem_cons_succ, List.getElem_cons_zero, List.setIfInBounds_toArray, List.set_cons_zero, List.set_cons_succ]
        refine wpAnyH_take (i := 3) (v := undef) rfl (by kernel_rfl) (by kernel_rfl) (by kernel_rfl) (fun _ _ _ h => h) (Or.inr ⟨by rfl, rfl⟩) (by assumption) ?_
        try simp only [Act.put, List.getElem_toArray, List.getElem_cons_succ, List.getElem_cons_zero, List.setIfInBounds_toArray, List.set_cons_zero, List.set_cons_succ]
        refine wpAnyH_take (i := 4) (v := undef) rfl (by kernel_rfl) (by kernel_rfl) (by kernel_rfl) (fun _ _ _ h => h) (Or.inr ⟨by rfl, rfl⟩) (by assumption) ?_
        try simp only [Act.put, List.getElem_toArray, List.getElem_cons_succ, List.getElem_cons_zero, List.setIfInBounds_toArray, List.set_cons_zero, List.set_cons_succ]
        refine wpAnyH_take (i := 5) (v := undef) rfl (by kernel_rfl) (by kernel_rfl) (by kernel_rfl) (fun _ _ _ h => h) (Or.inr ⟨by rfl, rfl⟩) (by assumption) ?_
        try simp only [Act.put, List.getElem_toArray, List.getElem_cons_succ, List.getElem_cons_zero, List.setIfInBounds_toArray, List.set_cons_zero, List.set_cons_succ]
        refine wpAnyH_take (i := 6) (v := undef) rfl (by kernel_rfl) (by kernel_rfl) (by kernel_rfl) (fun _ _ _ h => h) (Or.inr ⟨by rfl, rfl⟩) (by assumption) ?_
        try simp only [Act.put, List.getElem_toArray, List.getElem_cons_succ, List.getElem_cons_zero, List.setIfInBounds_toArray, List.set_cons_zero, List.set_cons_succ]
        refine wpAnyH_take (i := 7) (v := undef) rfl (by kernel_rfl) (by kernel_rfl) (by kernel_rfl) (fun _ _ _ h => h) (Or.inr ⟨by rfl, rfl⟩) (by assumption) ?_
        try simp only [Act.put, List.getElem_toArray, List.getElem_cons_succ, List.getElem_cons_zero, List.setIfInBounds_toArray, List.set_cons_zero, List.set_cons_succ]
        refine wpAnyH_take (i := 8) (v := undef) rfl (by kernel_rfl) (by kernel_rfl) (by kernel_rfl) (fun _ _ _ h => h) (Or.inr ⟨by rfl, rfl⟩) (by assumption) ?_
        try simp only [Act.put, List.getElem_toArray, List.getElem_cons_succ, List.getElem_cons_zero, List.setIfInBounds_toArray, List.set_cons_zero, List.set_cons_succ]
        refine wpAnyH_take (i := 9) (v := undef) rfl (by kernel_rfl) (by kernel_rfl) (by kernel_rfl) (fun _ _ _ h => h) (Or.inr ⟨by rfl, rfl⟩) (by assumption) ?_
        try simp only [Act.put, List.getElem_toArray, List.getElem_cons_succ, List.getElem_cons_zero, List.setIfInBounds_toArray, List.set_cons_zero, List.set_cons_succ]
        refine wpAnyH_take (i := 10) (v := ?v4) rfl (by kernel_rfl) (by kernel_rfl) (by kernel_rfl) (fun _ _ _ h => h) (Or.inl ⟨by rfl, ?hy4⟩) (by assumption) ?rest4
        case hy4 => (intro wz hSw; (try dsimp only at hSw); first | (go_simp; done) | (go_simp; with_reducible rfl))
        try simp only [Act.put, List.getElem_toArray, List.getElem_cons_succ, List.getElem_cons_zero, List.setIfInBounds_toArray, List.set_cons_zero, List.set_cons_succ]
        refine wpAnyH_done (by kernel_rfl) ?_ _
        clear hH0
        have GJ := Lib.hid (gb_trans G.out J0.out)
        have OJ := Lib.hid (O.out.keep0 J0.out)
        clear KJ J0
        generalize wr.drew = jw1 at *
        have x0 := GJ.out.cell X0.out (by simp)
        have x1c := GJ.out.cell X1.out (by simp)
        have y0 := GJ.out.cell Y0.out (by simp)
        have y1c := GJ.out.cell Y1.out (by simp)
        have TB8 := Lib.hid (ref_cell _ _ _ (y1, y2) _ (IsB.new jw1 69 #[.int .i64 y1, .int .i64 y2]) rfl)
        have GB8 := Lib.hid (gb_al (o := .cells #[.int .i64 y1, .int .i64 y2] 69) GJ.out)
        have OB8 := Lib.hid (OJ.out.keep0 (gb_alloc jw1 (.cells #[.int .i64 y1, .int .i64 y2] 69) none))
        go_wp2_with (at_builtin; refine pushRef rfl _ _ rfl w1.heap.size _ (out) rfl OB8.out _ _ (y1, y2) rfl TB8.out (by have := OM.out; simp; omega) GB8.out.size ?_; intro V8 w8 o8 g8; have O8 := Lib.hid (rl_fl o8); have G8 := Lib.hid (gb_own GB8.out OB8.out (Nat.le_refl _) g8); clear o8 g8)
        obtain ⟨a8, c8, h8⟩ := O8.out.shape
        rw [show (out ++ [(y1, y2)]).length = m + 1 by simp [OM.out]] at h8
        subst h8
        go_roundw
        case rel => exact ⟨i + 1, m + 1, true, out ++ [(y1, y2)], a8, c8, by omega, by go_num, rfl, rfl, by simp [OM.out], by omega, O8.out, RN.out, G8.out⟩
        case measure => simp [intOf]; omega
      | false =>
        by_cases h : ltR (y1, y2) (x1, x2)
        · have RN := Lib.hid (show R = (out ++ [(y1, y2)]) ++ rstR false (x1, x2) (L.drop (i + 1)) by rw [RR.out, DR.out]; simp [rstR, aR_lt (x1, x2) (y1, y2) _ h])
          rw [decide_eq_true h] at LS
          clear h
          go_upto_region 6 with fail
          have KJ := Lib.hid (fun (w' : World) (q0 : wr.grownBy w' none) => (⟨(gb_trans G.out q0).cell X0.out (by simp), (gb_trans G.out q0).cell X1.out (by simp), (gb_trans G.out q0).cell Y0.out (by simp), (gb_trans G.out q0).cell Y1.out (by simp), q0⟩ : (fun w' : World => w'.cell? ⟨b3, 0, none⟩ = some (.int .i64 x1) ∧ w'.cell? ⟨b3, 1, none⟩ = some (.int .i64 x2) ∧ w'.cell? ⟨g, i * 2, none⟩ = some (.int .i64 y1) ∧ w'.cell? ⟨g, i * 2 + 1, none⟩ = some (.int .i64 y2) ∧ wr.grownBy w' none) w'))
          have J0 := Lib.hid (gb_drew wr none)
          refine wp_region_held_drew (S := (fun w' : World => w'.cell? ⟨b3, 0, none⟩ = some (.int .i64 x1) ∧ w'.cell? ⟨b3, 1, none⟩ = some (.int .i64 x2) ∧ w'.cell? ⟨g, i * 2, none⟩ = some (.int .i64 y1) ∧ w'.cell? ⟨g, i * 2 + 1, none⟩ = some (.int .i64 y2) ∧ wr.grownBy w' none)) (by kernel_rfl) (KJ.out _ J0.out) (fun hH0 => ?_)
          refine wpAnyH_take (i := 0) (v := ?v5) rfl (by kernel_rfl) (by kernel_rfl) (by kernel_rfl) (fun _ _ _ h => h) (Or.inl ⟨by rfl, ?hy5⟩) (by assumption) ?rest5
          case hy5 => (intro wz hSw; (try dsimp only at hSw); first | (go_simp; done) | (go_simp; with_reducible rfl))
          try simp only [Act.put, List.getElem_toArray, List.getElem_cons_zero, List.setIfInBounds_toArray, List.set_cons_zero, List.set_cons_succ]
          refine wpAnyH_take (i := 1) (v := ?v6) rfl (by kernel_rfl) (by kernel_rfl) (by kernel_rfl) (fun _ _ _ h => h) (Or.inl ⟨by rfl, ?hy6⟩) (by assumption) ?rest6
          case hy6 => (intro wz hSw; (try dsimp only at hSw); first | (go_simp; done) | (go_simp; with_reducible rfl))
          try simp only [Act.put, List.getElem_toArray, List.getElem_cons_succ, List.getElem_cons_zero, List.setIfInBounds_toArray, List.set_cons_zero, List.set_cons_succ]
          refine wpAnyH_take (i := 2) (v := ?v7) rfl (by kernel_rfl) (by kernel_rfl) (by kernel_rfl) (fun _ _ _ h => h) (Or.inl ⟨by rfl, ?hy7⟩) (by assumption) ?rest7
          case hy7 => (intro wz hSw; (try dsimp only at hSw); first | (go_simp; done) | (go_simp; with_reducible rfl))
          try simp only [Act.put, List.getElem_toArray, List.getElem_cons_succ, List.getElem_cons_zero, List.setIfInBounds_toArray, List.set_cons_zero, List.set_cons_succ]
          refine wpAnyH_take (i := 3) (v := ?v8) rfl (by kernel_rfl) (by kernel_rfl) (by kernel_rfl) (fun _ _ _ h => h) (Or.inl ⟨by rfl, ?hy8⟩) (by assumption) ?rest8
          case hy8 => (intro wz hSw; (try dsimp only at hSw); first | (go_simp; done) | (go_simp; with_reducible rfl))
          try simp only [Act.put, List.getElem_toArray, List.getElem_cons_succ, List.getElem_cons_zero, List.setIfInBounds_toArray, List.set_cons_zero, List.set_cons_succ]
          refine wpAnyH_take (i := 4) (v := ?v9) rfl (by kernel_rfl) (by kernel_rfl) (by kernel_rfl) (fun _ _ _ h => h) (Or.inl ⟨by rfl, ?hy9⟩) (by assumption) ?rest9
          case hy9 => (intro wz hSw; (try dsimp only at hSw); first | (go_simp; done) | (go_simp; with_reducible rfl))
          try simp only [Act.put, List.getElem_toArray, List.getElem_cons_succ, List.getElem_cons_zero, List.setIfInBounds_toArray, List.set_cons_zero, List.set_cons_succ]
          refine wpAnyH_take (i := 5) (v := ?v10) rfl (by kernel_rfl) (by kernel_rfl) (by kernel_rfl) (fun _ _ _ h => h) (Or.inl ⟨by rfl, ?hy10⟩) (by assumption) ?rest10
          case hy10 => (intro wz hSw; (try dsimp only at hSw); first | (go_simp; done) | (go_simp; with_reducible rfl))
          try simp only [Act.put, List.getElem_toArray, List.getElem_cons_succ, List.getElem_cons_zero, List.setIfInBounds_toArray, List.set_cons_zero, List.set_cons_succ]
          refine wpAnyH_take (i := 6) (v := ?v11) rfl (by kernel_rfl) (by kernel_rfl) (by kernel_rfl) (fun _ _ _ h => h) (Or.inl ⟨by rfl, ?hy11⟩) (by assumption) ?rest11
          case hy11 => (intro wz hSw; (try dsimp only at hSw); first | (go_simp; done) | (go_simp; with_reducible rfl))
          try simp only [Act.put, List.getElem_toArray, List.getElem_cons_succ, List.getElem_cons_zero, List.setIfInBounds_toArray, List.set_cons_zero, List.set_cons_succ]
          refine wpAnyH_take (i := 7) (v := ?v12) rfl (by kernel_rfl) (by kernel_rfl) (by kernel_rfl) (fun _ _ _ h => h) (Or.inl ⟨by rfl, ?hy12⟩) (by assumption) ?rest12
          case hy12 => (intro wz hSw; (try dsimp only at hSw); first | (go_simp; done) | (go_simp; with_reducible rfl))
          try simp only [Act.put, List.getElem_toArray, List.getElem_cons_succ, List.getElem_cons_zero, List.setIfInBounds_toArray, List.set_cons_zero, List.set_cons_succ]
          refine wpAnyH_ready (rs := [8]) (by kernel_rfl) (by simp) ?_
          refine AllReadyH.cons (o := _) rfl (fun K hK => ?_) AllReadyH.nil
          go_simp
          (with_reducible refine (LS.out _).mono ?_)
          rintro e jw1 ⟨rfl, g⟩
          have J1 := Lib.hid (gb_trans J0.out g)
          clear g
          try dsimp only
          refine hK.out _ _ (KJ.out _ J1.out) (fun hH1 => ?_)
          clear hK K hH0
          try simp only [Act.put, List.getElem_toArray, List.getElem_cons_succ, List.getElem_cons_zero, List.setIfInBounds_toArray, List.set_cons_zero, List.set_cons_succ]
          refine wpAnyH_take (i := 9) (v := ?v13) rfl (by kernel_rfl) (by kernel_rfl) (by kernel_rfl) (fun _ _ _ h => h) (Or.inl ⟨by rfl, ?hy13⟩) (by assumption) ?rest13
          case hy13 => (intro wz hSw; (try dsimp only at hSw); first | (go_simp; done) | (go_simp; with_reducible rfl))
          try simp only [Act.put, List.getElem_toArray, List.getElem_cons_succ, List.getElem_cons_zero, List.setIfInBounds_toArray, List.set_cons_zero, List.set_cons_succ]
          refine wpAnyH_take (i := 10) (v := ?v14) rfl (by kernel_rfl) (by kernel_rfl) (by kernel_rfl) (fun _ _ _ h => h) (Or.inl ⟨by rfl, ?hy14⟩) (by assumption) ?rest14
          case hy14 => (intro wz hSw; (try dsimp only at hSw); first | (go_simp; done) | (go_simp; with_reducible rfl))
          try simp only [Act.put, List.getElem_toArray, List.getElem_cons_succ, List.getElem_cons_zero, List.setIfInBounds_toArray, List.set_cons_zero, List.set_cons_succ]
          refine wpAnyH_done (by kernel_rfl) ?_ _
          clear hH1
          have GJ := Lib.hid (gb_trans G.out J1.out)
          have OJ := Lib.hid (O.out.keep0 J1.out)
          clear KJ
          have x0 := GJ.out.cell X0.out (by simp)
          have x1c := GJ.out.cell X1.out (by simp)
          have y0 := GJ.out.cell Y0.out (by simp)
          have y1c := GJ.out.cell Y1.out (by simp)
          have TB8 := Lib.hid (ref_cell _ _ _ (y1, y2) _ (IsB.new jw1 69 #[.int .i64 y1, .int .i64 y2]) rfl)
          have GB8 := Lib.hid (gb_al (o := .cells #[.int .i64 y1, .int .i64 y2] 69) GJ.out)
          have OB8 := Lib.hid (OJ.out.keep0 (gb_alloc jw1 (.cells #[.int .i64 y1, .int .i64 y2] 69) none))
          go_wp2_with (at_builtin; refine pushRef rfl _ _ rfl w1.heap.size _ (out) rfl OB8.out _ _ (y1, y2) rfl TB8.out (by have := OM.out; simp; omega) GB8.out.size ?_; intro V8 w8 o8 g8; have O8 := Lib.hid (rl_fl o8); have G8 := Lib.hid (gb_own GB8.out OB8.out (Nat.le_refl _) g8); clear o8 g8)
          obtain ⟨a8, c8, h8⟩ := O8.out.shape
          rw [show (out ++ [(y1, y2)]).length = m + 1 by simp [OM.out]] at h8
          subst h8
          go_roundw
          case rel => exact ⟨i + 1, m + 1, false, out ++ [(y1, y2)], a8, c8, by omega, by go_num, rfl, rfl, by simp [OM.out], by omega, O8.out, RN.out, G8.out⟩
          case measure => simp [intOf]; omega
        · by_cases k : (y1, y2) = (x1, x2)
          · injection k with ka kb
            subst ka kb
            have RN := Lib.hid (show R = (out ++ [(y1, y2)]) ++ rstR true (y1, y2) (L.drop (i + 1)) by rw [RR.out, DR.out]; simp [rstR, aR_eq])
            rw [decide_eq_false h] at LS
            clear h
            go_upto_region 6 with fail
            have KJ := Lib.hid (fun (w' : World) (q0 : wr.grownBy w' none) => (⟨(gb_trans G.out q0).cell X0.out (by simp), (gb_trans G.out q0).cell X1.out (by simp), (gb_trans G.out q0).cell Y0.out (by simp), (gb_trans G.out q0).cell Y1.out (by simp), q0⟩ : (fun w' : World => w'.cell? ⟨b3, 0, none⟩ = some (.int .i64 y1) ∧ w'.cell? ⟨b3, 1, none⟩ = some (.int .i64 y2) ∧ w'.cell? ⟨g, i * 2, none⟩ = some (.int .i64 y1) ∧ w'.cell? ⟨g, i * 2 + 1, none⟩ = some (.int .i64 y2) ∧ wr.grownBy w' none) w'))
            have J0 := Lib.hid (gb_drew wr none)
            refine wp_region_held_drew (S := (fun w' : World => w'.cell? ⟨b3, 0, none⟩ = some (.int .i64 y1) ∧ w'.cell? ⟨b3, 1, none⟩ = some (.int .i64 y2) ∧ w'.cell? ⟨g, i * 2, none⟩ = some (.int .i64 y1) ∧ w'.cell? ⟨g, i * 2 + 1, none⟩ = some (.int .i64 y2) ∧ wr.grownBy w' none)) (by kernel_rfl) (KJ.out _ J0.out) (fun hH0 => ?_)
            refine wpAnyH_take (i := 0) (v := ?v15) rfl (by kernel_rfl) (by kernel_rfl) (by kernel_rfl) (fun _ _ _ h => h) (Or.inl ⟨by rfl, ?hy15⟩) (by assumption) ?rest15
            case hy15 => (intro wz hSw; (try dsimp only at hSw); first | (go_simp; done) | (go_simp; with_reducible rfl))
            try simp only [Act.put, List.getElem_toArray, List.getElem_cons_zero, List.setIfInBounds_toArray, List.set_cons_zero, List.set_cons_succ]
            refine wpAnyH_take (i := 1) (v := ?v16) rfl (by kernel_rfl) (by kernel_rfl) (by kernel_rfl) (fun _ _ _ h => h) (Or.inl ⟨by rfl, ?hy16⟩) (by assumption) ?rest16
            case hy16 => (intro wz hSw; (try dsimp only at hSw); first | (go_simp; done) | (go_simp; with_reducible rfl))
            try simp only [Act.put, List.getElem_toArray, List.getElem_cons_succ, List.getElem_cons_zero, List.setIfInBounds_toArray, List.set_cons_zero, List.set_cons_succ]
            refine wpAnyH_take (i := 2) (v := ?v17) rfl (by kernel_rfl) (by kernel_rfl) (by kernel_rfl) (fun _ _ _ h => h) (Or.inl ⟨by rfl, ?hy17⟩) (by assumption) ?rest17
            case hy17 => (intro wz hSw; (try dsimp only at hSw); first | (go_simp; done) | (go_simp; with_reducible rfl))
            try simp only [Act.put, List.getElem_toArray, List.getElem_cons_succ, List.getElem_cons_zero, List.setIfInBounds_toArray, List.set_cons_zero, List.set_cons_succ]
            refine wpAnyH_take (i := 3) (v := ?v18) rfl (by kernel_rfl) (by kernel_rfl) (by kernel_rfl) (fun _ _ _ h => h) (Or.inl ⟨by rfl, ?hy18⟩) (by assumption) ?rest18
            case hy18 => (intro wz hSw; (try dsimp only at hSw); first | (go_simp; done) | (go_simp; with_reducible rfl))
            try simp only [Act.put, List.getElem_toArray, List.getElem_cons_succ, List.getElem_cons_zero, List.setIfInBounds_toArray, List.set_cons_zero, List.set_cons_succ]
            refine wpAnyH_take (i := 4) (v := ?v19) rfl (by kernel_rfl) (by kernel_rfl) (by kernel_rfl) (fun _ _ _ h => h) (Or.inl ⟨by rfl, ?hy19⟩) (by assumption) ?rest19
            case hy19 => (intro wz hSw; (try dsimp only at hSw); first | (go_simp; done) | (go_simp; with_reducible rfl))
            try simp only [Act.put, List.getElem_toArray, List.getElem_cons_succ, List.getElem_cons_zero, List.setIfInBounds_toArray, List.set_cons_zero, List.set_cons_succ]
            refine wpAnyH_take (i := 5) (v := ?v20) rfl (by kernel_rfl) (by kernel_rfl) (by kernel_rfl) (fun _ _ _ h => h) (Or.inl ⟨by rfl, ?hy20⟩) (by assumption) ?rest20
            case hy20 => (intro wz hSw; (try dsimp only at hSw); first | (go_simp; done) | (go_simp; with_reducible rfl))
            try simp only [Act.put, List.getElem_toArray, List.getElem_cons_succ, List.getElem_cons_zero, List.setIfInBounds_toArray, List.set_cons_zero, List.set_cons_succ]
            refine wpAnyH_take (i := 6) (v := ?v21) rfl (by kernel_rfl) (by kernel_rfl) (by kernel_rfl) (fun _ _ _ h => h) (Or.inl ⟨by rfl, ?hy21⟩) (by assumption) ?rest21
            case hy21 => (intro wz hSw; (try dsimp only at hSw); first | (go_simp; done) | (go_simp; with_reducible rfl))
            try simp only [Act.put, List.getElem_toArray, List.getElem_cons_succ, List.getElem_cons_zero, List.setIfInBounds_toArray, List.set_cons_zero, List.set_cons_succ]
            refine wpAnyH_take (i := 7) (v := ?v22) rfl (by kernel_rfl) (by kernel_rfl) (by kernel_rfl) (fun _ _ _ h => h) (Or.inl ⟨by rfl, ?hy22⟩) (by assumption) ?rest22
            case hy22 => (intro wz hSw; (try dsimp only at hSw); first | (go_simp; done) | (go_simp; with_reducible rfl))
            try simp only [Act.put, List.getElem_toArray, List.getElem_cons_succ, List.getElem_cons_zero, List.setIfInBounds_toArray, List.set_cons_zero, List.set_cons_succ]
            refine wpAnyH_ready (rs := [8]) (by kernel_rfl) (by simp) ?_
            refine AllReadyH.cons (o := _) rfl (fun K hK => ?_) AllReadyH.nil
            go_simp
            (with_reducible refine (LS.out _).mono ?_)
            rintro e jw1 ⟨rfl, g⟩
            have J1 := Lib.hid (gb_trans J0.out g)
            clear g
            try dsimp only
            refine hK.out _ _ (KJ.out _ J1.out) (fun hH1 => ?_)
            clear hK K hH0
            try simp only [Act.put, List.getElem_toArray, List.getElem_cons_succ, List.getElem_cons_zero, List.setIfInBounds_toArray, List.set_cons_zero, List.set_cons_succ]
            refine wpAnyH_take (i := 9) (v := ?v23) rfl (by kernel_rfl) (by kernel_rfl) (by kernel_rfl) (fun _ _ _ h => h) (Or.inl ⟨by rfl, ?hy23⟩) (by assumption) ?rest23
            case hy23 => (intro wz hSw; (try dsimp only at hSw); first | (go_simp; done) | (go_simp; with_reducible rfl))
            try simp only [Act.put, List.getElem_toArray, List.getElem_cons_succ, List.getElem_cons_zero, List.setIfInBounds_toArray, List.set_cons_zero, List.set_cons_succ]
            refine wpAnyH_take (i := 10) (v := ?v24) rfl (by kernel_rfl) (by kernel_rfl) (by kernel_rfl) (fun _ _ _ h => h) (Or.inl ⟨by rfl, ?hy24⟩) (by assumption) ?rest24
            case hy24 => (intro wz hSw; (try dsimp only at hSw); first | (go_simp; done) | (go_simp; with_reducible rfl))
            try simp only [Act.put, List.getElem_toArray, List.getElem_cons_succ, List.getElem_cons_zero, List.setIfInBounds_toArray, List.set_cons_zero, List.set_cons_succ]
            refine wpAnyH_done (by kernel_rfl) ?_ _
            clear hH1
            have GJ := Lib.hid (gb_trans G.out J1.out)
            have OJ := Lib.hid (O.out.keep0 J1.out)
            clear KJ
            go_upto_region 8 with fail
            have KM := Lib.hid (fun (w' : World) (q0 : jw1.grownBy w' none) => (⟨(gb_trans GJ.out q0).cell X0.out (by simp), (gb_trans GJ.out q0).cell X1.out (by simp), (gb_trans GJ.out q0).cell Y0.out (by simp), (gb_trans GJ.out q0).cell Y1.out (by simp), q0⟩ : (fun w' : World => w'.cell? ⟨b3, 0, none⟩ = some (.int .i64 y1) ∧ w'.cell? ⟨b3, 1, none⟩ = some (.int .i64 y2) ∧ w'.cell? ⟨g, i * 2, none⟩ = some (.int .i64 y1) ∧ w'.cell? ⟨g, i * 2 + 1, none⟩ = some (.int .i64 y2) ∧ jw1.grownBy w' none) w'))
            have M0 := Lib.hid (gb_drew jw1 none)
            refine wp_region_held_drew (S := (fun w' : World => w'.cell? ⟨b3, 0, none⟩ = some (.int .i64 y1) ∧ w'.cell? ⟨b3, 1, none⟩ = some (.int .i64 y2) ∧ w'.cell? ⟨g, i * 2, none⟩ = some (.int .i64 y1) ∧ w'.cell? ⟨g, i * 2 + 1, none⟩ = some (.int .i64 y2) ∧ jw1.grownBy w' none)) (by kernel_rfl) (KM.out _ M0.out) (fun hH0 => ?_)
            refine wpAnyH_take (i := 0) (v := ?v25) rfl (by kernel_rfl) (by kernel_rfl) (by kernel_rfl) (fun _ _ _ h => h) (Or.inl ⟨by rfl, ?hy25⟩) (by assumption) ?rest25
            case hy25 => (intro wz hSw; (try dsimp only at hSw); first | (go_simp; done) | (go_simp; with_reducible rfl))
            try simp only [Act.put, List.getElem_toArray, List.getElem_cons_zero, List.setIfInBounds_toArray, List.set_cons_zero, List.set_cons_succ]
            refine wpAnyH_take (i := 1) (v := ?v26) rfl (by kernel_rfl) (by kernel_rfl) (by kernel_rfl) (fun _ _ _ h => h) (Or.inl ⟨by rfl, ?hy26⟩) (by assumption) ?rest26
            case hy26 => (intro wz hSw; (try dsimp only at hSw); first | (go_simp; done) | (go_simp; with_reducible rfl))
            try simp only [Act.put, List.getElem_toArray, List.getElem_cons_succ, List.getElem_cons_zero, List.setIfInBounds_toArray, List.set_cons_zero, List.set_cons_succ]
            refine wpAnyH_take (i := 2) (v := ?v27) rfl (by kernel_rfl) (by kernel_rfl) (by kernel_rfl) (fun _ _ _ h => h) (Or.inl ⟨by rfl, ?hy27⟩) (by assumption) ?rest27
            case hy27 => (intro wz hSw; (try dsimp only at hSw); first | (go_simp; done) | (go_simp; with_reducible rfl))
            try simp only [Act.put, List.getElem_toArray, List.getElem_cons_succ, List.getElem_cons_zero, List.setIfInBounds_toArray, List.set_cons_zero, List.set_cons_succ]
            refine wpAnyH_take (i := 3) (v := ?v28) rfl (by kernel_rfl) (by kernel_rfl) (by kernel_rfl) (fun _ _ _ h => h) (Or.inl ⟨by rfl, ?hy28⟩) (by assumption) ?rest28
            case hy28 => (intro wz hSw; (try dsimp only at hSw); first | (go_simp; done) | (go_simp; with_reducible rfl))
            try simp only [Act.put, List.getElem_toArray, List.getElem_cons_succ, List.getElem_cons_zero, List.setIfInBounds_toArray, List.set_cons_zero, List.set_cons_succ]
            refine wpAnyH_take (i := 4) (v := ?v29) rfl (by kernel_rfl) (by kernel_rfl) (by kernel_rfl) (fun _ _ _ h => h) (Or.inl ⟨by rfl, ?hy29⟩) (by assumption) ?rest29
            case hy29 => (intro wz hSw; (try dsimp only at hSw); first | (go_simp; done) | (go_simp; with_reducible rfl))
            try simp only [Act.put, List.getElem_toArray, List.getElem_cons_succ, List.getElem_cons_zero, List.setIfInBounds_toArray, List.set_cons_zero, List.set_cons_succ]
            refine wpAnyH_take (i := 5) (v := ?v30) rfl (by kernel_rfl) (by kernel_rfl) (by kernel_rfl) (fun _ _ _ h => h) (Or.inl ⟨by rfl, ?hy30⟩) (by assumption) ?rest30
            case hy30 => (intro wz hSw; (try dsimp only at hSw); first | (go_simp; done) | (go_simp; with_reducible rfl))
            try simp only [Act.put, List.getElem_toArray, List.getElem_cons_succ, List.getElem_cons_zero, List.setIfInBounds_toArray, List.set_cons_zero, List.set_cons_succ]
            refine wpAnyH_done (by kernel_rfl) ?_ _
            clear hH0
            have GM := Lib.hid (gb_trans GJ.out M0.out)
            have OMW := Lib.hid (OJ.out.keep0 M0.out)
            clear KM M0
            generalize jw1.drew = jw2 at *
            have x0 := GM.out.cell X0.out (by simp)
            have x1c := GM.out.cell X1.out (by simp)
            have y0 := GM.out.cell Y0.out (by simp)
            have y1c := GM.out.cell Y1.out (by simp)
            have TB8 := Lib.hid (ref_cell _ _ _ (y1, y2) _ (IsB.new jw2 69 #[.int .i64 y1, .int .i64 y2]) rfl)
            have GB8 := Lib.hid (gb_al (o := .cells #[.int .i64 y1, .int .i64 y2] 69) GM.out)
            have OB8 := Lib.hid (OMW.out.keep0 (gb_alloc jw2 (.cells #[.int .i64 y1, .int .i64 y2] 69) none))
            go_wp2_with (at_builtin; refine pushRef rfl _ _ rfl w1.heap.size _ (out) rfl OB8.out _ _ (y1, y2) rfl TB8.out (by have := OM.out; simp; omega) GB8.out.size ?_; intro V8 w8 o8 g8; have O8 := Lib.hid (rl_fl o8); have G8 := Lib.hid (gb_own GB8.out OB8.out (Nat.le_refl _) g8); clear o8 g8)
            obtain ⟨a8, c8, h8⟩ := O8.out.shape
            rw [show (out ++ [(y1, y2)]).length = m + 1 by simp [OM.out]] at h8
            subst h8
            go_roundw
            case rel => exact ⟨i + 1, m + 1, true, out ++ [(y1, y2)], a8, c8, by omega, by go_num, rfl, rfl, by simp [OM.out], by omega, O8.out, RN.out, G8.out⟩
            case measure => simp [intOf]; omega
          · have RN := Lib.hid (show R = (out ++ [(x1, x2)] ++ [(y1, y2)]) ++ rstR true (x1, x2) (L.drop (i + 1)) by rw [RR.out, DR.out]; simp [rstR, aR_gt (x1, x2) (y1, y2) _ h k])
            rw [decide_eq_false h] at LS
            clear h
            by_cases ka : y1 = x1
            · have kb : ¬ y2 = x2 := fun q => k (by rw [ka, q])
              subst ka
              have e2 : (y2 == x2) = false := by rw [beq_eq_false_iff_ne]; exact kb
              clear k
              go_upto_region 6 with fail
              have KJ := Lib.hid (fun (w' : World) (q0 : wr.grownBy w' none) => (⟨(gb_trans G.out q0).cell X0.out (by simp), (gb_trans G.out q0).cell X1.out (by simp), (gb_trans G.out q0).cell Y0.out (by simp), (gb_trans G.out q0).cell Y1.out (by simp), q0⟩ : (fun w' : World => w'.cell? ⟨b3, 0, none⟩ = some (.int .i64 y1) ∧ w'.cell? ⟨b3, 1, none⟩ = some (.int .i64 x2) ∧ w'.cell? ⟨g, i * 2, none⟩ = some (.int .i64 y1) ∧ w'.cell? ⟨g, i * 2 + 1, none⟩ = some (.int .i64 y2) ∧ wr.grownBy w' none) w'))
              have J0 := Lib.hid (gb_drew wr none)
              refine wp_region_held_drew (S := (fun w' : World => w'.cell? ⟨b3, 0, none⟩ = some (.int .i64 y1) ∧ w'.cell? ⟨b3, 1, none⟩ = some (.int .i64 x2) ∧ w'.cell? ⟨g, i * 2, none⟩ = some (.int .i64 y1) ∧ w'.cell? ⟨g, i * 2 + 1, none⟩ = some (.int .i64 y2) ∧ wr.grownBy w' none)) (by kernel_rfl) (KJ.out _ J0.out) (fun hH0 => ?_)
              refine wpAnyH_take (i := 0) (v := ?v31) rfl (by kernel_rfl) (by kernel_rfl) (by kernel_rfl) (fun _ _ _ h => h) (Or.inl ⟨by rfl, ?hy31⟩) (by assumption) ?rest31
              case hy31 => (intro wz hSw; (try dsimp only at hSw); first | (go_simp; done) | (go_simp; with_reducible rfl))
              try simp only [Act.put, List.getElem_toArray, List.getElem_cons_zero, List.setIfInBounds_toArray, List.set_cons_zero, List.set_cons_succ]
              refine wpAnyH_take (i := 1) (v := ?v32) rfl (by kernel_rfl) (by kernel_rfl) (by kernel_rfl) (fun _ _ _ h => h) (Or.inl ⟨by rfl, ?hy32⟩) (by assumption) ?rest32
              case hy32 => (intro wz hSw; (try dsimp only at hSw); first | (go_simp; done) | (go_simp; with_reducible rfl))
              try simp only [Act.put, List.getElem_toArray, List.getElem_cons_succ, List.getElem_cons_zero, List.setIfInBounds_toArray, List.set_cons_zero, List.set_cons_succ]
              refine wpAnyH_take (i := 2) (v := ?v33) rfl (by kernel_rfl) (by kernel_rfl) (by kernel_rfl) (fun _ _ _ h => h) (Or.inl ⟨by rfl, ?hy33⟩) (by assumption) ?rest33
              case hy33 => (intro wz hSw; (try dsimp only at hSw); first | (go_simp; done) | (go_simp; with_reducible rfl))
              try simp only [Act.put, List.getElem_toArray, List.getElem_cons_succ, List.getElem_cons_zero, List.setIfInBounds_toArray, List.set_cons_zero, List.set_cons_succ]
              refine wpAnyH_take (i := 3) (v := ?v34) rfl (by kernel_rfl) (by kernel_rfl) (by kernel_rfl) (fun _ _ _ h => h) (Or.inl ⟨by rfl, ?hy34⟩) (by assumption) ?rest34
              case hy34 => (intro wz hSw; (try dsimp only at hSw); first | (go_simp; done) | (go_simp; with_reducible rfl))
              try simp only [Act.put, List.getElem_toArray, List.getElem_cons_succ, List.getElem_cons_zero, List.setIfInBounds_toArray, List.set_cons_zero, List.set_cons_succ]
              refine wpAnyH_take (i := 4) (v := ?v35) rfl (by kernel_rfl) (by kernel_rfl) (by kernel_rfl) (fun _ _ _ h => h) (Or.inl ⟨by rfl, ?hy35⟩) (by assumption) ?rest35
              case hy35 => (intro wz hSw; (try dsimp only at hSw); first | (go_simp; done) | (go_simp; with_reducible rfl))
              try simp only [Act.put, List.getElem_toArray, List.getElem_cons_succ, List.getElem_cons_zero, List.setIfInBounds_toArray, List.set_cons_zero, List.set_cons_succ]
              refine wpAnyH_take (i := 5) (v := ?v36) rfl (by kernel_rfl) (by kernel_rfl) (by kernel_rfl) (fun _ _ _ h => h) (Or.inl ⟨by rfl, ?hy36⟩) (by assumption) ?rest36
              case hy36 => (intro wz hSw; (try dsimp only at hSw); first | (go_simp; done) | (go_simp; with_reducible rfl))
              try simp only [Act.put, List.getElem_toArray, List.getElem_cons_succ, List.getElem_cons_zero, List.setIfInBounds_toArray, List.set_cons_zero, List.set_cons_succ]
              refine wpAnyH_take (i := 6) (v := ?v37) rfl (by kernel_rfl) (by kernel_rfl) (by kernel_rfl) (fun _ _ _ h => h) (Or.inl ⟨by rfl, ?hy37⟩) (by assumption) ?rest37
              case hy37 => (intro wz hSw; (try dsimp only at hSw); first | (go_simp; done) | (go_simp; with_reducible rfl))
              try simp only [Act.put, List.getElem_toArray, List.getElem_cons_succ, List.getElem_cons_zero, List.setIfInBounds_toArray, List.set_cons_zero, List.set_cons_succ]
              refine wpAnyH_take (i := 7) (v := ?v38) rfl (by kernel_rfl) (by kernel_rfl) (by kernel_rfl) (fun _ _ _ h => h) (Or.inl ⟨by rfl, ?hy38⟩) (by assumption) ?rest38
              case hy38 => (intro wz hSw; (try dsimp only at hSw); first | (go_simp; done) | (go_simp; with_reducible rfl))
              try simp only [Act.put, List.getElem_toArray, List.getElem_cons_succ, List.getElem_cons_zero, List.setIfInBounds_toArray, List.set_cons_zero, List.set_cons_succ]
              refine wpAnyH_ready (rs := [8]) (by kernel_rfl) (by simp) ?_
              refine AllReadyH.cons (o := _) rfl (fun K hK => ?_) AllReadyH.nil
              go_simp
              (with_reducible refine (LS.out _).mono ?_)
              rintro e jw1 ⟨rfl, g⟩
              have J1 := Lib.hid (gb_trans J0.out g)
              clear g
              try dsimp only
              refine hK.out _ _ (KJ.out _ J1.out) (fun hH1 => ?_)
              clear hK K hH0
              try simp only [Act.put, List.getElem_toArray, List.getElem_cons_succ, List.getElem_cons_zero, List.setIfInBounds_toArray, List.set_cons_zero, List.set_cons_succ]
              refine wpAnyH_take (i := 9) (v := ?v39) rfl (by kernel_rfl) (by kernel_rfl) (by kernel_rfl) (fun _ _ _ h => h) (Or.inl ⟨by rfl, ?hy39⟩) (by assumption) ?rest39
              case hy39 => (intro wz hSw; (try dsimp only at hSw); first | (go_simp; done) | (go_simp; with_reducible rfl))
              try simp only [Act.put, List.getElem_toArray, List.getElem_cons_succ, List.getElem_cons_zero, List.setIfInBounds_toArray, List.set_cons_zero, List.set_cons_succ]
              refine wpAnyH_take (i := 10) (v := ?v40) rfl (by kernel_rfl) (by kernel_rfl) (by kernel_rfl) (fun _ _ _ h => h) (Or.inl ⟨by rfl, ?hy40⟩) (by assumption) ?rest40
              case hy40 => (intro wz hSw; (try dsimp only at hSw); first | (go_simp; done) | (go_simp; with_reducible rfl))
              try simp only [Act.put, List.getElem_toArray, List.getElem_cons_succ, List.getElem_cons_zero, List.setIfInBounds_toArray, List.set_cons_zero, List.set_cons_succ]
              refine wpAnyH_done (by kernel_rfl) ?_ _
              clear hH1
              have GJ := Lib.hid (gb_trans G.out J1.out)
              have OJ := Lib.hid (O.out.keep0 J1.out)
              clear KJ
              go_upto_region 8 with fail
              have KM := Lib.hid (fun (w' : World) (q0 : jw1.grownBy w' none) => (⟨(gb_trans GJ.out q0).cell X0.out (by simp), (gb_trans GJ.out q0).cell X1.out (by simp), (gb_trans GJ.out q0).cell Y0.out (by simp), (gb_trans GJ.out q0).cell Y1.out (by simp), q0⟩ : (fun w' : World => w'.cell? ⟨b3, 0, none⟩ = some (.int .i64 y1) ∧ w'.cell? ⟨b3, 1, none⟩ = some (.int .i64 x2) ∧ w'.cell? ⟨g, i * 2, none⟩ = some (.int .i64 y1) ∧ w'.cell? ⟨g, i * 2 + 1, none⟩ = some (.int .i64 y2) ∧ jw1.grownBy w' none) w'))
              have M0 := Lib.hid (gb_drew jw1 none)
              refine wp_region_held_drew (S := (fun w' : World => w'.cell? ⟨b3, 0, none⟩ = some (.int .i64 y1) ∧ w'.cell? ⟨b3, 1, none⟩ = some (.int .i64 x2) ∧ w'.cell? ⟨g, i * 2, none⟩ = some (.int .i64 y1) ∧ w'.cell? ⟨g, i * 2 + 1, none⟩ = some (.int .i64 y2) ∧ jw1.grownBy w' none)) (by kernel_rfl) (KM.out _ M0.out) (fun hH0 => ?_)
              refine wpAnyH_take (i := 0) (v := ?v41) rfl (by kernel_rfl) (by kernel_rfl) (by kernel_rfl) (fun _ _ _ h => h) (Or.inl ⟨by rfl, ?hy41⟩) (by assumption) ?rest41
              case hy41 => (intro wz hSw; (try dsimp only at hSw); first | (go_simp; done) | (go_simp; with_reducible rfl))
              try simp only [Act.put, List.getElem_toArray, List.getElem_cons_zero, List.setIfInBounds_toArray, List.set_cons_zero, List.set_cons_succ]
              refine wpAnyH_take (i := 1) (v := ?v42) rfl (by kernel_rfl) (by kernel_rfl) (by kernel_rfl) (fun _ _ _ h => h) (Or.inl ⟨by rfl, ?hy42⟩) (by assumption) ?rest42
              case hy42 => (intro wz hSw; (try dsimp only at hSw); first | (go_simp; done) | (go_simp; with_reducible rfl))
              try simp only [Act.put, List.getElem_toArray, List.getElem_cons_succ, List.getElem_cons_zero, List.setIfInBounds_toArray, List.set_cons_zero, List.set_cons_succ]
              refine wpAnyH_take (i := 2) (v := ?v43) rfl (by kernel_rfl) (by kernel_rfl) (by kernel_rfl) (fun _ _ _ h => h) (Or.inl ⟨by rfl, ?hy43⟩) (by assumption) ?rest43
              case hy43 => (intro wz hSw; (try dsimp only at hSw); first | (go_simp; done) | (go_simp; with_reducible rfl))
              try simp only [Act.put, List.getElem_toArray, List.getElem_cons_succ, List.getElem_cons_zero, List.setIfInBounds_toArray, List.set_cons_zero, List.set_cons_succ]
              refine wpAnyH_take (i := 3) (v := ?v44) rfl (by kernel_rfl) (by kernel_rfl) (by kernel_rfl) (fun _ _ _ h => h) (Or.inl ⟨by rfl, ?hy44⟩) (by assumption) ?rest44
              case hy44 => (intro wz hSw; (try dsimp only at hSw); first | (go_simp; done) | (go_simp; with_reducible rfl))
              try simp only [Act.put, List.getElem_toArray, List.getElem_cons_succ, List.getElem_cons_zero, List.setIfInBounds_toArray, List.set_cons_zero, List.set_cons_succ]
              refine wpAnyH_take (i := 4) (v := ?v45) rfl (by kernel_rfl) (by kernel_rfl) (by kernel_rfl) (fun _ _ _ h => h) (Or.inl ⟨by rfl, ?hy45⟩) (by assumption) ?rest45
              case hy45 => (intro wz hSw; (try dsimp only at hSw); first | (go_simp; done) | (go_simp; with_reducible rfl))
              try simp only [Act.put, List.getElem_toArray, List.getElem_cons_succ, List.getElem_cons_zero, List.setIfInBounds_toArray, List.set_cons_zero, List.set_cons_succ]
              refine wpAnyH_take (i := 5) (v := ?v46) rfl (by kernel_rfl) (by kernel_rfl) (by kernel_rfl) (fun _ _ _ h => h) (Or.inl ⟨by rfl, ?hy46⟩) (by assumption) ?rest46
              case hy46 => (intro wz hSw; (try dsimp only at hSw); first | (go_simp; done) | (go_simp; with_reducible rfl))
              try simp only [Act.put, List.getElem_toArray, List.getElem_cons_succ, List.getElem_cons_zero, List.setIfInBounds_toArray, List.set_cons_zero, List.set_cons_succ]
              refine wpAnyH_done (by kernel_rfl) ?_ _
              clear hH0
              have GM := Lib.hid (gb_trans GJ.out M0.out)
              have OMW := Lib.hid (OJ.out.keep0 M0.out)
              clear KM M0
              generalize jw1.drew = jw2 at *
              have x0 := GM.out.cell X0.out (by simp)
              have x1c := GM.out.cell X1.out (by simp)
              have y0 := GM.out.cell Y0.out (by simp)
              have y1c := GM.out.cell Y1.out (by simp)
              have TB7 := Lib.hid (ref_cell _ _ _ (y1, x2) _ (IsB.new jw2 69 #[.int .i64 y1, .int .i64 x2]) rfl)
              have GB7 := Lib.hid (gb_al (o := .cells #[.int .i64 y1, .int .i64 x2] 69) GM.out)
              have OB7 := Lib.hid (OMW.out.keep0 (gb_alloc jw2 (.cells #[.int .i64 y1, .int .i64 x2] 69) none))
              go_upto_region 10 with (at_builtin; refine pushRef rfl _ _ rfl w1.heap.size _ (out) rfl OB7.out _ _ (y1, x2) rfl TB7.out (by have := OM.out; simp; omega) GB7.out.size ?_; intro V7 w7 o7 g7; have O7 := Lib.hid (rl_fl o7); have G7 := Lib.hid (gb_own GB7.out OB7.out (Nat.le_refl _) g7); clear o7 g7)
              obtain ⟨a7, c7, h7⟩ := O7.out.shape
              rw [show (out ++ [(y1, x2)]).length = m + 1 by simp [OM.out]] at h7
              subst h7
              clear x0 x1c y0 y1c
              have x0 := G7.out.cell X0.out (by simp)
              have x1c := G7.out.cell X1.out (by simp)
              have y0 := G7.out.cell Y0.out (by simp)
              have y1c := G7.out.cell Y1.out (by simp)
              have TB8 := Lib.hid (ref_cell _ _ _ (y1, y2) _ (IsB.new w7 69 #[.int .i64 y1, .int .i64 y2]) rfl)
              have GB8 := Lib.hid (gb_al (o := .cells #[.int .i64 y1, .int .i64 y2] 69) G7.out)
              have OB8 := Lib.hid (O7.out.keep0 (gb_alloc w7 (.cells #[.int .i64 y1, .int .i64 y2] 69) none))
              go_wp2_with (at_builtin; refine pushRef rfl _ _ rfl w1.heap.size _ (out ++ [(y1, x2)]) rfl OB8.out _ _ (y1, y2) rfl TB8.out (by have := OM.out; simp; omega) GB8.out.size ?_; intro V8 w8 o8 g8; have O8 := Lib.hid (rl_fl o8); have G8 := Lib.hid (gb_own GB8.out OB8.out (Nat.le_refl _) g8); clear o8 g8)
              obtain ⟨a8, c8, h8⟩ := O8.out.shape
              rw [show (out ++ [(y1, x2)] ++ [(y1, y2)]).length = m + 2 by simp [OM.out]] at h8
              subst h8
              go_roundw
              case rel => exact ⟨i + 1, m + 2, true, out ++ [(y1, x2)] ++ [(y1, y2)], a8, c8, by omega, by go_num, rfl, rfl, by simp [OM.out], by omega, O8.out, RN.out, G8.out⟩
              case measure => simp [intOf]; omega
            · have e2 : (y1 == x1) = false := by rw [beq_eq_false_iff_ne]; exact ka
              clear k
              go_upto_region 6 with fail
              have KJ := Lib.hid (fun (w' : World) (q0 : wr.grownBy w' none) => (⟨(gb_trans G.out q0).cell X0.out (by simp), (gb_trans G.out q0).cell X1.out (by simp), (gb_trans G.out q0).cell Y0.out (by simp), (gb_trans G.out q0).cell Y1.out (by simp), q0⟩ : (fun w' : World => w'.cell? ⟨b3, 0, none⟩ = some (.int .i64 x1) ∧ w'.cell? ⟨b3, 1, none⟩ = some (.int .i64 x2) ∧ w'.cell? ⟨g, i * 2, none⟩ = some (.int .i64 y1) ∧ w'.cell? ⟨g, i * 2 + 1, none⟩ = some (.int .i64 y2) ∧ wr.grownBy w' none) w'))
              have J0 := Lib.hid (gb_drew wr none)
              refine wp_region_held_drew (S := (fun w' : World => w'.cell? ⟨b3, 0, none⟩ = some (.int .i64 x1) ∧ w'.cell? ⟨b3, 1, none⟩ = some (.int .i64 x2) ∧ w'.cell? ⟨g, i * 2, none⟩ = some (.int .i64 y1) ∧ w'.cell? ⟨g, i * 2 + 1, none⟩ = some (.int .i64 y2) ∧ wr.grownBy w' none)) (by kernel_rfl) (KJ.out _ J0.out) (fun hH0 => ?_)
              refine wpAnyH_take (i := 0) (v := ?v47) rfl (by kernel_rfl) (by kernel_rfl) (by kernel_rfl) (fun _ _ _ h => h) (Or.inl ⟨by rfl, ?hy47⟩) (by assumption) ?rest47
              case hy47 => (intro wz hSw; (try dsimp only at hSw); first | (go_simp; done) | (go_simp; with_reducible rfl))
              try simp only [Act.put, List.getElem_toArray, List.getElem_cons_zero, List.setIfInBounds_toArray, List.set_cons_zero, List.set_cons_succ]
              refine wpAnyH_take (i := 1) (v := ?v48) rfl (by kernel_rfl) (by kernel_rfl) (by kernel_rfl) (fun _ _ _ h => h) (Or.inl ⟨by rfl, ?hy48⟩) (by assumption) ?rest48
              case hy48 => (intro wz hSw; (try dsimp only at hSw); first | (go_simp; done) | (go_simp; with_reducible rfl))
              try simp only [Act.put, List.getElem_toArray, List.getElem_cons_succ, List.getElem_cons_zero, List.setIfInBounds_toArray, List.set_cons_zero, List.set_cons_succ]
              refine wpAnyH_take (i := 2) (v := ?v49) rfl (by kernel_rfl) (by kernel_rfl) (by kernel_rfl) (fun _ _ _ h => h) (Or.inl ⟨by rfl, ?hy49⟩) (by assumption) ?rest49
              case hy49 => (intro wz hSw; (try dsimp only at hSw); first | (go_simp; done) | (go_simp; with_reducible rfl))
              try simp only [Act.put, List.getElem_toArray, List.getElem_cons_succ, List.getElem_cons_zero, List.setIfInBounds_toArray, List.set_cons_zero, List.set_cons_succ]
              refine wpAnyH_take (i := 3) (v := ?v50) rfl (by kernel_rfl) (by kernel_rfl) (by kernel_rfl) (fun _ _ _ h => h) (Or.inl ⟨by rfl, ?hy50⟩) (by assumption) ?rest50
              case hy50 => (intro wz hSw; (try dsimp only at hSw); first | (go_simp; done) | (go_simp; with_reducible rfl))
              try simp only [Act.put, List.getElem_toArray, List.getElem_cons_succ, List.getElem_cons_zero, List.setIfInBounds_toArray, List.set_cons_zero, List.set_cons_succ]
              refine wpAnyH_take (i := 4) (v := ?v51) rfl (by kernel_rfl) (by kernel_rfl) (by kernel_rfl) (fun _ _ _ h => h) (Or.inl ⟨by rfl, ?hy51⟩) (by assumption) ?rest51
              case hy51 => (intro wz hSw; (try dsimp only at hSw); first | (go_simp; done) | (go_simp; with_reducible rfl))
              try simp only [Act.put, List.getElem_toArray, List.getElem_cons_succ, List.getElem_cons_zero, List.setIfInBounds_toArray, List.set_cons_zero, List.set_cons_succ]
              refine wpAnyH_take (i := 5) (v := ?v52) rfl (by kernel_rfl) (by kernel_rfl) (by kernel_rfl) (fun _ _ _ h => h) (Or.inl ⟨by rfl, ?hy52⟩) (by assumption) ?rest52
              case hy52 => (intro wz hSw; (try dsimp only at hSw); first | (go_simp; done) | (go_simp; with_reducible rfl))
              try simp only [Act.put, List.getElem_toArray, List.getElem_cons_succ, List.getElem_cons_zero, List.setIfInBounds_toArray, List.set_cons_zero, List.set_cons_succ]
              refine wpAnyH_take (i := 6) (v := ?v53) rfl (by kernel_rfl) (by kernel_rfl) (by kernel_rfl) (fun _ _ _ h => h) (Or.inl ⟨by rfl, ?hy53⟩) (by assumption) ?rest53
              case hy53 => (intro wz hSw; (try dsimp only at hSw); first | (go_simp; done) | (go_simp; with_reducible rfl))
              try simp only [Act.put, List.getElem_toArray, List.getElem_cons_succ, List.getElem_cons_zero, List.setIfInBounds_toArray, List.set_cons_zero, List.set_cons_succ]
              refine wpAnyH_take (i := 7) (v := ?v54) rfl (by kernel_rfl) (by kernel_rfl) (by kernel_rfl) (fun _ _ _ h => h) (Or.inl ⟨by rfl, ?hy54⟩) (by assumption) ?rest54
              case hy54 => (intro wz hSw; (try dsimp only at hSw); first | (go_simp; done) | (go_simp; with_reducible rfl))
              try simp only [Act.put, List.getElem_toArray, List.getElem_cons_succ, List.getElem_cons_zero, List.setIfInBounds_toArray, List.set_cons_zero, List.set_cons_succ]
              refine wpAnyH_ready (rs := [8]) (by kernel_rfl) (by simp) ?_
              refine AllReadyH.cons (o := _) rfl (fun K hK => ?_) AllReadyH.nil
              go_simp
              (with_reducible refine (LS.out _).mono ?_)
              rintro e jw1 ⟨rfl, g⟩
              have J1 := Lib.hid (gb_trans J0.out g)
              clear g
              try dsimp only
              refine hK.out _ _ (KJ.out _ J1.out) (fun hH1 => ?_)
              clear hK K hH0
              try simp only [Act.put, List.getElem_toArray, List.getElem_cons_succ, List.getElem_cons_zero, List.setIfInBounds_toArray, List.set_cons_zero, List.set_cons_succ]
              refine wpAnyH_take (i := 9) (v := ?v55) rfl (by kernel_rfl) (by kernel_rfl) (by kernel_rfl) (fun _ _ _ h => h) (Or.inl ⟨by rfl, ?hy55⟩) (by assumption) ?rest55
              case hy55 => (intro wz hSw; (try dsimp only at hSw); first | (go_simp; done) | (go_simp; with_reducible rfl))
              try simp only [Act.put, List.getElem_toArray, List.getElem_cons_succ, List.getElem_cons_zero, List.setIfInBounds_toArray, List.set_cons_zero, List.set_cons_succ]
              refine wpAnyH_take (i := 10) (v := ?v56) rfl (by kernel_rfl) (by kernel_rfl) (by kernel_rfl) (fun _ _ _ h => h) (Or.inl ⟨by rfl, ?hy56⟩) (by assumption) ?rest56
              case hy56 => (intro wz hSw; (try dsimp only at hSw); first | (go_simp; done) | (go_simp; with_reducible rfl))
              try simp only [Act.put, List.getElem_toArray, List.getElem_cons_succ, List.getElem_cons_zero, List.setIfInBounds_toArray, List.set_cons_zero, List.set_cons_succ]
              refine wpAnyH_done (by kernel_rfl) ?_ _
              clear hH1
              have GJ := Lib.hid (gb_trans G.out J1.out)
              have OJ := Lib.hid (O.out.keep0 J1.out)
              clear KJ
              go_upto_region 8 with fail
              have KM := Lib.hid (fun (w' : World) (q0 : jw1.grownBy w' none) => (⟨(gb_trans GJ.out q0).cell X0.out (by simp), (gb_trans GJ.out q0).cell X1.out (by simp), (gb_trans GJ.out q0).cell Y0.out (by simp), (gb_trans GJ.out q0).cell Y1.out (by simp), q0⟩ : (fun w' : World => w'.cell? ⟨b3, 0, none⟩ = some (.int .i64 x1) ∧ w'.cell? ⟨b3, 1, none⟩ = some (.int .i64 x2) ∧ w'.cell? ⟨g, i * 2, none⟩ = some (.int .i64 y1) ∧ w'.cell? ⟨g, i * 2 + 1, none⟩ = some (.int .i64 y2) ∧ jw1.grownBy w' none) w'))
              have M0 := Lib.hid (gb_drew jw1 none)
              refine wp_region_held_drew (S := (fun w' : World => w'.cell? ⟨b3, 0, none⟩ = some (.int .i64 x1) ∧ w'.cell? ⟨b3, 1, none⟩ = some (.int .i64 x2) ∧ w'.cell? ⟨g, i * 2, none⟩ = some (.int .i64 y1) ∧ w'.cell? ⟨g, i * 2 + 1, none⟩ = some (.int .i64 y2) ∧ jw1.grownBy w' none)) (by kernel_rfl) (KM.out _ M0.out) (fun hH0 => ?_)
              refine wpAnyH_take (i := 0) (v := ?v57) rfl (by kernel_rfl) (by kernel_rfl) (by kernel_rfl) (fun _ _ _ h => h) (Or.inl ⟨by rfl, ?hy57⟩) (by assumption) ?rest57
              case hy57 => (intro wz hSw; (try dsimp only at hSw); first | (go_simp; done) | (go_simp; with_reducible rfl))
              try simp only [Act.put, List.getElem_toArray, List.getElem_cons_zero, List.setIfInBounds_toArray, List.set_cons_zero, List.set_cons_succ]
              refine wpAnyH_take (i := 1) (v := ?v58) rfl (by kernel_rfl) (by kernel_rfl) (by kernel_rfl) (fun _ _ _ h => h) (Or.inl ⟨by rfl, ?hy58⟩) (by assumption) ?rest58
              case hy58 => (intro wz hSw; (try dsimp only at hSw); first | (go_simp; done) | (go_simp; with_reducible rfl))
              try simp only [Act.put, List.getElem_toArray, List.getElem_cons_succ, List.getElem_cons_zero, List.setIfInBounds_toArray, List.set_cons_zero, List.set_cons_succ]
              refine wpAnyH_take (i := 2) (v := ?v59) rfl (by kernel_rfl) (by kernel_rfl) (by kernel_rfl) (fun _ _ _ h => h) (Or.inl ⟨by rfl, ?hy59⟩) (by assumption) ?rest59
              case hy59 => (intro wz hSw; (try dsimp only at hSw); first | (go_simp; done) | (go_simp; with_reducible rfl))
              try simp only [Act.put, List.getElem_toArray, List.getElem_cons_succ, List.getElem_cons_zero, List.setIfInBounds_toArray, List.set_cons_zero, List.set_cons_succ]
              refine wpAnyH_take (i := 3) (v := ?v60) rfl (by kernel_rfl) (by kernel_rfl) (by kernel_rfl) (fun _ _ _ h => h) (Or.inl ⟨by rfl, ?hy60⟩) (by assumption) ?rest60
              case hy60 => (intro wz hSw; (try dsimp only at hSw); first | (go_simp; done) | (go_simp; with_reducible rfl))
              try simp only [Act.put, List.getElem_toArray, List.getElem_cons_succ, List.getElem_cons_zero, List.setIfInBounds_toArray, List.set_cons_zero, List.set_cons_succ]
              refine wpAnyH_take (i := 4) (v := ?v61) rfl (by kernel_rfl) (by kernel_rfl) (by kernel_rfl) (fun _ _ _ h => h) (Or.inl ⟨by rfl, ?hy61⟩) (by assumption) ?rest61
              case hy61 => (intro wz hSw; (try dsimp only at hSw); first | (go_simp; done) | (go_simp; with_reducible rfl))
              try simp only [Act.put, List.getElem_toArray, List.getElem_cons_succ, List.getElem_cons_zero, List.setIfInBounds_toArray, List.set_cons_zero, List.set_cons_succ]
              refine wpAnyH_take (i := 5) (v := ?v62) rfl (by kernel_rfl) (by kernel_rfl) (by kernel_rfl) (fun _ _ _ h => h) (Or.inl ⟨by rfl, ?hy62⟩) (by assumption) ?rest62
              case hy62 => (intro wz hSw; (try dsimp only at hSw); first | (go_simp; done) | (go_simp; with_reducible rfl))
              try simp only [Act.put, List.getElem_toArray, List.getElem_cons_succ, List.getElem_cons_zero, List.setIfInBounds_toArray, List.set_cons_zero, List.set_cons_succ]
              refine wpAnyH_done (by kernel_rfl) ?_ _
              clear hH0
              have GM := Lib.hid (gb_trans GJ.out M0.out)
              have OMW := Lib.hid (OJ.out.keep0 M0.out)
              clear KM M0
              generalize jw1.drew = jw2 at *
              have x0 := GM.out.cell X0.out (by simp)
              have x1c := GM.out.cell X1.out (by simp)
              have y0 := GM.out.cell Y0.out (by simp)
              have y1c := GM.out.cell Y1.out (by simp)
              have TB7 := Lib.hid (ref_cell _ _ _ (x1, x2) _ (IsB.new jw2 69 #[.int .i64 x1, .int .i64 x2]) rfl)
              have GB7 := Lib.hid (gb_al (o := .cells #[.int .i64 x1, .int .i64 x2] 69) GM.out)
              have OB7 := Lib.hid (OMW.out.keep0 (gb_alloc jw2 (.cells #[.int .i64 x1, .int .i64 x2] 69) none))
              go_upto_region 10 with (at_builtin; refine pushRef rfl _ _ rfl w1.heap.size _ (out) rfl OB7.out _ _ (x1, x2) rfl TB7.out (by have := OM.out; simp; omega) GB7.out.size ?_; intro V7 w7 o7 g7; have O7 := Lib.hid (rl_fl o7); have G7 := Lib.hid (gb_own GB7.out OB7.out (Nat.le_refl _) g7); clear o7 g7)
              obtain ⟨a7, c7, h7⟩ := O7.out.shape
              rw [show (out ++ [(x1, x2)]).length = m + 1 by simp [OM.out]] at h7
              subst h7
              clear x0 x1c y0 y1c
              have x0 := G7.out.cell X0.out (by simp)
              have x1c := G7.out.cell X1.out (by simp)
              have y0 := G7.out.cell Y0.out (by simp)
              have y1c := G7.out.cell Y1.out (by simp)
              have TB8 := Lib.hid (ref_cell _ _ _ (y1, y2) _ (IsB.new w7 69 #[.int .i64 y1, .int .i64 y2]) rfl)
              have GB8 := Lib.hid (gb_al (o := .cells #[.int .i64 y1, .int .i64 y2] 69) G7.out)
              have OB8 := Lib.hid (O7.out.keep0 (gb_alloc w7 (.cells #[.int .i64 y1, .int .i64 y2] 69) none))
              go_wp2_with (at_builtin; refine pushRef rfl _ _ rfl w1.heap.size _ (out ++ [(x1, x2)]) rfl OB8.out _ _ (y1, y2) rfl TB8.out (by have := OM.out; simp; omega) GB8.out.size ?_; intro V8 w8 o8 g8; have O8 := Lib.hid (rl_fl o8); have G8 := Lib.hid (gb_own GB8.out OB8.out (Nat.le_refl _) g8); clear o8 g8)
              obtain ⟨a8, c8, h8⟩ := O8.out.shape
              rw [show (out ++ [(x1, x2)] ++ [(y1, y2)]).length = m + 2 by simp [OM.out]] at h8
              subst h8
              go_roundw
              case rel => exact ⟨i + 1, m + 2, true, out ++ [(x1, x2)] ++ [(y1, y2)], a8, c8, by omega, by go_num, rfl, rfl, by simp [OM.out], by omega, O8.out, RN.out, G8.out⟩
              case measure => simp [intOf]; omega
    · have i1 : ¬ (i : Int) < n := by omega
      have DN := Lib.hid (show L.drop i = [] from List.drop_of_length_le (by rw [LN.out]; omega))
      cases pl with
      | true =>
        have RN := Lib.hid (show R = out by rw [RR.out, DN.out]; simp [rstR])
        go_wp2
        go_ret
        exact ⟨b, d, by rw [RN.out, OM.out] <;> rfl, by rw [RN.out, OM.out]; exact own_low O.out G0.out.size, gb_trans G0.out G.out⟩
      | false =>
        have RN := Lib.hid (show R = out ++ [(x1, x2)] by rw [RR.out, DN.out]; simp [rstR, aR_nil])
        have x0 := G.out.cell X0.out (by simp)
        have x1c := G.out.cell X1.out (by simp)
        have TB8 := Lib.hid (ref_cell _ _ _ (x1, x2) _ (IsB.new wr 69 #[.int .i64 x1, .int .i64 x2]) rfl)
        have GB8 := Lib.hid (gb_al (o := .cells #[.int .i64 x1, .int .i64 x2] 69) G.out)
        have OB8 := Lib.hid (O.out.keep0 (gb_alloc wr (.cells #[.int .i64 x1, .int .i64 x2] 69) none))
        go_wp2_with (at_builtin; refine pushRef rfl _ _ rfl w1.heap.size _ (out) rfl OB8.out _ _ (x1, x2) rfl TB8.out (by have := OM.out; simp; omega) GB8.out.size ?_; intro V8 w8 o8 g8; have O8 := Lib.hid (rl_fl o8); have G8 := Lib.hid (gb_own GB8.out OB8.out (Nat.le_refl _) g8); clear o8 g8)
        obtain ⟨a8, c8, h8⟩ := O8.out.shape
        rw [show (out ++ [(x1, x2)]).length = m + 1 by simp [OM.out]] at h8
        subst h8
        go_ret
        exact ⟨a8, c8, by rw [RN.out] <;> simp [OM.out], by rw [RN.out, show (out ++ [(x1, x2)]).length = m + 1 by simp [OM.out]]; exact own_low O8.out G0.out.size, gb_trans G0.out G8.out⟩
end Go.Proofs.YtcicjodpkbcigaaGreat
