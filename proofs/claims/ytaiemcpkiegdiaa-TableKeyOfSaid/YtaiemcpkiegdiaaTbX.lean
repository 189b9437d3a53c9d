/- Table: the law TableKeyOf; no condition. -/
import Derived.Test.YtaiemcpkiegdiaaTbW
import Derived.Test.YtaiemcpkiegdiaaTbU
import Derived.Deep.QuietTactic
import Derived.BigQuiet
namespace Go.Proofs.Ytaiemcpkiegdiaa
open Go.RowKit
set_option linter.unusedVariables false
theorem get_at (V : List Bool) (F : List (List Int)) (T : List Int) (m : Nat) (v : Int) (h : m < T.length) : getE V F (T.set m v) (-1) (m : Int) = v := by
  have e : vls F (T.set m v) (-1) = T.set m v := by unfold vls; rw [if_pos rfl]
  unfold getE
  rw [e, if_pos ⟨by simp [openB], by rw [List.length_set]; exact (isX_iff _ _).2 ⟨by omega, by omega⟩⟩, Int.toNat_natCast, List.getD_eq_getElem?_getD, List.getElem?_set_self h]
  rfl
theorem get_off (V : List Bool) (F : List (List Int)) (T : List Int) (m : Nat) (v h f : Int) (hn : ¬ (h = -1 ∧ f = (m : Int))) : getE V F (T.set m v) h f = getE V F T h f := by
  by_cases h1 : h = -1
  · subst h1
    have hf : f ≠ (m : Int) := fun e => hn ⟨rfl, e⟩
    have e : ∀ T' : List Int, vls F T' (-1) = T' := fun T' => by unfold vls; rw [if_pos rfl]
    unfold getE
    rw [e, e, List.length_set]
    by_cases hx : isX f T.length = true
    · have hr := (isX_iff _ _).1 hx
      have e2 : (T.set m v).getD f.toNat 0 = T.getD f.toNat 0 := by
        rw [List.getD_eq_getElem?_getD, List.getD_eq_getElem?_getD, List.getElem?_set_ne (by omega)]
      rw [e2]
    · rw [if_neg (fun q => hx q.2), if_neg (fun q => hx q.2)]
  · unfold getE vls
    rw [if_neg h1, if_neg h1]
theorem mk_wid (H : List (ByteArray × List Fld)) (M : List Fld) (m : Nat) (h : m < M.length) : mkB (widE H M (-1) (m : Int)) = mkB (M.getD m fz).2 := by
  have e : dfs H M (-1) = M := by simp [dfs]
  unfold widE
  rw [e, if_pos ((isX_iff _ _).2 ⟨by omega, by omega⟩), Int.toNat_natCast]
  split
  · rfl
  · rename_i q
    rw [mkB_out _ (by omega), mkB_out _ (by unfold okW at q; simpa using q)]
theorem key_at (H : List (ByteArray × List Fld)) (M : List Fld) (V : List Bool) (F : List (List Int)) (T : List Int) (ks : List TKy) (m j : Nat) (v : Int) (hj : j < ks.length) (hm : m < T.length) (hM : m < M.length) (e : (ks.getD j tkz).h = -1 ∧ (ks.getD j tkz).f = (m : Int)) :
    (keyV H M V F (T.set m v) ks).getD j 0 = bits .and .u32 v (mkB (M.getD m fz).2) := by
  rw [keyV_at _ _ _ _ _ _ _ hj, e.1, e.2, get_at V F T m v hm, mk_wid H M m hM]
theorem key_off (H : List (ByteArray × List Fld)) (M : List Fld) (V : List Bool) (F : List (List Int)) (T : List Int) (ks : List TKy) (m j : Nat) (v : Int) (hj : j < ks.length) (e : ¬ ((ks.getD j tkz).h = -1 ∧ (ks.getD j tkz).f = (m : Int))) :
    (keyV H M V F (T.set m v) ks).getD j 0 = (keyV H M V F T ks).getD j 0 := by
  rw [keyV_at _ _ _ _ _ _ _ hj, keyV_at _ _ _ _ _ _ _ hj, get_off V F T m v _ _ e]
theorem set_rng17 {l : List Int} (h : ∀ x ∈ l, 0 ≤ x ∧ x < 4294967296) (j : Nat) (v : Int) (h0 : 0 ≤ v) (h1 : v < 4294967296) : ∀ x ∈ l.set j v, 0 ≤ x ∧ x < 4294967296 := by
  intro x hx
  rcases List.mem_or_eq_of_mem_set hx with q | rfl
  · exact h x q
  · exact ⟨h0, h1⟩
theorem rmask_v (w : Int) (W : World) : Calls Try.prog 25 #[.int .i64 w] W (RetV (.int .u32 (mkB w)) W) := (rmask_any w W).mono fun e w' h => by obtain ⟨a, rfl⟩ := h; exact ⟨a, gb_refl _ _⟩
theorem ok_tabX {P : Pg} {k : Nat} (h : okT P (k : Int) = true) : tabV P (k : Int) = P.T.getD k tbz := by unfold tabV; rw [if_pos h, Int.toNat_natCast]
theorem own_some17 {w : World} {base n c : Nat} {a : Option Addr} {L : List Int} (h : NU w base (.slice a n c) L) (hn : 0 < n) : ∃ g, a = some ⟨g, 0, none⟩ := by
  rcases h.2 with ⟨q, _⟩ | ⟨g, cap, cur, q, _⟩
  · injection q with q1 q2 _
    omega
  · injection q with q1 _ _
    exact ⟨g, q1⟩
set_option maxRecDepth 100000 in
set_option maxHeartbeats 20000000 in
theorem keyof_walk (w : World) (X : PX) (P : Pg) (hp : SP w X P) (va fa ta pa : Option Addr) (vn vc fn fc tn tc pn pc : Nat) (L : EL) (hV : SB w va vn vc L.V) (hF : SR w fa fn fc L.F) (hT : SU w ta tn tc L.T) (q0 q1 q2 : Nat) (hq : q2 < 4294967296) : Calls Try.prog 7 #[.agg #[.string X.nm, .slice X.ha X.hn X.hc, .slice X.ma X.mn X.mc, .slice X.ra X.rn X.rc, .slice X.aa X.an X.ac, .slice X.ta X.tn X.tc, .slice X.sa X.sn X.sc, .slice X.ca X.cn X.cc, .slice X.da X.dn X.dc], .agg #[.slice va vn vc, .slice fa fn fc, .slice ta tn tc, .slice pa pn pc], .agg #[.int .u32 q0, .int .u32 q1, .int .u32 q2]] w (RetV (.bool true) w) := by
  have S0 := Lib.hid (fun (W : World) (k : w.grownBy W none) => (⟨hp.keep0 k, hV.keep0 k, hF.keep0 k, hT.keep0 k⟩ : SP W X P ∧ SB W va vn vc L.V ∧ SR W fa fn fc L.F ∧ SU W ta tn tc L.T))
  have HQ2 := Lib.hid hq
  obtain ⟨t, ht⟩ : ∃ t : Nat, t = q0 % 16 := ⟨_, rfl⟩
  obtain ⟨m, hm⟩ : ∃ m : Nat, m = q1 % 16 := ⟨_, rfl⟩
  have T16 := Lib.hid (show t < 16 by omega)
  have M16 := Lib.hid (show m < 16 by omega)
  have et : Int.tmod (q0 : Int) 16 = (t : Int) := by rw [Int.tmod_eq_emod_of_nonneg (by omega)]; omega
  have em : Int.tmod (q1 : Int) 16 = (m : Int) := by rw [Int.tmod_eq_emod_of_nonneg (by omega)]; omega
  have cvt : IntKind.i64.wrap (t : Int) = (t : Int) := by rw [IntKind.wrap_i64]; omega
  have cvm : IntKind.i64.wrap (m : Int) = (m : Int) := by rw [IntKind.wrap_i64]; omega
  have G1 := Lib.hid (gb_trans (gb_trans (gb_alloc w (.cells #[.string X.nm, .slice X.ha X.hn X.hc, .slice X.ma X.mn X.mc, .slice X.ra X.rn X.rc, .slice X.aa X.an X.ac, .slice X.ta X.tn X.tc, .slice X.sa X.sn X.sc, .slice X.ca X.cn X.cc, .slice X.da X.dn X.dc] 31) none) (gb_alloc _ (.cells #[.slice va vn vc, .slice fa fn fc, .slice ta tn tc, .slice pa pn pc] 47) none)) (gb_alloc _ (.cells #[.int .u32 q0, .int .u32 q1, .int .u32 q2] 58) none))
  have BP := ((IsB.new w 31 #[.string X.nm, .slice X.ha X.hn X.hc, .slice X.ma X.mn X.mc, .slice X.ra X.rn X.rc, .slice X.aa X.an X.ac, .slice X.ta X.tn X.tc, .slice X.sa X.sn X.sc, .slice X.ca X.cn X.cc, .slice X.da X.dn X.dc]).alloc (.cells #[.slice va vn vc, .slice fa fn fc, .slice ta tn tc, .slice pa pn pc] 47)).alloc (.cells #[.int .u32 q0, .int .u32 q1, .int .u32 q2] 58)
  have BE := (IsB.new (w.alloc (.cells #[.string X.nm, .slice X.ha X.hn X.hc, .slice X.ma X.mn X.mc, .slice X.ra X.rn X.rc, .slice X.aa X.an X.ac, .slice X.ta X.tn X.tc, .slice X.sa X.sn X.sc, .slice X.ca X.cn X.cc, .slice X.da X.dn X.dc] 31)) 47 #[.slice va vn vc, .slice fa fn fc, .slice ta tn tc, .slice pa pn pc]).alloc (.cells #[.int .u32 q0, .int .u32 q1, .int .u32 q2] 58)
  have BQ := IsB.new ((w.alloc (.cells #[.string X.nm, .slice X.ha X.hn X.hc, .slice X.ma X.mn X.mc, .slice X.ra X.rn X.rc, .slice X.aa X.an X.ac, .slice X.ta X.tn X.tc, .slice X.sa X.sn X.sc, .slice X.ca X.cn X.cc, .slice X.da X.dn X.dc] 31)).alloc (.cells #[.slice va vn vc, .slice fa fn fc, .slice ta tn tc, .slice pa pn pc] 47)) 58 #[.int .u32 q0, .int .u32 q1, .int .u32 q2]
  simp only [sz_al] at BE BQ
  replace BP := Lib.hid BP
  replace BE := Lib.hid BE
  replace BQ := Lib.hid BQ
  clear hp hV hF hT hq ht hm
  go_enter Try.func7, Try.ntmps7
  go_upto_region 1 with fail
  generalize ((w.alloc (.cells #[.string X.nm, .slice X.ha X.hn X.hc, .slice X.ma X.mn X.mc, .slice X.ra X.rn X.rc, .slice X.aa X.an X.ac, .slice X.ta X.tn X.tc, .slice X.sa X.sn X.sc, .slice X.ca X.cn X.cc, .slice X.da X.dn X.dc] 31)).alloc (.cells #[.slice va vn vc, .slice fa fn fc, .slice ta tn tc, .slice pa pn pc] 47)).alloc (.cells #[.int .u32 q0, .int .u32 q1, .int .u32 q2] 58) = w1 at *
  obtain ⟨bx, hbx⟩ : ∃ b, b = w.heap.size := ⟨_, rfl⟩
  have Lbx := Lib.hid (show w.heap.size ≤ bx by rw [hbx]; exact Nat.le_refl _)
  rw [← hbx] at BP BE BQ ⊢
  clear hbx
  clear Lbx
  replace S0 := Lib.hid (fun (W : World) (k : w1.grownBy W none) => S0.out W (gb_trans G1.out k))
  have KQ := Lib.hid (fun (w' : World) (q0_ : w1.grownBy w' none) => (⟨(BQ.out.keep0 q0_).cell 0, (BQ.out.keep0 q0_).cell 1, q0_⟩ : (fun w' : World => w'.cell? ⟨bx + 1 + 1, 0, none⟩ = some (.int .u32 q0) ∧ w'.cell? ⟨bx + 1 + 1, 1, none⟩ = some (.int .u32 q1) ∧ w1.grownBy w' none) w'))
  have QG0 := Lib.hid (gb_drew w1 none)
  refine wp_region_held_drew (S := (fun w' : World => w'.cell? ⟨bx + 1 + 1, 0, none⟩ = some (.int .u32 q0) ∧ w'.cell? ⟨bx + 1 + 1, 1, none⟩ = some (.int .u32 q1) ∧ w1.grownBy w' none)) (by kernel_rfl) (KQ.out _ QG0.out) (fun hH0 => ?_)
  refine wpAnyH_take (i := 0) (v := ?v1) rfl (by kernel_rfl) (by kernel_rfl) (by kernel_rfl) (fun _ _ _ h => h) (Or.inl ⟨by rfl, ?hy1⟩) (by assumption) ?rest1
  case hy1 => (intro wz hSw; (try dsimp only at hSw); first | (go_simp; done) | (go_simp; with_reducible rfl))
  try simp only [Act.put, List.getElem_toArray, List.getElem_cons_zero, List.setIfInBounds_toArray, List.set_cons_zero, List.set_cons_succ]
  refine wpAnyH_take (i := 1) (v := ?v2) rfl (by kernel_rfl) (by kernel_rfl) (by kernel_rfl) (fun _ _ _ h => h) (Or.inl ⟨by rfl, ?hy2⟩) (by assumption) ?rest2
  case hy2 => (intro wz hSw; (try dsimp only at hSw); first | (go_simp; done) | (go_simp; with_reducible rfl))
  try simp only [Act.put, List.getElem_toArray, List.getElem_cons_succ, List.getElem_cons_zero, List.setIfInBounds_toArray, List.set_cons_zero, List.set_cons_succ]
  refine wpAnyH_take (i := 2) (v := ?v3) rfl (by kernel_rfl) (by kernel_rfl) (by kernel_rfl) (fun _ _ _ h => h) (Or.inl ⟨by rfl, ?hy3⟩) (by assumption) ?rest3
  case hy3 => (intro wz hSw; (try dsimp only at hSw); first | (go_simp; done) | (go_simp; with_reducible rfl))
  try simp only [Act.put, List.getElem_toArray, List.getElem_cons_succ, List.getElem_cons_zero, List.setIfInBounds_toArray, List.set_cons_zero, List.set_cons_succ]
  refine wpAnyH_take (i := 3) (v := ?v4) rfl (by kernel_rfl) (by kernel_rfl) (by kernel_rfl) (fun _ _ _ h => h) (Or.inl ⟨by rfl, ?hy4⟩) (by assumption) ?rest4
  case hy4 => (intro wz hSw; (try dsimp only at hSw); first | (go_simp; done) | (go_simp; with_reducible rfl))
  try simp only [Act.put, List.getElem_toArray, List.getElem_cons_succ, List.getElem_cons_zero, List.setIfInBounds_toArray, List.set_cons_zero, List.set_cons_succ]
  refine wpAnyH_take (i := 4) (v := ?v5) rfl (by kernel_rfl) (by kernel_rfl) (by kernel_rfl) (fun _ _ _ h => h) (Or.inl ⟨by rfl, ?hy5⟩) (by assumption) ?rest5
  case hy5 => (intro wz hSw; (try dsimp only at hSw); first | (go_simp; done) | (go_simp; with_reducible rfl))
  try simp only [Act.put, List.getElem_toArray, List.getElem_cons_succ, List.getElem_cons_zero, List.setIfInBounds_toArray, List.set_cons_zero, List.set_cons_succ]
  refine wpAnyH_take (i := 5) (v := ?v6) rfl (by kernel_rfl) (by kernel_rfl) (by kernel_rfl) (fun _ _ _ h => h) (Or.inl ⟨by rfl, ?hy6⟩) (by assumption) ?rest6
  case hy6 => (intro wz hSw; (try dsimp only at hSw); first | (go_simp; done) | (go_simp; with_reducible rfl))
  try simp only [Act.put, List.getElem_toArray, List.getElem_cons_succ, List.getElem_cons_zero, List.setIfInBounds_toArray, List.set_cons_zero, List.set_cons_succ]
  refine wpAnyH_take (i := 6) (v := ?v7) rfl (by kernel_rfl) (by kernel_rfl) (by kernel_rfl) (fun _ _ _ h => h) (Or.inl ⟨by rfl, ?hy7⟩) (by assumption) ?rest7
  case hy7 => (intro wz hSw; (try dsimp only at hSw); first | (go_simp; done) | (go_simp; with_reducible rfl))
  try simp only [Act.put, List.getElem_toArray, List.getElem_cons_succ, List.getElem_cons_zero, List.setIfInBounds_toArray, List.set_cons_zero, List.set_cons_succ]
  refine wpAnyH_take (i := 7) (v := ?v8) rfl (by kernel_rfl) (by kernel_rfl) (by kernel_rfl) (fun _ _ _ h => h) (Or.inl ⟨by rfl, ?hy8⟩) (by assumption) ?rest8
  case hy8 => (intro wz hSw; (try dsimp only at hSw); first | (go_simp; done) | (go_simp; with_reducible rfl))
  try simp only [Act.put, List.getElem_toArray, List.getElem_cons_succ, List.getElem_cons_zero, List.setIfInBounds_toArray, List.set_cons_zero, List.set_cons_succ]
  refine wpAnyH_take (i := 8) (v := ?v9) rfl (by kernel_rfl) (by kernel_rfl) (by kernel_rfl) (fun _ _ _ h => h) (Or.inl ⟨by rfl, ?hy9⟩) (by assumption) ?rest9
  case hy9 => (intro wz hSw; (try dsimp only at hSw); first | (go_simp; done) | (go_simp; with_reducible rfl))
  try simp only [Act.put, List.getElem_toArray, List.getElem_cons_succ, List.getElem_cons_zero, List.setIfInBounds_toArray, List.set_cons_zero, List.set_cons_succ]
  refine wpAnyH_take (i := 9) (v := ?v10) rfl (by kernel_rfl) (by kernel_rfl) (by kernel_rfl) (fun _ _ _ h => h) (Or.inl ⟨by rfl, ?hy10⟩) (by assumption) ?rest10
  case hy10 => (intro wz hSw; (try dsimp only at hSw); first | (go_simp; done) | (go_simp; with_reducible rfl))
  try simp only [Act.put, List.getElem_toArray, List.getElem_cons_succ, List.getElem_cons_zero, List.setIfInBounds_toArray, List.set_cons_zero, List.set_cons_succ]
  refine wpAnyH_done (by kernel_rfl) ?_ _
  clear hH0
  have GD := Lib.hid QG0.out
  clear KQ et em
  generalize w1.drew = w2 at *
  have c0 := (BP.out.keep0 GD.out).cell 0
  have c1 := (BP.out.keep0 GD.out).cell 1
  have c2 := (BP.out.keep0 GD.out).cell 2
  have c3 := (BP.out.keep0 GD.out).cell 3
  have c4 := (BP.out.keep0 GD.out).cell 4
  have c5 := (BP.out.keep0 GD.out).cell 5
  have c6 := (BP.out.keep0 GD.out).cell 6
  have c7 := (BP.out.keep0 GD.out).cell 7
  have c8 := (BP.out.keep0 GD.out).cell 8
  dsimp at c0 c1 c2 c3 c4 c5 c6 c7 c8
  have x0 := (BE.out.keep0 GD.out).cell 0
  have x1 := (BE.out.keep0 GD.out).cell 1
  have x2 := (BE.out.keep0 GD.out).cell 2
  have x3 := (BE.out.keep0 GD.out).cell 3
  dsimp at x0 x1 x2 x3
  go_wp2_with fail
  refine (small_any w2 X P (S0.out _ GD.out).1).mono ?_
  rintro e w3 ⟨b, rfl, g, hq⟩
  have G3 := Lib.hid (gb_trans GD.out g)
  have HQ := Lib.hid hq
  clear g hq
  clear c0 c1 c2 c3 c4 c5 c6 c7 c8
  clear x0 x1 x2 x3
  cases b
  · go_wp2_with fail
    refine (works_any _).mono ?_
    rintro e wz ⟨rfl, g⟩
    have GZ := Lib.hid (gb_trans G3.out g)
    clear g
    go_wp2
    go_ret
    exact ⟨rfl, gb_trans G1.out GZ.out⟩
  · have Z := Lib.hid (HQ.out rfl)
    clear HQ
    have c0 := (BP.out.keep0 G3.out).cell 0
    have c1 := (BP.out.keep0 G3.out).cell 1
    have c2 := (BP.out.keep0 G3.out).cell 2
    have c3 := (BP.out.keep0 G3.out).cell 3
    have c4 := (BP.out.keep0 G3.out).cell 4
    have c5 := (BP.out.keep0 G3.out).cell 5
    have c6 := (BP.out.keep0 G3.out).cell 6
    have c7 := (BP.out.keep0 G3.out).cell 7
    have c8 := (BP.out.keep0 G3.out).cell 8
    dsimp at c0 c1 c2 c3 c4 c5 c6 c7 c8
    have x0 := (BE.out.keep0 G3.out).cell 0
    have x1 := (BE.out.keep0 G3.out).cell 1
    have x2 := (BE.out.keep0 G3.out).cell 2
    have x3 := (BE.out.keep0 G3.out).cell 3
    dsimp at x0 x1 x2 x3
    go_wp2_with fail
    refine (smallenv_any w3 va fa ta pa vn vc fn fc tn tc pn pc L.F (S0.out _ G3.out).2.2.1).mono ?_
    rintro e w4 ⟨b, rfl, g, hq⟩
    have G4 := Lib.hid (gb_trans G3.out g)
    have HQ := Lib.hid hq
    clear g hq
    clear c0 c1 c2 c3 c4 c5 c6 c7 c8
    clear x0 x1 x2 x3
    cases b
    · go_wp2_with fail
      refine (works_any _).mono ?_
      rintro e wz ⟨rfl, g⟩
      have GZ := Lib.hid (gb_trans G4.out g)
      clear g
      go_wp2
      go_ret
      exact ⟨rfl, gb_trans G1.out GZ.out⟩
    · have SE := Lib.hid (HQ.out rfl)
      clear HQ
      have c0 := (BP.out.keep0 G4.out).cell 0
      have c1 := (BP.out.keep0 G4.out).cell 1
      have c2 := (BP.out.keep0 G4.out).cell 2
      have c3 := (BP.out.keep0 G4.out).cell 3
      have c4 := (BP.out.keep0 G4.out).cell 4
      have c5 := (BP.out.keep0 G4.out).cell 5
      have c6 := (BP.out.keep0 G4.out).cell 6
      have c7 := (BP.out.keep0 G4.out).cell 7
      have c8 := (BP.out.keep0 G4.out).cell 8
      dsimp at c0 c1 c2 c3 c4 c5 c6 c7 c8
      have x0 := (BE.out.keep0 G4.out).cell 0
      have x1 := (BE.out.keep0 G4.out).cell 1
      have x2 := (BE.out.keep0 G4.out).cell 2
      have x3 := (BE.out.keep0 G4.out).cell 3
      dsimp at x0 x1 x2 x3
      by_cases m1 : (tn : Int) ≤ (m : Int)
      · go_wp2_with fail
        refine (works_any _).mono ?_
        rintro e wz ⟨rfl, g⟩
        have GZ := Lib.hid (gb_trans G4.out g)
        clear g
        go_wp2
        go_ret
        exact ⟨rfl, gb_trans G1.out GZ.out⟩
      · by_cases m2 : (X.mn : Int) ≤ (m : Int)
        · go_wp2_with fail
          refine (works_any _).mono ?_
          rintro e wz ⟨rfl, g⟩
          have GZ := Lib.hid (gb_trans G4.out g)
          clear g
          go_wp2
          go_ret
          exact ⟨rfl, gb_trans G1.out GZ.out⟩
        · have MT := Lib.hid (show m < tn by omega)
          have MM := Lib.hid (show m < X.mn by omega)
          have K1 := Lib.hid (fun (W : World) (k : w1.grownBy W none) => pkey_any W X P (S0.out _ k).1 Z.out.sz (t : Int) va fa ta vn vc fn fc tn tc (.slice pa pn pc) L.V L.F L.T (S0.out _ k).2.1 (S0.out _ k).2.2.1 (S0.out _ k).2.2.2)
          have R1 := Lib.hid (keyV_rng P.H P.M (V := L.V) (S0.out _ (gb_refl _ _)).2.2.1 (S0.out _ (gb_refl _ _)).2.2.2 (tabV P t).ks)
          have N1 := Lib.hid (keyV_len P.H P.M L.V L.F L.T (tabV P t).ks)
          have TLn := Lib.hid (show L.T.length = tn from (S0.out _ (gb_refl _ _)).2.2.2.len)
          have MLn := Lib.hid (show P.M.length = X.mn from (S0.out _ (gb_refl _ _)).1.m.len)
          go_wp2_with fail
          refine (K1.out _ G4.out).mono ?_
          rintro e w7 ⟨ia, ic, rfl, nl, g⟩
          have IA := Lib.hid (nu_su nl rfl R1.out)
          have G7 := Lib.hid (gb_trans G4.out g)
          clear g nl m1 m2 cvt cvm
          clear c0 c1 c2 c3 c4 c5 c6 c7 c8
          clear x0 x1 x2 x3
          rw [N1.out] at IA ⊢
          have G8 := Lib.hid (gb_alloc w7 (.cells #[.slice va vn vc, .slice fa fn fc, .slice ta tn tc, .slice pa pn pc] 47) none)
          have BX := IsB.new w7 47 #[.slice va vn vc, .slice fa fn fc, .slice ta tn tc, .slice pa pn pc]
          replace BX := Lib.hid BX
          have x0 := (BE.out.keep0 G7.out).cell 0
          have x1 := (BE.out.keep0 G7.out).cell 1
          have x2 := (BE.out.keep0 G7.out).cell 2
          have x3 := (BE.out.keep0 G7.out).cell 3
          dsimp at x0 x1 x2 x3
          go_upto_region 6 with fail
          generalize w7.alloc (.cells #[.slice va vn vc, .slice fa fn fc, .slice ta tn tc, .slice pa pn pc] 47) = w8 at *
          obtain ⟨bk, hbk⟩ : ∃ b, b = w7.heap.size := ⟨_, rfl⟩
          have Lbk := Lib.hid (show w7.heap.size ≤ bk by rw [hbk]; exact Nat.le_refl _)
          rw [← hbk] at BX ⊢
          clear hbk
          clear x0 x1 x2 x3
          have GA := Lib.hid (gb_trans G7.out G8.out)
          have E0 := Lib.hid (show NU (w8.alloc (.cells #[] 57)) w8.heap.size (.slice (some ⟨w8.heap.size, 0, none⟩) 0 0) [] from World.ownsRow_lit (base := w8.heap.size) (e := 57) (size := 1) w8 #[] 0 (Nat.le_refl _) (by unfold maxLen; omega) (by simp))
          have x2 := ((BE.out.keep0 GA.out).keep0 (gb_alloc w8 (.cells #[] 57) none)).cell 2
          dsimp at x2
          go_wp2_with (at_builtin; refine upush_any rfl _ _ rfl w8.heap.size _ [] rfl E0.out ta tn tc L.T rfl ((S0.out _ GA.out).2.2.2.keep0 (gb_alloc _ _ _)) (by have := SE.out.2.2; have := TLn.out; simp; omega) (by simp) ?_)
          intro V1 w9 n9 g9
          have n9 : NU w9 w8.heap.size V1 L.T := by simpa using n9
          obtain ⟨f9, e9, rfl⟩ := nu_shape n9
          have NZ := Lib.hid n9
          have g10 := Lib.hid (show w8.grownBy w9 none from gb_new (gb_trans (gb_alloc w8 (.cells #[] 57) (some w8.heap.size)) g9) (Nat.le_refl _))
          have f2 := (BX.out.keep0 g10.out).free 2
          have y2 := (BX.out.keep0 g10.out).cell 2
          dsimp at y2
          clear n9 g9 x2
          go_upto_region 7 with fail
          have BX2 := Lib.hid (show IsB (w9.setCell ⟨bk, 2, none⟩ (.slice f9 L.T.length e9)) bk 47 #[.slice va vn vc, .slice fa fn fc, .slice f9 L.T.length e9, .slice pa pn pc] from (BX.out.keep0 g10.out).set 2 (.slice f9 L.T.length e9))
          have N10 := Lib.hid (show NU (w9.setCell ⟨bk, 2, none⟩ (.slice f9 L.T.length e9)) w8.heap.size (.slice f9 L.T.length e9) L.T from World.ownsRow.kept NZ.out (gb_set _ _ _ _) (.inr (own_ne NZ.out (BX.out.keep0 g10.out) (by decide))))
          have GB := Lib.hid (show w7.grownBy (w9.setCell ⟨bk, 2, none⟩ (.slice f9 L.T.length e9)) none from gb_put (gb_trans G8.out g10.out) (by exact Lbk.out))
          have L8 := Lib.hid (show w7.heap.size ≤ w8.heap.size from G8.out.size)
          clear f2 y2 E0 BX NZ g10
          generalize w9.setCell ⟨bk, 2, none⟩ (.slice f9 L.T.length e9) = w10 at *
          rw [TLn.out] at N10 BX2 ⊢
          obtain ⟨g, rfl⟩ : ∃ g, f9 = some ⟨g, 0, none⟩ := own_some17 N10.out (by have := MT.out; omega)
          obtain ⟨z1, z2⟩ := nu_cell N10.out TLn.out m MT.out
          have b2 := BX2.out.cell 2
          have qc := (BQ.out.keep0 (gb_trans G7.out GB.out)).cell 2
          dsimp at b2 qc
          have im0 : (0 : Int) ≤ (m : Int) := by omega
          have im1 : (m : Int) < tn := by have := MT.out; omega
          have NE := Lib.hid (show bk ≠ g from fun e => (own_ne N10.out BX2.out (by decide)) (by rw [e]; rfl))
          have LG := Lib.hid (show w8.heap.size ≤ g from (World.ownsRow.lt N10.out g rfl).1)
          go_upto_region 8 with fail
          have BX3 := Lib.hid (BX2.out.set_far NE.out m (.int .u32 q2))
          have N11 := Lib.hid (NU.put N10.out TLn.out.symm m (q2 : Int))
          have GC := Lib.hid (show w7.grownBy (w10.setCell ⟨g, m, none⟩ (.int .u32 q2)) none from gb_put GB.out (Nat.le_trans L8.out LG.out))
          clear z1 z2 b2 qc BX2 N10
          generalize w10.setCell ⟨g, m, none⟩ (.int .u32 q2) = w11 at *
          have SN := Lib.hid (nu_su N11.out (by rw [List.length_set]; exact TLn.out) (set_rng17 (S0.out _ G7.out).2.2.2.rng m q2 (by omega) (by have := HQ2.out; omega)))
          have GW := Lib.hid (gb_trans G7.out GC.out)
          have IB := Lib.hid (IA.out.keep0 GC.out)
          have K2 := pkey_any w11 X P (S0.out _ GW.out).1 Z.out.sz (t : Int) va fa (some ⟨g, 0, none⟩) vn vc fn fc tn e9 (.slice pa pn pc) L.V L.F (L.T.set m q2) (S0.out _ GW.out).2.1 (S0.out _ GW.out).2.2.1 SN.out
          have R2 := Lib.hid (keyV_rng P.H P.M (V := L.V) (S0.out _ GW.out).2.2.1 SN.out (tabV P t).ks)
          have N2 := Lib.hid (keyV_len P.H P.M L.V L.F (L.T.set m q2) (tabV P t).ks)
          replace K2 := Lib.hid K2
          have c0 := (BP.out.keep0 GW.out).cell 0
          have c1 := (BP.out.keep0 GW.out).cell 1
          have c2 := (BP.out.keep0 GW.out).cell 2
          have c3 := (BP.out.keep0 GW.out).cell 3
          have c4 := (BP.out.keep0 GW.out).cell 4
          have c5 := (BP.out.keep0 GW.out).cell 5
          have c6 := (BP.out.keep0 GW.out).cell 6
          have c7 := (BP.out.keep0 GW.out).cell 7
          have c8 := (BP.out.keep0 GW.out).cell 8
          dsimp at c0 c1 c2 c3 c4 c5 c6 c7 c8
          have x0 := (BE.out.keep0 GW.out).cell 0
          have x1 := (BE.out.keep0 GW.out).cell 1
          have x2 := (BE.out.keep0 GW.out).cell 2
          have x3 := (BE.out.keep0 GW.out).cell 3
          dsimp at x0 x1 x2 x3
          have y0 := BX3.out.cell 0
          have y1 := BX3.out.cell 1
          have y2 := BX3.out.cell 2
          have y3 := BX3.out.cell 3
          dsimp at y0 y1 y2 y3
          go_wp2_with fail
          refine K2.out.mono ?_
          rintro e w12 ⟨ja, jc, rfl, nl, gg⟩
          have JA := Lib.hid (nu_su nl rfl R2.out)
          have GX := Lib.hid (gb_trans GW.out gg)
          replace IB := Lib.hid (IB.out.keep0 gg)
          clear nl gg y0 y1 y2 y3 K2 IA
          clear c0 c1 c2 c3 c4 c5 c6 c7 c8
          clear x0 x1 x2 x3
          rw [N2.out] at JA ⊢
          have KA := Lib.hid (fun (j : Nat) (hj : j < (tabV P t).ks.length) (e : ((tabV P t).ks.getD j tkz).h = -1 ∧ ((tabV P t).ks.getD j tkz).f = (m : Int)) => key_at P.H P.M L.V L.F L.T (tabV P t).ks m j q2 hj (by rw [TLn.out]; exact MT.out) (by rw [MLn.out]; exact MM.out) e)
          have KO := Lib.hid (fun (j : Nat) (hj : j < (tabV P t).ks.length) (e : ¬ (((tabV P t).ks.getD j tkz).h = -1 ∧ ((tabV P t).ks.getD j tkz).f = (m : Int))) => key_off P.H P.M L.V L.F L.T (tabV P t).ks m j q2 hj e)
          have KS10 := Lib.hid (show (tabV P t).ks.length ≤ 1000 from (tabV_sz Z.out.sz (t : Int)).2.1)
          by_cases hN : (tabV P t).ks.length = 0
          · rw [hN]
            have z0 : ((0 : Nat) : Int) = 0 := rfl
            go_wp2
            go_loopw [12] (fun i wr => i = .int .i64 0 ∧ w12.grownBy wr none) (fun _ _ => 0)
            case atStart => exact ⟨rfl, gb_refl _ _⟩
            case round =>
              obtain ⟨rfl, hg⟩ := hrel
              have GL := Lib.hid (gb_trans GX.out hg)
              clear hg
              go_wp2_with fail
              refine (works_any _).mono ?_
              rintro e wz ⟨rfl, g⟩
              have GZ := Lib.hid (gb_trans GL.out g)
              clear g
              go_wp2
              go_ret
              exact ⟨rfl, gb_trans G1.out GZ.out⟩
          · have OK : okT P (t : Int) = true := by
              by_cases q : okT P (t : Int) = true
              · exact q
              · exact absurd (by rw [(bad_tab q).2]; rfl) hN
            have TV := ok_tabX OK
            obtain ⟨k, hk0, hk⟩ := ok_in OK
            have hkt : k = t := by omega
            subst hkt
            have HK := Lib.hid (show k < X.tn by rw [← (S0.out _ (gb_refl _ _)).1.t.len]; exact hk)
            obtain ⟨tad, hta⟩ := (S0.out _ (gb_refl _ _)).1.t.some (by have := HK.out; omega)
            obtain ⟨Y, st, a0, a1, a2, a3, a4, a5⟩ := (S0.out _ (gb_refl _ _)).1.tab HK.out hta
            rw [← TV] at st
            have KL := Lib.hid (show (tabV P k).ks.length = Y.kn from st.k.len)
            have SK := Lib.hid st.k
            have A1 := Lib.hid a1
            have HTA := Lib.hid hta
            have HP := Lib.hid (S0.out _ (gb_refl _ _)).1.m
            clear st a0 a1 a2 a3 a4 a5 OK TV hk hk0 R1 N1 R2 N2
            generalize keyV P.H P.M L.V L.F (L.T.set m q2) (tabV P k).ks = KB at *
            generalize keyV P.H P.M L.V L.F L.T (tabV P k).ks = KF at *
            generalize (tabV P k).ks = ks at *
            obtain ⟨kad, hkd⟩ := SK.out.some (by have := KL.out; omega)
            have HKD := Lib.hid hkd
            rw [KL.out] at IB JA KA KO hN KS10 ⊢
            have hn1 : ((Y.kn : Int) != Y.kn) = false := by simp
            have hn2 : (0 : Int) < (Y.kn : Int) := by omega
            have k0 : (0 : Int) ≤ (k : Int) := by omega
            have k1 : (k : Int) < X.tn := by have := HK.out; omega
            have u5 := (BP.out.keep0 GX.out).cell 5
            dsimp at u5
            rw [hta] at u5
            have u1 := (gb_trans GX.out (gb_refl _ _)).cell A1.out (by simp)
            rw [hkd] at u1
            go_wp2
            clear u5 u1
            go_loopw [12] (fun i wr => ∃ j : Nat, j ≤ Y.kn ∧ i = .int .i64 j ∧ w12.grownBy wr none) (fun i _ => Y.kn - (intOf i).toNat)
            case atStart => exact ⟨0, Nat.zero_le _, rfl, gb_refl _ _⟩
            case round =>
              obtain ⟨j, hj, rfl, hg⟩ := hrel
              have G := Lib.hid hg
              clear hg
              by_cases hlt : j < Y.kn
              · have i1 : (j : Int) < Y.kn := by omega
                have i0 : (0 : Int) ≤ (j : Int) := by omega
                have im0 : (0 : Int) ≤ (m : Int) := by omega
                have im1 : (m : Int) < X.mn := by have := MM.out; omega
                have hw : IntKind.i64.wrap ((j : Int) + 1) = ((j + 1 : Nat) : Int) := by have := KS10.out; rw [IntKind.wrap_i64]; omega
                have GG := Lib.hid (gb_trans GX.out G.out)
                obtain ⟨iad, hid⟩ := IB.out.some (by omega)
                obtain ⟨jad, hjd⟩ := JA.out.some (by omega)
                obtain ⟨mad, hmd⟩ := HP.out.some (by have := MM.out; omega)
                have I2 := (IB.out.keep0 G.out).cells iad hid j hlt
                have J2 := (JA.out.keep0 G.out).cells jad hjd j hlt
                obtain ⟨h0, h1, _⟩ := (SK.out.keep0SKy GG.out).cells kad HKD.out j hlt
                obtain ⟨_, d1⟩ := (HP.out.keep0 GG.out).cells mad hmd m MM.out
                have D1 := Lib.hid d1
                have YA := Lib.hid (KA.out j hlt)
                have YO := Lib.hid (KO.out j hlt)
                have MK := Lib.hid (fun W => rmask_v (P.M.getD m fz).2 W)
                generalize (P.M.getD m fz).2 = mw at *
                generalize mkB mw = mk at *
                generalize KB.getD j 0 = kb at *
                generalize KF.getD j 0 = kf at *
                generalize (ks.getD j tkz).h = hh at *
                generalize (ks.getD j tkz).f = ff at *
                have u5 := (BP.out.keep0 GG.out).cell 5
                have u2 := (BP.out.keep0 GG.out).cell 2
                have qc := (BQ.out.keep0 GG.out).cell 2
                dsimp at u5 u2 qc
                rw [HTA.out] at u5
                have u1 := GG.out.cell A1.out (by simp)
                rw [HKD.out] at u1
                rw [hid, hjd]
                have HMD := Lib.hid hmd
                clear hid hjd d1 hmd
                by_cases e1 : hh = -1
                · have x1 : (hh == -1) = true := by rw [e1]; rfl
                  by_cases e2 : ff = (m : Int)
                  · have x2 : (ff == (m : Int)) = true := by rw [e2]; simp
                    have W := Lib.hid (YA.out ⟨e1, e2⟩)
                    clear e1 e2
                    have U2 := Lib.hid (show ∀ w', wr.grownBy w' none → w'.cell? ⟨bx, 2, none⟩ = some (.slice (some mad) X.mn X.mc) from fun w' q => by have := q.cell u2 (by simp); rw [HMD.out] at this; exact this)
                    have QC := Lib.hid qc
                    go_upto_region 16 with fail
                    have KR := Lib.hid (fun (w' : World) (q0_ : wr.grownBy w' none) => (⟨q0_.cell QC.out (by simp), U2.out _ q0_, q0_.cell D1.out (by simp), q0_⟩ : (fun w' : World => w'.cell? ⟨bx + 1 + 1, 2, none⟩ = some (.int .u32 q2) ∧ w'.cell? ⟨bx, 2, none⟩ = some (.slice (some mad) X.mn X.mc) ∧ w'.cell? ⟨(mad.add (m * 2)).block, (mad.add (m * 2)).off + 1, none⟩ = some (.int .i64 mw) ∧ wr.grownBy w' none) w'))
                    have QH0 := Lib.hid (gb_drew wr none)
                    refine wp_region_held_drew (S := (fun w' : World => w'.cell? ⟨bx + 1 + 1, 2, none⟩ = some (.int .u32 q2) ∧ w'.cell? ⟨bx, 2, none⟩ = some (.slice (some mad) X.mn X.mc) ∧ w'.cell? ⟨(mad.add (m * 2)).block, (mad.add (m * 2)).off + 1, none⟩ = some (.int .i64 mw) ∧ wr.grownBy w' none)) (by kernel_rfl) (KR.out _ QH0.out) (fun hH0 => ?_)
                    refine wpAnyH_take (i := 0) (v := ?v11) rfl (by kernel_rfl) (by kernel_rfl) (by kernel_rfl) (fun _ _ _ h => h) (Or.inl ⟨by rfl, ?hy11⟩) (by assumption) ?rest11
                    case hy11 => (intro wz hSw; (try dsimp only at hSw); first | (go_simp; done) | (go_simp; with_reducible rfl))
                    try simp only [Act.put, List.getElem_toArray, List.getElem_cons_zero, List.setIfInBounds_toArray, List.set_cons_zero, List.set_cons_succ]
                    refine wpAnyH_take (i := 1) (v := ?v12) rfl (by kernel_rfl) (by kernel_rfl) (by kernel_rfl) (fun _ _ _ h => h) (Or.inl ⟨by rfl, ?hy12⟩) (by assumption) ?rest12
                    case hy12 => (intro wz hSw; (try dsimp only at hSw); first | (go_simp; done) | (go_simp; with_reducible rfl))
                    try simp only [Act.put, List.getElem_toArray, List.getElem_cons_succ, List.getElem_cons_zero, List.setIfInBounds_toArray, List.set_cons_zero, List.set_cons_succ]
                    refine wpAnyH_take (i := 2) (v := ?v13) rfl (by kernel_rfl) (by kernel_rfl) (by kernel_rfl) (fun _ _ _ h => h) (Or.inl ⟨by rfl, ?hy13⟩) (by assumption) ?rest13
                    case hy13 => (intro wz hSw; (try dsimp only at hSw); first | (go_simp; done) | (go_simp; with_reducible rfl))
                    try simp only [Act.put, List.getElem_toArray, List.getElem_cons_succ, List.getElem_cons_zero, List.setIfInBounds_toArray, List.set_cons_zero, List.set_cons_succ]
                    refine wpAnyH_take (i := 3) (v := ?v14) rfl (by kernel_rfl) (by kernel_rfl) (by kernel_rfl) (fun _ _ _ h => h) (Or.inl ⟨by rfl, ?hy14⟩) (by assumption) ?rest14
                    case hy14 => (intro wz hSw; (try dsimp only at hSw); first | (go_simp; done) | (go_simp; with_reducible rfl))
                    try simp only [Act.put, List.getElem_toArray, List.getElem_cons_succ, List.getElem_cons_zero, List.setIfInBounds_toArray, List.set_cons_zero, List.set_cons_succ]
                    refine wpAnyH_take (i := 4) (v := ?v15) rfl (by kernel_rfl) (by kernel_rfl) (by kernel_rfl) (fun _ _ _ h => h) (Or.inl ⟨by rfl, ?hy15⟩) (by assumption) ?rest15
                    case hy15 => (intro wz hSw; (try dsimp only at hSw); first | (go_simp; done) | (go_simp; with_reducible rfl))
                    try simp only [Act.put, List.getElem_toArray, List.getElem_cons_succ, List.getElem_cons_zero, List.setIfInBounds_toArray, List.set_cons_zero, List.set_cons_succ]
                    refine wpAnyH_take (i := 5) (v := ?v16) rfl (by kernel_rfl) (by kernel_rfl) (by kernel_rfl) (fun _ _ _ h => h) (Or.inl ⟨by rfl, ?hy16⟩) (by assumption) ?rest16
                    case hy16 => (intro wz hSw; (try dsimp only at hSw); first | (go_simp; done) | (go_simp; with_reducible rfl))
                    try simp only [Act.put, List.getElem_toArray, List.getElem_cons_succ, List.getElem_cons_zero, List.setIfInBounds_toArray, List.set_cons_zero, List.set_cons_succ]
                    refine wpAnyH_take (i := 6) (v := ?v17) rfl (by kernel_rfl) (by kernel_rfl) (by kernel_rfl) (fun _ _ _ h => h) (Or.inl ⟨by rfl, ?hy17⟩) (by assumption) ?rest17
                    case hy17 => (intro wz hSw; (try dsimp only at hSw); first | (go_simp; done) | (go_simp; with_reducible rfl))
                    try simp only [Act.put, List.getElem_toArray, List.getElem_cons_succ, List.getElem_cons_zero, List.setIfInBounds_toArray, List.set_cons_zero, List.set_cons_succ]
                    refine wpAnyH_take (i := 7) (v := ?v18) rfl (by kernel_rfl) (by kernel_rfl) (by kernel_rfl) (fun _ _ _ h => h) (Or.inl ⟨by rfl, ?hy18⟩) (by assumption) ?rest18
                    case hy18 => (intro wz hSw; (try dsimp only at hSw); first | (go_simp; done) | (go_simp; with_reducible rfl))
                    try simp only [Act.put, List.getElem_toArray, List.getElem_cons_succ, List.getElem_cons_zero, List.setIfInBounds_toArray, List.set_cons_zero, List.set_cons_succ]
                    refine wpAnyH_ready (rs := [8]) (by kernel_rfl) (by simp) ?_
                    refine AllReadyH.cons (o := _) rfl (fun K hK => ?_) AllReadyH.nil
                    go_simp
                    (with_reducible refine (MK.out _).mono ?_)
                    rintro e qhw1 ⟨rfl, g⟩
                    have QH1 := Lib.hid (gb_trans QH0.out g)
                    clear g
                    try dsimp only
                    refine hK.out _ _ (KR.out _ QH1.out) (fun hH1 => ?_)
                    clear hK K hH0
                    try simp only [Act.put, List.getElem_toArray, List.getElem_cons_succ, List.getElem_cons_zero, List.setIfInBounds_toArray, List.set_cons_zero, List.set_cons_succ]
                    refine wpAnyH_take (i := 9) (v := ?v19) rfl (by kernel_rfl) (by kernel_rfl) (by kernel_rfl) (fun _ _ _ h => h) (Or.inl ⟨by rfl, ?hy19⟩) (by assumption) ?rest19
                    case hy19 => (intro wz hSw; (try dsimp only at hSw); first | (go_simp; done) | (go_simp; with_reducible rfl))
                    try simp only [Act.put, List.getElem_toArray, List.getElem_cons_succ, List.getElem_cons_zero, List.setIfInBounds_toArray, List.set_cons_zero, List.set_cons_succ]
                    refine wpAnyH_take (i := 10) (v := ?v20) rfl (by kernel_rfl) (by kernel_rfl) (by kernel_rfl) (fun _ _ _ h => h) (Or.inl ⟨by rfl, ?hy20⟩) (by assumption) ?rest20
                    case hy20 => (intro wz hSw; (try dsimp only at hSw); first | (go_simp; done) | (go_simp; with_reducible rfl))
                    try simp only [Act.put, List.getElem_toArray, List.getElem_cons_succ, List.getElem_cons_zero, List.setIfInBounds_toArray, List.set_cons_zero, List.set_cons_succ]
                    refine wpAnyH_done (by kernel_rfl) ?_ _
                    clear hH1
                    have GJ := Lib.hid (gb_trans G.out QH1.out)
                    have J3 := QH1.out.cell J2 (by simp)
                    have ne : (kb != bits .and .u32 (q2 : Int) mk) = false := by rw [W.out]; simp
                    go_wp2
                    go_roundw
                    case rel => exact ⟨j + 1, by omega, by first | rfl | (congr 1), GJ.out⟩
                    case measure => simp [intOf]; omega
                  · have x2 : (ff == (m : Int)) = false := by rw [beq_eq_false_iff_ne]; exact e2
                    have W := Lib.hid (YO.out (fun q => e2 q.2))
                    have ne : (kb != kf) = false := by rw [W.out]; simp
                    clear e1 e2
                    go_wp2
                    exact ⟨⟨j + 1, by omega, by simp, G.out⟩, by show Y.kn - ((j : Int) + 1).toNat < Y.kn - (j : Int).toNat; omega⟩
                · have x1 : (hh == -1) = false := by rw [beq_eq_false_iff_ne]; exact e1
                  have W := Lib.hid (YO.out (fun q => e1 q.1))
                  have ne : (kb != kf) = false := by rw [W.out]; simp
                  clear e1
                  go_wp2
                  exact ⟨⟨j + 1, by omega, by simp, G.out⟩, by show Y.kn - ((j : Int) + 1).toNat < Y.kn - (j : Int).toNat; omega⟩
              · have i1 : ¬ (j : Int) < Y.kn := by omega
                have GL := Lib.hid (gb_trans GX.out G.out)
                go_wp2_with fail
                refine (works_any _).mono ?_
                rintro e wz ⟨rfl, g⟩
                have GZ := Lib.hid (gb_trans GL.out g)
                clear g
                go_wp2
                go_ret
                exact ⟨rfl, gb_trans G1.out GZ.out⟩
end Go.Proofs.Ytaiemcpkiegdiaa
