/- Entries: the check of the keys and of an entry, in the program; no condition but sizes. -/
import Derived.Test.YtgdefahnmgonlaaEnF
import Derived.Test.YtgdefahnmgonlaaTbK
import Derived.Test.YtgdefahnmgonlaaTbN
import Derived.Deep.QuietTactic
import Derived.BigQuiet
namespace Go.Proofs.Ytgdefahnmgonlaa
open Go.RowKit
set_option linter.unusedVariables false
/-- The first number that is not 0. -/
def fstV (g : Nat → Int) (n : Nat) : Int := match fstE g n with
  | none => 0
  | some j => g j
theorem fstV_no {g : Nat → Int} {n : Nat} (h : ∀ i, i < n → g i = 0) : fstV g n = 0 := by unfold fstV; rw [fst_none h]
theorem fstV_at {g : Nat → Int} {n j : Nat} (hj : j < n) (h : g j ≠ 0) (b : ∀ i, i < j → g i = 0) : fstV g n = g j := by unfold fstV; rw [fst_some hj h b]
def ckL (ks : List TKy) (ws : List Int) (xs : List Km) : Int := if xs.length = ks.length then fstV (fun i => ckE (xs.getD i kmz) (ks.getD i tkz).k (ws.getD i 0)) xs.length else 2
theorem ok_tabV {P : Pg} {k : Nat} (h : okT P (k : Int) = true) : tabV P (k : Int) = P.T.getD k tbz := by unfold tabV; rw [if_pos h, Int.toNat_natCast]
set_option maxRecDepth 100000 in
set_option maxHeartbeats 20000000 in
theorem pckl_any (w : World) (X : PX) (P : Pg) (hp : SP w X P) (hz : szT P) (k : Nat) (hk : k < X.tn) (ok : okT P (k : Int) = true) (xa : Option Addr) (xn xc : Nat) (xs : List Km) (hx : SKm w xa xn xc xs) : Calls Try.prog 26 #[.agg #[.string X.nm, .slice X.ha X.hn X.hc, .slice X.ma X.mn X.mc, .slice X.ra X.rn X.rc, .slice X.aa X.an X.ac, .slice X.ta X.tn X.tc, .slice X.sa X.sn X.sc, .slice X.ca X.cn X.cc, .slice X.da X.dn X.dc], .int .i64 k, .slice xa xn xc] w (RetV (.int .i64 (ckL (P.T.getD k tbz).ks (wsT P.H P.M (P.T.getD k tbz).ks) xs)) w) := by
  have HP := Lib.hid hp
  have HZ := Lib.hid hz
  have HX := Lib.hid hx
  have XL := Lib.hid (show xs.length = xn from hx.len)
  have TL := Lib.hid (show P.T.length = X.tn from hp.t.len)
  obtain ⟨R, hR⟩ : ∃ R, R = ckL (P.T.getD k tbz).ks (wsT P.H P.M (P.T.getD k tbz).ks) xs := ⟨_, rfl⟩
  have HR := Lib.hid hR
  rw [← hR]
  unfold ckL at HR
  have WC := fun (W : World) (g : w.grownBy W none) => pwidths_any W X P (hp.keep0 g) hz (k : Int)
  rw [ok_tabV ok] at WC
  have WL := Lib.hid (ws_len P.H P.M (P.T.getD k tbz).ks)
  have WR := Lib.hid (fun x hx => show -9223372036854775808 ≤ x ∧ x ≤ 9223372036854775807 by have := ws_rng P.H P.M (P.T.getD k tbz).ks x hx; omega)
  obtain ⟨tad, hta⟩ := hp.t.some (by omega)
  obtain ⟨Y0, st, x0, x1, x2, x3, x4, x5⟩ := hp.tab hk hta
  have KN := Lib.hid (show Y0.kn ≤ 1000 from (hz.at_ (X := X) (by rw [hp.t.len]; exact hk) st).1)
  have KL := Lib.hid (show (P.T.getD k tbz).ks.length = Y0.kn from st.k.len)
  have SK := Lib.hid st.k
  have X1 := Lib.hid x1
  generalize wsT P.H P.M (P.T.getD k tbz).ks = ws at *
  generalize (P.T.getD k tbz).ks = ks at *
  simp only [hta] at WC
  have HTA := Lib.hid hta
  replace WC := Lib.hid WC
  have G2 := Lib.hid (gb_alloc w (.cells #[.string X.nm, .slice X.ha X.hn X.hc, .slice X.ma X.mn X.mc, .slice X.ra X.rn X.rc, .slice X.aa X.an X.ac, .slice X.ta X.tn X.tc, .slice X.sa X.sn X.sc, .slice X.ca X.cn X.cc, .slice X.da X.dn X.dc] 31) none)
  have B1 := IsB.new w 31 #[.string X.nm, .slice X.ha X.hn X.hc, .slice X.ma X.mn X.mc, .slice X.ra X.rn X.rc, .slice X.aa X.an X.ac, .slice X.ta X.tn X.tc, .slice X.sa X.sn X.sc, .slice X.ca X.cn X.cc, .slice X.da X.dn X.dc]
  replace B1 := Lib.hid B1
  clear hp hz hx hR ok hta x0 x1 x2 x3 x4 x5 st
  go_enter Try.func26, Try.ntmps26
  have k0 : (0 : Int) ≤ (k : Int) := by omega
  have k1 : (k : Int) < X.tn := by omega
  go_upto_region 1 with fail
  generalize w.alloc (.cells #[.string X.nm, .slice X.ha X.hn X.hc, .slice X.ma X.mn X.mc, .slice X.ra X.rn X.rc, .slice X.aa X.an X.ac, .slice X.ta X.tn X.tc, .slice X.sa X.sn X.sc, .slice X.ca X.cn X.cc, .slice X.da X.dn X.dc] 31) = w2 at *
  obtain ⟨bx, hbx⟩ : ∃ b, b = w.heap.size := ⟨_, rfl⟩
  have Lbx := Lib.hid (show w.heap.size ≤ bx by rw [hbx]; exact Nat.le_refl _)
  rw [← hbx] at B1 ⊢
  clear hbx
  replace HX := Lib.hid (HX.out.keep0SKm G2.out)
  replace SK := Lib.hid (SK.out.keep0SKy G2.out)
  replace X1 := Lib.hid (show w2.cell? _ = _ from G2.out.cell X1.out (by simp))
  replace WC := Lib.hid (fun (W : World) (g : w2.grownBy W none) => WC.out W (gb_trans G2.out g))
  have KQ := Lib.hid (fun (w' : World) (q0 : w2.grownBy w' none) => (⟨(B1.out.keep0 q0).cell 0, (B1.out.keep0 q0).cell 1, (B1.out.keep0 q0).cell 2, (B1.out.keep0 q0).cell 3, (B1.out.keep0 q0).cell 4, (by have := (B1.out.keep0 q0).cell 5; dsimp at this; rw [HTA.out] at this; exact this), (B1.out.keep0 q0).cell 6, (B1.out.keep0 q0).cell 7, (B1.out.keep0 q0).cell 8, q0.cell X1.out (by simp), q0⟩ : (fun w' : World => w'.cell? ⟨bx, 0, none⟩ = some (.string X.nm) ∧ w'.cell? ⟨bx, 1, none⟩ = some (.slice X.ha X.hn X.hc) ∧ w'.cell? ⟨bx, 2, none⟩ = some (.slice X.ma X.mn X.mc) ∧ w'.cell? ⟨bx, 3, none⟩ = some (.slice X.ra X.rn X.rc) ∧ w'.cell? ⟨bx, 4, none⟩ = some (.slice X.aa X.an X.ac) ∧ w'.cell? ⟨bx, 5, none⟩ = some (.slice (some tad) X.tn X.tc) ∧ w'.cell? ⟨bx, 6, none⟩ = some (.slice X.sa X.sn X.sc) ∧ w'.cell? ⟨bx, 7, none⟩ = some (.slice X.ca X.cn X.cc) ∧ w'.cell? ⟨bx, 8, none⟩ = some (.slice X.da X.dn X.dc) ∧ w'.cell? ⟨(tad.add (k * 6)).block, (tad.add (k * 6)).off + 1, none⟩ = some (.slice Y0.ka Y0.kn Y0.kc) ∧ w2.grownBy w' none) w'))
  have Q0 := Lib.hid (gb_drew w2 none)
  refine wp_region_held_drew (S := (fun w' : World => w'.cell? ⟨bx, 0, none⟩ = some (.string X.nm) ∧ w'.cell? ⟨bx, 1, none⟩ = some (.slice X.ha X.hn X.hc) ∧ w'.cell? ⟨bx, 2, none⟩ = some (.slice X.ma X.mn X.mc) ∧ w'.cell? ⟨bx, 3, none⟩ = some (.slice X.ra X.rn X.rc) ∧ w'.cell? ⟨bx, 4, none⟩ = some (.slice X.aa X.an X.ac) ∧ w'.cell? ⟨bx, 5, none⟩ = some (.slice (some tad) X.tn X.tc) ∧ w'.cell? ⟨bx, 6, none⟩ = some (.slice X.sa X.sn X.sc) ∧ w'.cell? ⟨bx, 7, none⟩ = some (.slice X.ca X.cn X.cc) ∧ w'.cell? ⟨bx, 8, none⟩ = some (.slice X.da X.dn X.dc) ∧ w'.cell? ⟨(tad.add (k * 6)).block, (tad.add (k * 6)).off + 1, none⟩ = some (.slice Y0.ka Y0.kn Y0.kc) ∧ w2.grownBy w' none)) (by kernel_rfl) (KQ.out _ Q0.out) (fun hH0 => ?_)
  refine wpAnyH_take (i := 0) (v := ?v97) rfl (by kernel_rfl) (by kernel_rfl) (by kernel_rfl) (fun _ _ _ h => h) (Or.inl ⟨by rfl, ?hy97⟩) (by assumption) ?rest97
  case hy97 => (intro wz hSw; (try dsimp only at hSw); first | (go_simp; done) | (go_simp; with_reducible rfl))
  try simp only [Act.put, List.getElem_toArray, List.getElem_cons_zero, List.setIfInBounds_toArray, List.set_cons_zero, List.set_cons_succ]
  refine wpAnyH_take (i := 1) (v := ?v98) rfl (by kernel_rfl) (by kernel_rfl) (by kernel_rfl) (fun _ _ _ h => h) (Or.inl ⟨by rfl, ?hy98⟩) (by assumption) ?rest98
  case hy98 => (intro wz hSw; (try dsimp only at hSw); first | (go_simp; done) | (go_simp; with_reducible rfl))
  try simp only [Act.put, List.getElem_toArray, List.getElem_cons_succ, List.getElem_cons_zero, List.setIfInBounds_toArray, List.set_cons_zero, List.set_cons_succ]
  refine wpAnyH_take (i := 2) (v := ?v99) rfl (by kernel_rfl) (by kernel_rfl) (by kernel_rfl) (fun _ _ _ h => h) (Or.inl ⟨by rfl, ?hy99⟩) (by assumption) ?rest99
  case hy99 => (intro wz hSw; (try dsimp only at hSw); first | (go_simp; done) | (go_simp; with_reducible rfl))
  try simp only [Act.put, List.getElem_toArray, List.getElem_cons_succ, List.getElem_cons_zero, List.setIfInBounds_toArray, List.set_cons_zero, List.set_cons_succ]
  refine wpAnyH_take (i := 3) (v := ?v100) rfl (by kernel_rfl) (by kernel_rfl) (by kernel_rfl) (fun _ _ _ h => h) (Or.inl ⟨by rfl, ?hy100⟩) (by assumption) ?rest100
  case hy100 => (intro wz hSw; (try dsimp only at hSw); first | (go_simp; done) | (go_simp; with_reducible rfl))
  try simp only [Act.put, List.getElem_toArray, List.getElem_cons_succ, List.getElem_cons_zero, List.setIfInBounds_toArray, List.set_cons_zero, List.set_cons_succ]
  refine wpAnyH_take (i := 4) (v := ?v101) rfl (by kernel_rfl) (by kernel_rfl) (by kernel_rfl) (fun _ _ _ h => h) (Or.inl ⟨by rfl, ?hy101⟩) (by assumption) ?rest101
  case hy101 => (intro wz hSw; (try dsimp only at hSw); first | (go_simp; done) | (go_simp; with_reducible rfl))
  try simp only [Act.put, List.getElem_toArray, List.getElem_cons_succ, List.getElem_cons_zero, List.setIfInBounds_toArray, List.set_cons_zero, List.set_cons_succ]
  refine wpAnyH_take (i := 5) (v := ?v102) rfl (by kernel_rfl) (by kernel_rfl) (by kernel_rfl) (fun _ _ _ h => h) (Or.inl ⟨by rfl, ?hy102⟩) (by assumption) ?rest102
  case hy102 => (intro wz hSw; (try dsimp only at hSw); first | (go_simp; done) | (go_simp; with_reducible rfl))
  try simp only [Act.put, List.getElem_toArray, List.getElem_cons_succ, List.getElem_cons_zero, List.setIfInBounds_toArray, List.set_cons_zero, List.set_cons_succ]
  refine wpAnyH_take (i := 6) (v := ?v103) rfl (by kernel_rfl) (by kernel_rfl) (by kernel_rfl) (fun _ _ _ h => h) (Or.inl ⟨by rfl, ?hy103⟩) (by assumption) ?rest103
  case hy103 => (intro wz hSw; (try dsimp only at hSw); first | (go_simp; done) | (go_simp; with_reducible rfl))
  try simp only [Act.put, List.getElem_toArray, List.getElem_cons_succ, List.getElem_cons_zero, List.setIfInBounds_toArray, List.set_cons_zero, List.set_cons_succ]
  refine wpAnyH_take (i := 7) (v := ?v104) rfl (by kernel_rfl) (by kernel_rfl) (by kernel_rfl) (fun _ _ _ h => h) (Or.inl ⟨by rfl, ?hy104⟩) (by assumption) ?rest104
  case hy104 => (intro wz hSw; (try dsimp only at hSw); first | (go_simp; done) | (go_simp; with_reducible rfl))
  try simp only [Act.put, List.getElem_toArray, List.getElem_cons_succ, List.getElem_cons_zero, List.setIfInBounds_toArray, List.set_cons_zero, List.set_cons_succ]
  refine wpAnyH_ready (rs := [8]) (by kernel_rfl) (by simp) ?_
  refine AllReadyH.cons (o := _) rfl (fun K hK => ?_) AllReadyH.nil
  go_simp
  (with_reducible refine (WC.out _ Q0.out).mono ?_)
  rintro e qw1 ⟨ia, ic, rfl, nl, g⟩
  have IA := Lib.hid (nl.si rfl WR.out)
  clear nl
  have Q1 := Lib.hid (gb_trans Q0.out g)
  clear g
  try dsimp only
  refine hK.out _ _ (KQ.out _ Q1.out) (fun hH1 => ?_)
  clear hK K hH0
  try simp only [Act.put, List.getElem_toArray, List.getElem_cons_succ, List.getElem_cons_zero, List.setIfInBounds_toArray, List.set_cons_zero, List.set_cons_succ]
  refine wpAnyH_take (i := 9) (v := ?v105) rfl (by kernel_rfl) (by kernel_rfl) (by kernel_rfl) (fun _ _ _ h => h) (Or.inl ⟨by rfl, ?hy105⟩) (by assumption) ?rest105
  case hy105 => (intro wz hSw; (try dsimp only at hSw); first | (go_simp; done) | (go_simp; with_reducible rfl))
  try simp only [Act.put, List.getElem_toArray, List.getElem_cons_succ, List.getElem_cons_zero, List.setIfInBounds_toArray, List.set_cons_zero, List.set_cons_succ]
  refine wpAnyH_take (i := 10) (v := ?v106) rfl (by kernel_rfl) (by kernel_rfl) (by kernel_rfl) (fun _ _ _ h => h) (Or.inl ⟨by rfl, ?hy106⟩) (by assumption) ?rest106
  case hy106 => (intro wz hSw; (try dsimp only at hSw); first | (go_simp; done) | (go_simp; with_reducible rfl))
  try simp only [Act.put, List.getElem_toArray, List.getElem_cons_succ, List.getElem_cons_zero, List.setIfInBounds_toArray, List.set_cons_zero, List.set_cons_succ]
  refine wpAnyH_done (by kernel_rfl) ?_ _
  clear hH1
  have G3 := Lib.hid Q1.out
  have HX3 := Lib.hid (HX.out.keep0SKm G3.out)
  have SK3 := Lib.hid (SK.out.keep0SKy G3.out)
  clear HX SK WC X1 KQ HP
  rw [WL.out, KL.out] at IA ⊢
  obtain ⟨w3, hw3⟩ : ∃ W, W = qw1 := ⟨_, rfl⟩
  rw [← hw3] at IA G3 HX3 SK3 ⊢
  clear hw3
  by_cases hl : xn = Y0.kn
  · have HL := Lib.hid hl
    have hl2 : ((xn : Int) != Y0.kn) = false := by rw [bne_eq_false_iff_eq]; omega
    clear hl
    rw [if_pos (by rw [XL.out, KL.out]; exact HL.out), XL.out] at HR
    go_wp2
    go_loopw [28] (fun i wr => ∃ j : Nat, j ≤ xn ∧ i = .int .i64 j ∧ (∀ i, i < j → ckE (xs.getD i kmz) (ks.getD i tkz).k (ws.getD i 0) = 0) ∧ w3.grownBy wr none) (fun i _ => xn - (intOf i).toNat)
    case atStart => exact ⟨0, Nat.zero_le _, rfl, (fun i hi => absurd hi (Nat.not_lt_zero _)), gb_refl _ _⟩
    case round =>
      obtain ⟨j, hj, rfl, hb, hg⟩ := hrel
      have HB := Lib.hid hb
      have G := Lib.hid hg
      clear hb hg
      by_cases hlt : j < xn
      · have i1 : (j : Int) < xn := by omega
        have i0 : (0 : Int) ≤ (j : Int) := by omega
        have i2 : (j : Int) < Y0.kn := by have := HL.out; omega
        have hw : IntKind.i64.wrap ((j : Int) + 1) = ((j + 1 : Nat) : Int) := by have := KN.out; have := HL.out; rw [IntKind.wrap_i64]; omega
        obtain ⟨xad, hxd⟩ := HX3.out.some (by omega)
        obtain ⟨kad, hkd⟩ := SK3.out.some (by omega)
        obtain ⟨iad, hid⟩ := IA.out.some (by omega)
        obtain ⟨⟨y0, v0, v1⟩, y1, m0, m1⟩ := (HX3.out.keep0SKm G.out).cells xad hxd j hlt
        have Z2 := Lib.hid ((SK3.out.keep0SKy G.out).cells kad hkd j (by omega)).2.2
        have I2 := Lib.hid ((IA.out.keep0 G.out).cells iad hid j (by omega))
        have CK := Lib.hid (fun W => pck_any W (xs.getD j kmz) (ks.getD j tkz).k (ws.getD j 0) v0 v1 m0 m1)
        have AN := Lib.hid (fun (q : ckE (xs.getD j kmz) (ks.getD j tkz).k (ws.getD j 0) ≠ 0) => show R = ckE (xs.getD j kmz) (ks.getD j tkz).k (ws.getD j 0) by rw [HR.out]; exact fstV_at (g := fun i => ckE (xs.getD i kmz) (ks.getD i tkz).k (ws.getD i 0)) hlt q HB.out)
        have NX := Lib.hid (fun (q : ckE (xs.getD j kmz) (ks.getD j tkz).k (ws.getD j 0) = 0) => (fun i hi => by rcases (show i < j ∨ i = j by omega) with r | rfl; exact HB.out i r; exact q : ∀ i, i < j + 1 → ckE (xs.getD i kmz) (ks.getD i tkz).k (ws.getD i 0) = 0))
        clear v0 v1 m0 m1
        generalize ckE (xs.getD j kmz) (ks.getD j tkz).k (ws.getD j 0) = ce at *
        generalize (xs.getD j kmz).v = mv at *
        generalize (xs.getD j kmz).m = mm at *
        generalize (ks.getD j tkz).k = kk at *
        generalize ws.getD j 0 = wd at *
        rw [hxd, hkd, hid]
        have GK := Lib.hid (gb_alloc wr (.cells #[.int .u32 mv, .int .u32 mm] 57) none)
        have BK := IsB.new wr 57 #[.int .u32 mv, .int .u32 mm]
        replace BK := Lib.hid BK
        go_upto_region 7 with fail
        generalize wr.alloc (.cells #[.int .u32 mv, .int .u32 mm] 57) = w5 at *
        obtain ⟨bk, hbk⟩ : ∃ b, b = wr.heap.size := ⟨_, rfl⟩
        have Lbk := Lib.hid (show wr.heap.size ≤ bk by rw [hbk]; exact Nat.le_refl _)
        rw [← hbk] at BK ⊢
        clear hbk
        have G5 := Lib.hid (gb_trans G.out GK.out)
        replace Z2 := Lib.hid (show w5.cell? _ = _ from GK.out.cell Z2.out (by simp))
        replace I2 := Lib.hid (show w5.cell? _ = _ from GK.out.cell I2.out (by simp))
        clear y0 y1
        have KQ := Lib.hid (fun (w' : World) (q0 : w5.grownBy w' none) => (⟨(BK.out.keep0 q0).cell 0, (BK.out.keep0 q0).cell 1, q0.cell Z2.out (by simp), q0.cell I2.out (by simp), q0⟩ : (fun w' : World => w'.cell? ⟨bk, 0, none⟩ = some (.int .u32 mv) ∧ w'.cell? ⟨bk, 1, none⟩ = some (.int .u32 mm) ∧ w'.cell? ⟨(kad.add (j * 3)).block, (kad.add (j * 3)).off + 2, none⟩ = some (.int .i64 kk) ∧ w'.cell? (iad.add j) = some (.int .i64 wd) ∧ w5.grownBy w' none) w'))
        have Q0 := Lib.hid (gb_drew w5 none)
        refine wp_region_held_drew (S := (fun w' : World => w'.cell? ⟨bk, 0, none⟩ = some (.int .u32 mv) ∧ w'.cell? ⟨bk, 1, none⟩ = some (.int .u32 mm) ∧ w'.cell? ⟨(kad.add (j * 3)).block, (kad.add (j * 3)).off + 2, none⟩ = some (.int .i64 kk) ∧ w'.cell? (iad.add j) = some (.int .i64 wd) ∧ w5.grownBy w' none)) (by kernel_rfl) (KQ.out _ Q0.out) (fun hH0 => ?_)
        refine wpAnyH_take (i := 0) (v := ?v107) rfl (by kernel_rfl) (by kernel_rfl) (by kernel_rfl) (fun _ _ _ h => h) (Or.inl ⟨by rfl, ?hy107⟩) (by assumption) ?rest107
        case hy107 => (intro wz hSw; (try dsimp only at hSw); first | (go_simp; done) | (go_simp; with_reducible rfl))
        try simp only [Act.put, List.getElem_toArray, List.getElem_cons_zero, List.setIfInBounds_toArray, List.set_cons_zero, List.set_cons_succ]
        refine wpAnyH_take (i := 1) (v := ?v108) rfl (by kernel_rfl) (by kernel_rfl) (by kernel_rfl) (fun _ _ _ h => h) (Or.inl ⟨by rfl, ?hy108⟩) (by assumption) ?rest108
        case hy108 => (intro wz hSw; (try dsimp only at hSw); first | (go_simp; done) | (go_simp; with_reducible rfl))
        try simp only [Act.put, List.getElem_toArray, List.getElem_cons_succ, List.getElem_cons_zero, List.setIfInBounds_toArray, List.set_cons_zero, List.set_cons_succ]
        refine wpAnyH_take (i := 2) (v := ?v109) rfl (by kernel_rfl) (by kernel_rfl) (by kernel_rfl) (fun _ _ _ h => h) (Or.inl ⟨by rfl, ?hy109⟩) (by assumption) ?rest109
        case hy109 => (intro wz hSw; (try dsimp only at hSw); first | (go_simp; done) | (go_simp; with_reducible rfl))
        try simp only [Act.put, List.getElem_toArray, List.getElem_cons_succ, List.getElem_cons_zero, List.setIfInBounds_toArray, List.set_cons_zero, List.set_cons_succ]
        refine wpAnyH_take (i := 3) (v := ?v110) rfl (by kernel_rfl) (by kernel_rfl) (by kernel_rfl) (fun _ _ _ h => h) (Or.inl ⟨by rfl, ?hy110⟩) (by assumption) ?rest110
        case hy110 => (intro wz hSw; (try dsimp only at hSw); first | (go_simp; done) | (go_simp; with_reducible rfl))
        try simp only [Act.put, List.getElem_toArray, List.getElem_cons_succ, List.getElem_cons_zero, List.setIfInBounds_toArray, List.set_cons_zero, List.set_cons_succ]
        refine wpAnyH_take (i := 4) (v := ?v111) rfl (by kernel_rfl) (by kernel_rfl) (by kernel_rfl) (fun _ _ _ h => h) (Or.inl ⟨by rfl, ?hy111⟩) (by assumption) ?rest111
        case hy111 => (intro wz hSw; (try dsimp only at hSw); first | (go_simp; done) | (go_simp; with_reducible rfl))
        try simp only [Act.put, List.getElem_toArray, List.getElem_cons_succ, List.getElem_cons_zero, List.setIfInBounds_toArray, List.set_cons_zero, List.set_cons_succ]
        refine wpAnyH_take (i := 5) (v := ?v112) rfl (by kernel_rfl) (by kernel_rfl) (by kernel_rfl) (fun _ _ _ h => h) (Or.inl ⟨by rfl, ?hy112⟩) (by assumption) ?rest112
        case hy112 => (intro wz hSw; (try dsimp only at hSw); first | (go_simp; done) | (go_simp; with_reducible rfl))
        try simp only [Act.put, List.getElem_toArray, List.getElem_cons_succ, List.getElem_cons_zero, List.setIfInBounds_toArray, List.set_cons_zero, List.set_cons_succ]
        refine wpAnyH_take (i := 6) (v := ?v113) rfl (by kernel_rfl) (by kernel_rfl) (by kernel_rfl) (fun _ _ _ h => h) (Or.inl ⟨by rfl, ?hy113⟩) (by assumption) ?rest113
        case hy113 => (intro wz hSw; (try dsimp only at hSw); first | (go_simp; done) | (go_simp; with_reducible rfl))
        try simp only [Act.put, List.getElem_toArray, List.getElem_cons_succ, List.getElem_cons_zero, List.setIfInBounds_toArray, List.set_cons_zero, List.set_cons_succ]
        refine wpAnyH_take (i := 7) (v := ?v114) rfl (by kernel_rfl) (by kernel_rfl) (by kernel_rfl) (fun _ _ _ h => h) (Or.inl ⟨by rfl, ?hy114⟩) (by assumption) ?rest114
        case hy114 => (intro wz hSw; (try dsimp only at hSw); first | (go_simp; done) | (go_simp; with_reducible rfl))
        try simp only [Act.put, List.getElem_toArray, List.getElem_cons_succ, List.getElem_cons_zero, List.setIfInBounds_toArray, List.set_cons_zero, List.set_cons_succ]
        refine wpAnyH_take (i := 8) (v := ?v115) rfl (by kernel_rfl) (by kernel_rfl) (by kernel_rfl) (fun _ _ _ h => h) (Or.inl ⟨by rfl, ?hy115⟩) (by assumption) ?rest115
        case hy115 => (intro wz hSw; (try dsimp only at hSw); first | (go_simp; done) | (go_simp; with_reducible rfl))
        try simp only [Act.put, List.getElem_toArray, List.getElem_cons_succ, List.getElem_cons_zero, List.setIfInBounds_toArray, List.set_cons_zero, List.set_cons_succ]
        refine wpAnyH_take (i := 9) (v := ?v116) rfl (by kernel_rfl) (by kernel_rfl) (by kernel_rfl) (fun _ _ _ h => h) (Or.inl ⟨by rfl, ?hy116⟩) (by assumption) ?rest116
        case hy116 => (intro wz hSw; (try dsimp only at hSw); first | (go_simp; done) | (go_simp; with_reducible rfl))
        try simp only [Act.put, List.getElem_toArray, List.getElem_cons_succ, List.getElem_cons_zero, List.setIfInBounds_toArray, List.set_cons_zero, List.set_cons_succ]
        refine wpAnyH_ready (rs := [10]) (by kernel_rfl) (by simp) ?_
        refine AllReadyH.cons (o := _) rfl (fun K hK => ?_) AllReadyH.nil
        go_simp
        (with_reducible refine (CK.out _).mono ?_)
        rintro e qw1 ⟨rfl, g⟩
        have Q1 := Lib.hid (gb_trans Q0.out g)
        clear g
        try dsimp only
        refine hK.out _ _ (KQ.out _ Q1.out) (fun hH1 => ?_)
        clear hK K hH0
        try simp only [Act.put, List.getElem_toArray, List.getElem_cons_succ, List.getElem_cons_zero, List.setIfInBounds_toArray, List.set_cons_zero, List.set_cons_succ]
        refine wpAnyH_take (i := 11) (v := ?v117) rfl (by kernel_rfl) (by kernel_rfl) (by kernel_rfl) (fun _ _ _ h => h) (Or.inl ⟨by rfl, ?hy117⟩) (by assumption) ?rest117
        case hy117 => (intro wz hSw; (try dsimp only at hSw); first | (go_simp; done) | (go_simp; with_reducible rfl))
        try simp only [Act.put, List.getElem_toArray, List.getElem_cons_succ, List.getElem_cons_zero, List.setIfInBounds_toArray, List.set_cons_zero, List.set_cons_succ]
        refine wpAnyH_done (by kernel_rfl) ?_ _
        clear hH1
        have GJ := Lib.hid (gb_trans G5.out Q1.out)
        by_cases c0 : ce = 0
        · have ce0 : (ce != 0) = false := by rw [c0]; rfl
          have N2 := Lib.hid (NX.out c0)
          clear c0
          go_wp2
          exact ⟨⟨j + 1, by omega, by simp, N2.out, GJ.out⟩, by show xn - ((j : Int) + 1).toNat < xn - (j : Int).toNat; omega⟩
        · have ce0 : (ce != 0) = true := by rw [bne_iff_ne]; exact c0
          have RF := Lib.hid (AN.out c0)
          clear c0
          go_wp2
          go_ret
          exact ⟨by rw [RF.out]; rfl, gb_trans G2.out (gb_trans G3.out GJ.out)⟩
      · have i1 : ¬ (j : Int) < xn := by omega
        have RT := Lib.hid (show R = 0 by rw [HR.out]; exact fstV_no (fun i hi => HB.out i (by omega)))
        go_wp2
        go_ret
        exact ⟨by rw [RT.out]; rfl, gb_trans G2.out (gb_trans G3.out G.out)⟩
  · have hl2 : ((xn : Int) != Y0.kn) = true := by rw [bne_iff_ne]; intro e; exact hl (by omega)
    have RF := Lib.hid (show R = 2 by rw [HR.out, if_neg (by rw [XL.out, KL.out]; exact hl)])
    go_wp2
    go_ret
    exact ⟨by rw [RF.out]; rfl, gb_trans G2.out G3.out⟩
end Go.Proofs.Ytgdefahnmgonlaa
