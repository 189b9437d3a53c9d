/- Entries: SameKey and Equal on both sides, what the law calls a small entry; no condition but sizes. -/
import Derived.Test.YtgdefahnmgonlaaEnB
namespace Go.Proofs.Ytgdefahnmgonlaa
open Go.RowKit
set_option linter.unusedVariables false
set_option maxRecDepth 100000 in
set_option maxHeartbeats 4000000 in
theorem psame_any (w : World) (Y Z : EX) (x y : En) (h : SE w Y x) (k : SE w Z y) (hn : Y.kn ≤ 1000) : Calls Try.prog 18 #[.agg #[.slice Y.ka Y.kn Y.kc, .int .i64 x.pr, .int .i64 x.ac, .slice Y.ra Y.rn Y.rc], .agg #[.slice Z.ka Z.kn Z.kc, .int .i64 y.pr, .int .i64 y.ac, .slice Z.ra Z.rn Z.rc]] w (RetV (.bool (samE x y)) w) := by
  have HE := Lib.hid h
  have HF := Lib.hid k
  have HN := Lib.hid hn
  obtain ⟨R, hR⟩ : ∃ R, R = samE x y := ⟨_, rfl⟩
  have HR := Lib.hid hR
  rw [← hR]
  have G2 := Lib.hid (gb_trans (gb_alloc w (.cells #[.slice Y.ka Y.kn Y.kc, .int .i64 x.pr, .int .i64 x.ac, .slice Y.ra Y.rn Y.rc] 37) none) (gb_alloc _ (.cells #[.slice Z.ka Z.kn Z.kc, .int .i64 y.pr, .int .i64 y.ac, .slice Z.ra Z.rn Z.rc] 37) none))
  have B1 := (IsB.new w 37 #[.slice Y.ka Y.kn Y.kc, .int .i64 x.pr, .int .i64 x.ac, .slice Y.ra Y.rn Y.rc]).alloc (.cells #[.slice Z.ka Z.kn Z.kc, .int .i64 y.pr, .int .i64 y.ac, .slice Z.ra Z.rn Z.rc] 37)
  have B2 := IsB.new (w.alloc (.cells #[.slice Y.ka Y.kn Y.kc, .int .i64 x.pr, .int .i64 x.ac, .slice Y.ra Y.rn Y.rc] 37)) 37 #[.slice Z.ka Z.kn Z.kc, .int .i64 y.pr, .int .i64 y.ac, .slice Z.ra Z.rn Z.rc]
  simp only [sz_al] at B2
  replace B1 := Lib.hid B1
  replace B2 := Lib.hid B2
  clear h k hn hR
  go_enter Try.func18, Try.ntmps18
  go_upto_region 1 with fail
  generalize (w.alloc (.cells #[.slice Y.ka Y.kn Y.kc, .int .i64 x.pr, .int .i64 x.ac, .slice Y.ra Y.rn Y.rc] 37)).alloc (.cells #[.slice Z.ka Z.kn Z.kc, .int .i64 y.pr, .int .i64 y.ac, .slice Z.ra Z.rn Z.rc] 37) = w2 at *
  obtain ⟨bx, hbx⟩ : ∃ b, b = w.heap.size := ⟨_, rfl⟩
  have Lbx := Lib.hid (show w.heap.size ≤ bx by rw [hbx]; exact Nat.le_refl _)
  rw [← hbx] at B1 B2 ⊢
  clear hbx
  replace HE := Lib.hid (HE.out.keep0 G2.out)
  replace HF := Lib.hid (HF.out.keep0 G2.out)
  have c0 := (B1.out.keep0 (gb_refl _ _)).cell 0
  have d0 := (B2.out.keep0 (gb_refl _ _)).cell 0
  have c1 := (B1.out.keep0 (gb_refl _ _)).cell 1
  have d1 := (B2.out.keep0 (gb_refl _ _)).cell 1
  have c2 := (B1.out.keep0 (gb_refl _ _)).cell 2
  have d2 := (B2.out.keep0 (gb_refl _ _)).cell 2
  have c3 := (B1.out.keep0 (gb_refl _ _)).cell 3
  have d3 := (B2.out.keep0 (gb_refl _ _)).cell 3
  dsimp at c0 d0 c1 d1 c2 d2 c3 d3
  unfold samE at HR
  have SK := Lib.hid (psamk_any w2 _ _ _ _ _ _ _ _ HE.out.k HF.out.k HN.out)
  generalize samK x.ks y.ks = b at *
  cases pe : x.pr == y.pr
  all_goals (
    have RE := Lib.hid (show R = (b && (x.pr == y.pr)) by rw [HR.out]; congr 1)
    rw [pe] at RE
    cases b
    all_goals (
      go_wp2_with fail
      refine SK.out.mono ?_
      rintro e w3 ⟨rfl, g⟩
      have G3 := Lib.hid (gb_trans G2.out g)
      clear c0 d0 c1 d1 c2 d2 c3 d3
      have c0 := (B1.out.keep0 g).cell 0
      have d0 := (B2.out.keep0 g).cell 0
      have c1 := (B1.out.keep0 g).cell 1
      have d1 := (B2.out.keep0 g).cell 1
      have c2 := (B1.out.keep0 g).cell 2
      have d2 := (B2.out.keep0 g).cell 2
      have c3 := (B1.out.keep0 g).cell 3
      have d3 := (B2.out.keep0 g).cell 3
      dsimp at c0 d0 c1 d1 c2 d2 c3 d3
      clear g
      go_wp2
      go_ret
      exact ⟨by rw [RE.out]; rfl, G3.out⟩))
set_option maxRecDepth 100000 in
set_option maxHeartbeats 4000000 in
theorem pequ_any (w : World) (Y Z : EX) (x y : En) (h : SE w Y x) (k : SE w Z y) (hn : Y.kn ≤ 1000) (hrn : Y.rn ≤ 1000) : Calls Try.prog 20 #[.agg #[.slice Y.ka Y.kn Y.kc, .int .i64 x.pr, .int .i64 x.ac, .slice Y.ra Y.rn Y.rc], .agg #[.slice Z.ka Z.kn Z.kc, .int .i64 y.pr, .int .i64 y.ac, .slice Z.ra Z.rn Z.rc]] w (RetV (.bool (eqE x y)) w) := by
  have HRN := Lib.hid hrn
  have HE := Lib.hid h
  have HF := Lib.hid k
  have HN := Lib.hid hn
  obtain ⟨R, hR⟩ : ∃ R, R = eqE x y := ⟨_, rfl⟩
  have HR := Lib.hid hR
  rw [← hR]
  have G2 := Lib.hid (gb_trans (gb_alloc w (.cells #[.slice Y.ka Y.kn Y.kc, .int .i64 x.pr, .int .i64 x.ac, .slice Y.ra Y.rn Y.rc] 37) none) (gb_alloc _ (.cells #[.slice Z.ka Z.kn Z.kc, .int .i64 y.pr, .int .i64 y.ac, .slice Z.ra Z.rn Z.rc] 37) none))
  have B1 := (IsB.new w 37 #[.slice Y.ka Y.kn Y.kc, .int .i64 x.pr, .int .i64 x.ac, .slice Y.ra Y.rn Y.rc]).alloc (.cells #[.slice Z.ka Z.kn Z.kc, .int .i64 y.pr, .int .i64 y.ac, .slice Z.ra Z.rn Z.rc] 37)
  have B2 := IsB.new (w.alloc (.cells #[.slice Y.ka Y.kn Y.kc, .int .i64 x.pr, .int .i64 x.ac, .slice Y.ra Y.rn Y.rc] 37)) 37 #[.slice Z.ka Z.kn Z.kc, .int .i64 y.pr, .int .i64 y.ac, .slice Z.ra Z.rn Z.rc]
  simp only [sz_al] at B2
  replace B1 := Lib.hid B1
  replace B2 := Lib.hid B2
  clear h k hn hR hrn
  go_enter Try.func20, Try.ntmps20
  go_upto_region 1 with fail
  generalize (w.alloc (.cells #[.slice Y.ka Y.kn Y.kc, .int .i64 x.pr, .int .i64 x.ac, .slice Y.ra Y.rn Y.rc] 37)).alloc (.cells #[.slice Z.ka Z.kn Z.kc, .int .i64 y.pr, .int .i64 y.ac, .slice Z.ra Z.rn Z.rc] 37) = w2 at *
  obtain ⟨bx, hbx⟩ : ∃ b, b = w.heap.size := ⟨_, rfl⟩
  have Lbx := Lib.hid (show w.heap.size ≤ bx by rw [hbx]; exact Nat.le_refl _)
  rw [← hbx] at B1 B2 ⊢
  clear hbx
  replace HE := Lib.hid (HE.out.keep0 G2.out)
  replace HF := Lib.hid (HF.out.keep0 G2.out)
  have c0 := (B1.out.keep0 (gb_refl _ _)).cell 0
  have d0 := (B2.out.keep0 (gb_refl _ _)).cell 0
  have c1 := (B1.out.keep0 (gb_refl _ _)).cell 1
  have d1 := (B2.out.keep0 (gb_refl _ _)).cell 1
  have c2 := (B1.out.keep0 (gb_refl _ _)).cell 2
  have d2 := (B2.out.keep0 (gb_refl _ _)).cell 2
  have c3 := (B1.out.keep0 (gb_refl _ _)).cell 3
  have d3 := (B2.out.keep0 (gb_refl _ _)).cell 3
  dsimp at c0 d0 c1 d1 c2 d2 c3 d3
  unfold eqE at HR
  have SK := Lib.hid (psame_any w2 Y Z x y HE.out HF.out HN.out)
  have SU := Lib.hid (fun (W : World) (g : w2.grownBy W none) (hn : Y.rn ≤ 1000) => psamu_any W _ _ _ _ _ _ _ _ (HE.out.r.keep0 g) (HF.out.r.keep0 g) hn)
  generalize samE x y = b at *
  generalize samU x.ar y.ar = u at *
  cases pe : x.ac == y.ac
  · have RE := Lib.hid (show R = (b && ((x.ac == y.ac) && u)) by rw [HR.out]; congr 1)
    rw [pe] at RE
    cases b
    all_goals (
      go_wp2_with fail
      refine SK.out.mono ?_
      rintro e w3 ⟨rfl, g⟩
      have G3 := Lib.hid (gb_trans G2.out g)
      clear c0 d0 c1 d1 c2 d2 c3 d3
      have c0 := (B1.out.keep0 g).cell 0
      have d0 := (B2.out.keep0 g).cell 0
      have c1 := (B1.out.keep0 g).cell 1
      have d1 := (B2.out.keep0 g).cell 1
      have c2 := (B1.out.keep0 g).cell 2
      have d2 := (B2.out.keep0 g).cell 2
      have c3 := (B1.out.keep0 g).cell 3
      have d3 := (B2.out.keep0 g).cell 3
      dsimp at c0 d0 c1 d1 c2 d2 c3 d3
      clear g
      go_wp2
      go_ret
      exact ⟨by rw [RE.out]; rfl, G3.out⟩)
  · have RE := Lib.hid (show R = (b && ((x.ac == y.ac) && u)) by rw [HR.out]; congr 1)
    rw [pe] at RE
    cases b
    · go_wp2_with fail
      refine SK.out.mono ?_
      rintro e w3 ⟨rfl, g⟩
      have G3 := Lib.hid (gb_trans G2.out g)
      clear c0 d0 c1 d1 c2 d2 c3 d3
      have c0 := (B1.out.keep0 g).cell 0
      have d0 := (B2.out.keep0 g).cell 0
      have c1 := (B1.out.keep0 g).cell 1
      have d1 := (B2.out.keep0 g).cell 1
      have c2 := (B1.out.keep0 g).cell 2
      have d2 := (B2.out.keep0 g).cell 2
      have c3 := (B1.out.keep0 g).cell 3
      have d3 := (B2.out.keep0 g).cell 3
      dsimp at c0 d0 c1 d1 c2 d2 c3 d3
      clear g
      go_wp2
      go_ret
      exact ⟨by rw [RE.out]; rfl, G3.out⟩
    · go_wp2_with fail
      refine SK.out.mono ?_
      rintro e w3 ⟨rfl, g⟩
      have GG := Lib.hid g
      have G3 := Lib.hid (gb_trans G2.out g)
      clear c0 d0 c1 d1 c2 d2 c3 d3
      have c0 := (B1.out.keep0 g).cell 0
      have d0 := (B2.out.keep0 g).cell 0
      have c1 := (B1.out.keep0 g).cell 1
      have d1 := (B2.out.keep0 g).cell 1
      have c2 := (B1.out.keep0 g).cell 2
      have d2 := (B2.out.keep0 g).cell 2
      have c3 := (B1.out.keep0 g).cell 3
      have d3 := (B2.out.keep0 g).cell 3
      dsimp at c0 d0 c1 d1 c2 d2 c3 d3
      clear g
      go_wp2_with fail
      refine (SU.out w3 GG.out HRN.out).mono ?_
      rintro e w4 ⟨rfl, g⟩
      have G4 := Lib.hid (gb_trans G3.out g)
      clear g
      go_wp2
      go_ret
      exact ⟨by rw [RE.out]; rfl, G4.out⟩
set_option maxRecDepth 100000 in
set_option maxHeartbeats 4000000 in
theorem rsame_any (w : World) (Y Z : EX) (x y : En) (h : SE w Y x) (k : SE w Z y) (hn : Y.kn ≤ 1000) : Calls Try.prog 19 #[.agg #[.slice Y.ka Y.kn Y.kc, .int .i64 x.pr, .int .i64 x.ac, .slice Y.ra Y.rn Y.rc], .agg #[.slice Z.ka Z.kn Z.kc, .int .i64 y.pr, .int .i64 y.ac, .slice Z.ra Z.rn Z.rc]] w (RetV (.bool (samE x y)) w) := by
  have HE := Lib.hid h
  have HF := Lib.hid k
  have HN := Lib.hid hn
  obtain ⟨R, hR⟩ : ∃ R, R = samE x y := ⟨_, rfl⟩
  have HR := Lib.hid hR
  rw [← hR]
  have G2 := Lib.hid (gb_trans (gb_alloc w (.cells #[.slice Y.ka Y.kn Y.kc, .int .i64 x.pr, .int .i64 x.ac, .slice Y.ra Y.rn Y.rc] 37) none) (gb_alloc _ (.cells #[.slice Z.ka Z.kn Z.kc, .int .i64 y.pr, .int .i64 y.ac, .slice Z.ra Z.rn Z.rc] 37) none))
  have B1 := (IsB.new w 37 #[.slice Y.ka Y.kn Y.kc, .int .i64 x.pr, .int .i64 x.ac, .slice Y.ra Y.rn Y.rc]).alloc (.cells #[.slice Z.ka Z.kn Z.kc, .int .i64 y.pr, .int .i64 y.ac, .slice Z.ra Z.rn Z.rc] 37)
  have B2 := IsB.new (w.alloc (.cells #[.slice Y.ka Y.kn Y.kc, .int .i64 x.pr, .int .i64 x.ac, .slice Y.ra Y.rn Y.rc] 37)) 37 #[.slice Z.ka Z.kn Z.kc, .int .i64 y.pr, .int .i64 y.ac, .slice Z.ra Z.rn Z.rc]
  simp only [sz_al] at B2
  replace B1 := Lib.hid B1
  replace B2 := Lib.hid B2
  clear h k hn hR
  go_enter Try.func19, Try.ntmps19
  go_upto_region 1 with fail
  generalize (w.alloc (.cells #[.slice Y.ka Y.kn Y.kc, .int .i64 x.pr, .int .i64 x.ac, .slice Y.ra Y.rn Y.rc] 37)).alloc (.cells #[.slice Z.ka Z.kn Z.kc, .int .i64 y.pr, .int .i64 y.ac, .slice Z.ra Z.rn Z.rc] 37) = w2 at *
  obtain ⟨bx, hbx⟩ : ∃ b, b = w.heap.size := ⟨_, rfl⟩
  have Lbx := Lib.hid (show w.heap.size ≤ bx by rw [hbx]; exact Nat.le_refl _)
  rw [← hbx] at B1 B2 ⊢
  clear hbx
  replace HE := Lib.hid (HE.out.keep0 G2.out)
  replace HF := Lib.hid (HF.out.keep0 G2.out)
  have c0 := (B1.out.keep0 (gb_refl _ _)).cell 0
  have d0 := (B2.out.keep0 (gb_refl _ _)).cell 0
  have c1 := (B1.out.keep0 (gb_refl _ _)).cell 1
  have d1 := (B2.out.keep0 (gb_refl _ _)).cell 1
  have c2 := (B1.out.keep0 (gb_refl _ _)).cell 2
  have d2 := (B2.out.keep0 (gb_refl _ _)).cell 2
  have c3 := (B1.out.keep0 (gb_refl _ _)).cell 3
  have d3 := (B2.out.keep0 (gb_refl _ _)).cell 3
  dsimp at c0 d0 c1 d1 c2 d2 c3 d3
  unfold samE at HR
  have HA := Lib.hid HE.out.k
  have HB := Lib.hid HF.out.k
  have AL := Lib.hid (show x.ks.length = Y.kn from HE.out.k.len)
  have BL_ := Lib.hid (show y.ks.length = Z.kn from HF.out.k.len)
  generalize x.ks = A at *
  generalize y.ks = B at *
  clear HE HF
  have RE := Lib.hid (show R = (samK A B && (x.pr == y.pr)) by rw [HR.out]; congr 1)
  clear HR
  by_cases hl : Y.kn = Z.kn
  · have HL := Lib.hid hl
    have hl2 : ((Y.kn : Int) != Z.kn) = false := by rw [bne_eq_false_iff_eq]; omega
    clear hl
    cases pe : x.pr == y.pr
    · have pn : (x.pr != y.pr) = true := by rw [bne, pe]; rfl
      rw [pe] at RE
      clear pe
      go_wp2
      go_ret
      exact ⟨by rw [RE.out, Bool.and_false]; rfl, G2.out⟩
    · have pn : (x.pr != y.pr) = false := by rw [bne, pe]; rfl
      rw [pe, Bool.and_true] at RE
      clear pe
      go_wp2
      clear c0 d0 c1 d1 c2 d2 c3 d3
      go_loopw [5] (fun i wr => ∃ j : Nat, j ≤ Y.kn ∧ i = .int .i64 j ∧ (∀ i, i < j → kmB (A.getD i kmz) (B.getD i kmz) = true) ∧ w2.grownBy wr none) (fun i _ => Y.kn - (intOf i).toNat)
      case atStart => exact ⟨0, Nat.zero_le _, rfl, (fun i hi => absurd hi (Nat.not_lt_zero _)), gb_refl _ _⟩
      case round =>
        obtain ⟨j, hj, rfl, hb, hg⟩ := hrel
        have HQ := Lib.hid hb
        have G := Lib.hid hg
        clear hb hg
        have c0 := (B1.out.keep0 G.out).cell 0
        have d0 := (B2.out.keep0 G.out).cell 0
        dsimp at c0 d0
        by_cases hlt : j < Y.kn
        · have i1 : (j : Int) < Y.kn := by omega
          have i0 : (0 : Int) ≤ (j : Int) := by omega
          have i2 : (j : Int) < Z.kn := by have := HL.out; omega
          have hw : IntKind.i64.wrap ((j : Int) + 1) = ((j + 1 : Nat) : Int) := by have := HN.out; rw [IntKind.wrap_i64]; omega
          obtain ⟨ad, had⟩ := HA.out.some (by omega)
          obtain ⟨bd, hbd⟩ := HB.out.some (by have := HL.out; omega)
          obtain ⟨⟨y0, _⟩, y1, _⟩ := (HA.out.keep0SKm G.out).cells ad had j hlt
          obtain ⟨⟨z0, _⟩, z1, _⟩ := (HB.out.keep0SKm G.out).cells bd hbd j (by have := HL.out; omega)
          have AN := Lib.hid (fun (q : kmB (A.getD j kmz) (B.getD j kmz) = false) => show samK A B = false from samK_no (by have := AL.out; omega) q)
          have NX := Lib.hid (fun (q : kmB (A.getD j kmz) (B.getD j kmz) = true) => (fun i hi => by rcases (show i < j ∨ i = j by omega) with r | rfl; exact HQ.out i r; exact q : ∀ i, i < j + 1 → kmB (A.getD i kmz) (B.getD i kmz) = true))
          unfold kmB at AN NX
          generalize (A.getD j kmz).v = v at *
          generalize (A.getD j kmz).m = mm at *
          generalize (B.getD j kmz).v = v2 at *
          generalize (B.getD j kmz).m = m2 at *
          rw [had] at c0 ⊢
          rw [hbd] at d0 ⊢
          have GJ := Lib.hid (fun nq => gb_trans G.out (gb_drewN wr nq none))
          go_upto_region 6 with fail
          cases e1 : v == v2 <;> cases e2 : mm == m2
          · have RF := Lib.hid (AN.out (decide_eq_false (fun q => by exact absurd q.1 (by simpa using e1))))
            go_quiet (fail)
            go_wp2
            go_ret
            exact ⟨by rw [RE.out, RF.out]; rfl, gb_trans G2.out (GJ.out _)⟩
          · have RF := Lib.hid (AN.out (decide_eq_false (fun q => by exact absurd q.1 (by simpa using e1))))
            go_quiet (fail)
            go_wp2
            go_ret
            exact ⟨by rw [RE.out, RF.out]; rfl, gb_trans G2.out (GJ.out _)⟩
          · have RF := Lib.hid (AN.out (decide_eq_false (fun q => by exact absurd q.2 (by simpa using e2))))
            go_quiet (fail)
            go_wp2
            go_ret
            exact ⟨by rw [RE.out, RF.out]; rfl, gb_trans G2.out (GJ.out _)⟩
          · have N2 := Lib.hid (NX.out (decide_eq_true ⟨by simpa using e1, by simpa using e2⟩))
            go_quiet (fail)
            go_wp2
            exact ⟨⟨j + 1, by omega, by simp, N2.out, GJ.out _⟩, by show Y.kn - ((j : Int) + 1).toNat < Y.kn - (j : Int).toNat; omega⟩
        · have i1 : ¬ (j : Int) < Y.kn := by omega
          have RT := Lib.hid (show samK A B = true from samK_yes (by rw [AL.out, BL_.out]; exact HL.out) (fun i hi => HQ.out i (by have := AL.out; omega)))
          go_wp2
          go_ret
          exact ⟨by rw [RE.out, RT.out]; rfl, gb_trans G2.out G.out⟩
  · have hl2 : ((Y.kn : Int) != Z.kn) = true := by rw [bne_iff_ne]; intro e; exact hl (by omega)
    have RF := Lib.hid (show samK A B = false from samK_len (by rw [AL.out, BL_.out]; exact hl))
    go_wp2
    go_ret
    exact ⟨by rw [RE.out, RF.out, Bool.false_and]; rfl, G2.out⟩
set_option maxRecDepth 100000 in
set_option maxHeartbeats 4000000 in
theorem rcalls_any (w : World) (Y Z : EX) (x y : En) (h : SU w Y.ra Y.rn Y.rc x.ar) (k : SU w Z.ra Z.rn Z.rc y.ar) (hn : Y.rn ≤ 1000) : Calls Try.prog 42 #[.agg #[.int .i64 x.ac, .slice Y.ra Y.rn Y.rc], .agg #[.int .i64 y.ac, .slice Z.ra Z.rn Z.rc]] w (RetV (.bool ((x.ac == y.ac) && samU x.ar y.ar)) w) := by
  have HA := Lib.hid h
  have HB := Lib.hid k
  have HN := Lib.hid hn
  have AL := Lib.hid (show x.ar.length = Y.rn from h.len)
  have BL_ := Lib.hid (show y.ar.length = Z.rn from k.len)
  generalize x.ar = A at *
  generalize y.ar = B at *
  obtain ⟨R, hR⟩ : ∃ R, R = ((x.ac == y.ac) && samU A B) := ⟨_, rfl⟩
  have RE := Lib.hid hR
  rw [← hR]
  have G2 := Lib.hid (gb_trans (gb_alloc w (.cells #[.int .i64 x.ac, .slice Y.ra Y.rn Y.rc] 35) none) (gb_alloc _ (.cells #[.int .i64 y.ac, .slice Z.ra Z.rn Z.rc] 35) none))
  have B1 := (IsB.new w 35 #[.int .i64 x.ac, .slice Y.ra Y.rn Y.rc]).alloc (.cells #[.int .i64 y.ac, .slice Z.ra Z.rn Z.rc] 35)
  have B2 := IsB.new (w.alloc (.cells #[.int .i64 x.ac, .slice Y.ra Y.rn Y.rc] 35)) 35 #[.int .i64 y.ac, .slice Z.ra Z.rn Z.rc]
  simp only [sz_al] at B2
  replace B1 := Lib.hid B1
  replace B2 := Lib.hid B2
  clear h k hn hR
  go_enter Try.func42, Try.ntmps42
  go_upto_region 1 with fail
  generalize (w.alloc (.cells #[.int .i64 x.ac, .slice Y.ra Y.rn Y.rc] 35)).alloc (.cells #[.int .i64 y.ac, .slice Z.ra Z.rn Z.rc] 35) = w2 at *
  obtain ⟨bx, hbx⟩ : ∃ b, b = w.heap.size := ⟨_, rfl⟩
  have Lbx := Lib.hid (show w.heap.size ≤ bx by rw [hbx]; exact Nat.le_refl _)
  rw [← hbx] at B1 B2 ⊢
  clear hbx
  replace HA := Lib.hid (HA.out.keep0 G2.out)
  replace HB := Lib.hid (HB.out.keep0 G2.out)
  have c0 := B1.out.cell 0
  have d0 := B2.out.cell 0
  have c1 := B1.out.cell 1
  have d1 := B2.out.cell 1
  dsimp at c0 d0 c1 d1
  cases pe : x.ac == y.ac
  · have pn : (x.ac != y.ac) = true := by rw [bne, pe]; rfl
    rw [pe] at RE
    clear pe
    go_wp2
    go_ret
    exact ⟨by rw [RE.out, Bool.false_and]; rfl, G2.out⟩
  · have pn : (x.ac != y.ac) = false := by rw [bne, pe]; rfl
    rw [pe, Bool.true_and] at RE
    clear pe
    by_cases hl : Y.rn = Z.rn
    · have HL := Lib.hid hl
      have hl2 : ((Y.rn : Int) != Z.rn) = false := by rw [bne_eq_false_iff_eq]; omega
      clear hl
      go_wp2
      clear c0 c1 d0 d1
      go_loopw [5] (fun i wr => ∃ j : Nat, j ≤ Y.rn ∧ i = .int .i64 j ∧ (∀ i, i < j → decide (A.getD i 0 = B.getD i 0) = true) ∧ w2.grownBy wr none) (fun i _ => Y.rn - (intOf i).toNat)
      case atStart => exact ⟨0, Nat.zero_le _, rfl, (fun i hi => absurd hi (Nat.not_lt_zero _)), gb_refl _ _⟩
      case round =>
        obtain ⟨j, hj, rfl, hb, hg⟩ := hrel
        have HQ := Lib.hid hb
        have G := Lib.hid hg
        clear hb hg
        have c1 := (B1.out.keep0 G.out).cell 1
        have d1 := (B2.out.keep0 G.out).cell 1
        dsimp at c1 d1
        by_cases hlt : j < Y.rn
        · have i1 : (j : Int) < Y.rn := by omega
          have i0 : (0 : Int) ≤ (j : Int) := by omega
          have i2 : (j : Int) < Z.rn := by have := HL.out; omega
          have hw : IntKind.i64.wrap ((j : Int) + 1) = ((j + 1 : Nat) : Int) := by have := HN.out; rw [IntKind.wrap_i64]; omega
          obtain ⟨ad, had⟩ := HA.out.some (by omega)
          obtain ⟨bd, hbd⟩ := HB.out.some (by have := HL.out; omega)
          have x0 := (HA.out.keep0 G.out).cells ad had j hlt
          have y0 := (HB.out.keep0 G.out).cells bd hbd j (by have := HL.out; omega)
          have AN := Lib.hid (fun (q : decide (A.getD j 0 = B.getD j 0) = false) => show samU A B = false from samU_no (by have := AL.out; omega) q)
          have NX := Lib.hid (fun (q : decide (A.getD j 0 = B.getD j 0) = true) => (fun i hi => by rcases (show i < j ∨ i = j by omega) with r | rfl; exact HQ.out i r; exact q : ∀ i, i < j + 1 → decide (A.getD i 0 = B.getD i 0) = true))
          generalize A.getD j 0 = v at *
          generalize B.getD j 0 = v2 at *
          rw [had] at c1 ⊢
          rw [hbd] at d1 ⊢
          have GJ := Lib.hid (fun nq => gb_trans G.out (gb_drewN wr nq none))
          go_upto_region 6 with fail
          by_cases e1 : v = v2
          · have e2 : (v != v2) = false := by simp [e1]
            have N2 := Lib.hid (NX.out (decide_eq_true e1))
            clear e1
            go_quiet (fail)
            go_wp2
            exact ⟨⟨j + 1, by omega, by simp, N2.out, GJ.out _⟩, by show Y.rn - ((j : Int) + 1).toNat < Y.rn - (j : Int).toNat; omega⟩
          · have e2 : (v != v2) = true := by simpa using e1
            have RF := Lib.hid (AN.out (decide_eq_false e1))
            clear e1
            go_quiet (fail)
            go_wp2
            go_ret
            exact ⟨by rw [RE.out, RF.out]; rfl, gb_trans G2.out (GJ.out _)⟩
        · have i1 : ¬ (j : Int) < Y.rn := by omega
          have RT := Lib.hid (show samU A B = true from samU_yes (by rw [AL.out, BL_.out]; exact HL.out) (fun i hi => HQ.out i (by have := AL.out; omega)))
          go_wp2
          go_ret
          exact ⟨by rw [RE.out, RT.out]; rfl, gb_trans G2.out G.out⟩
    · have hl2 : ((Y.rn : Int) != Z.rn) = true := by rw [bne_iff_ne]; intro e; exact hl (by omega)
      have RF := Lib.hid (show samU A B = false from samU_len (by rw [AL.out, BL_.out]; exact hl))
      go_wp2
      go_ret
      exact ⟨by rw [RE.out, RF.out]; rfl, G2.out⟩
set_option maxRecDepth 100000 in
set_option maxHeartbeats 4000000 in
theorem requ_any (w : World) (Y Z : EX) (x y : En) (h : SE w Y x) (k : SE w Z y) (hn : Y.kn ≤ 1000) (hrn : Y.rn ≤ 1000) : Calls Try.prog 21 #[.agg #[.slice Y.ka Y.kn Y.kc, .int .i64 x.pr, .int .i64 x.ac, .slice Y.ra Y.rn Y.rc], .agg #[.slice Z.ka Z.kn Z.kc, .int .i64 y.pr, .int .i64 y.ac, .slice Z.ra Z.rn Z.rc]] w (RetV (.bool (eqE x y)) w) := by
  have HRN := Lib.hid hrn
  have HE := Lib.hid h
  have HF := Lib.hid k
  have HN := Lib.hid hn
  obtain ⟨R, hR⟩ : ∃ R, R = eqE x y := ⟨_, rfl⟩
  have HR := Lib.hid hR
  rw [← hR]
  have G2 := Lib.hid (gb_trans (gb_alloc w (.cells #[.slice Y.ka Y.kn Y.kc, .int .i64 x.pr, .int .i64 x.ac, .slice Y.ra Y.rn Y.rc] 37) none) (gb_alloc _ (.cells #[.slice Z.ka Z.kn Z.kc, .int .i64 y.pr, .int .i64 y.ac, .slice Z.ra Z.rn Z.rc] 37) none))
  have B1 := (IsB.new w 37 #[.slice Y.ka Y.kn Y.kc, .int .i64 x.pr, .int .i64 x.ac, .slice Y.ra Y.rn Y.rc]).alloc (.cells #[.slice Z.ka Z.kn Z.kc, .int .i64 y.pr, .int .i64 y.ac, .slice Z.ra Z.rn Z.rc] 37)
  have B2 := IsB.new (w.alloc (.cells #[.slice Y.ka Y.kn Y.kc, .int .i64 x.pr, .int .i64 x.ac, .slice Y.ra Y.rn Y.rc] 37)) 37 #[.slice Z.ka Z.kn Z.kc, .int .i64 y.pr, .int .i64 y.ac, .slice Z.ra Z.rn Z.rc]
  simp only [sz_al] at B2
  replace B1 := Lib.hid B1
  replace B2 := Lib.hid B2
  clear h k hn hR hrn
  go_enter Try.func21, Try.ntmps21
  go_upto_region 1 with fail
  generalize (w.alloc (.cells #[.slice Y.ka Y.kn Y.kc, .int .i64 x.pr, .int .i64 x.ac, .slice Y.ra Y.rn Y.rc] 37)).alloc (.cells #[.slice Z.ka Z.kn Z.kc, .int .i64 y.pr, .int .i64 y.ac, .slice Z.ra Z.rn Z.rc] 37) = w2 at *
  obtain ⟨bx, hbx⟩ : ∃ b, b = w.heap.size := ⟨_, rfl⟩
  have Lbx := Lib.hid (show w.heap.size ≤ bx by rw [hbx]; exact Nat.le_refl _)
  rw [← hbx] at B1 B2 ⊢
  clear hbx
  replace HE := Lib.hid (HE.out.keep0 G2.out)
  replace HF := Lib.hid (HF.out.keep0 G2.out)
  have c0 := (B1.out.keep0 (gb_refl _ _)).cell 0
  have d0 := (B2.out.keep0 (gb_refl _ _)).cell 0
  have c1 := (B1.out.keep0 (gb_refl _ _)).cell 1
  have d1 := (B2.out.keep0 (gb_refl _ _)).cell 1
  have c2 := (B1.out.keep0 (gb_refl _ _)).cell 2
  have d2 := (B2.out.keep0 (gb_refl _ _)).cell 2
  have c3 := (B1.out.keep0 (gb_refl _ _)).cell 3
  have d3 := (B2.out.keep0 (gb_refl _ _)).cell 3
  dsimp at c0 d0 c1 d1 c2 d2 c3 d3
  unfold eqE at HR
  have SK := Lib.hid (rsame_any w2 Y Z x y HE.out HF.out HN.out)
  have RC := Lib.hid (fun (W : World) (g : w2.grownBy W none) (hn : Y.rn ≤ 1000) => rcalls_any W Y Z x y (HE.out.r.keep0 g) (HF.out.r.keep0 g) hn)
  have RE := Lib.hid (show R = (samE x y && ((x.ac == y.ac) && samU x.ar y.ar)) by rw [HR.out]; congr 1)
  generalize samE x y = b at *
  generalize ((x.ac == y.ac) && samU x.ar y.ar) = u at *
  cases b
  · go_wp2_with fail
    refine SK.out.mono ?_
    rintro e w3 ⟨rfl, g⟩
    have G3 := Lib.hid (gb_trans G2.out g)
    clear g
    go_wp2
    go_ret
    exact ⟨by rw [RE.out, Bool.false_and]; rfl, G3.out⟩
  · go_wp2_with fail
    refine SK.out.mono ?_
    rintro e w3 ⟨rfl, g⟩
    have GG := Lib.hid g
    have G3 := Lib.hid (gb_trans G2.out g)
    clear c0 d0 c1 d1 c2 d2 c3 d3
    have c0 := (B1.out.keep0 g).cell 0
    have d0 := (B2.out.keep0 g).cell 0
    have c1 := (B1.out.keep0 g).cell 1
    have d1 := (B2.out.keep0 g).cell 1
    have c2 := (B1.out.keep0 g).cell 2
    have d2 := (B2.out.keep0 g).cell 2
    have c3 := (B1.out.keep0 g).cell 3
    have d3 := (B2.out.keep0 g).cell 3
    dsimp at c0 d0 c1 d1 c2 d2 c3 d3
    clear g
    go_wp2_with fail
    refine (RC.out w3 GG.out HRN.out).mono ?_
    rintro e w4 ⟨rfl, g⟩
    have G4 := Lib.hid (gb_trans G3.out g)
    clear g
    go_wp2
    go_ret
    exact ⟨by rw [RE.out, Bool.true_and]; rfl, G4.out⟩
set_option maxRecDepth 100000 in
set_option maxHeartbeats 4000000 in
theorem smallx_any (w : World) (Y : EX) (x : En) : Calls Try.prog 10 #[.agg #[.slice Y.ka Y.kn Y.kc, .int .i64 x.pr, .int .i64 x.ac, .slice Y.ra Y.rn Y.rc]] w (RetV (.bool (decide (Y.kn ≤ 10 ∧ Y.rn ≤ 10))) w) := by
  obtain ⟨R, hR⟩ : ∃ R, R = decide (Y.kn ≤ 10 ∧ Y.rn ≤ 10) := ⟨_, rfl⟩
  have HR := Lib.hid hR
  rw [← hR]
  clear hR
  have G2 := Lib.hid (gb_alloc w (.cells #[.slice Y.ka Y.kn Y.kc, .int .i64 x.pr, .int .i64 x.ac, .slice Y.ra Y.rn Y.rc] 37) none)
  have B1 := IsB.new w 37 #[.slice Y.ka Y.kn Y.kc, .int .i64 x.pr, .int .i64 x.ac, .slice Y.ra Y.rn Y.rc]
  replace B1 := Lib.hid B1
  go_enter Try.func10, Try.ntmps10
  go_upto_region 1 with fail
  generalize w.alloc (.cells #[.slice Y.ka Y.kn Y.kc, .int .i64 x.pr, .int .i64 x.ac, .slice Y.ra Y.rn Y.rc] 37) = w2 at *
  obtain ⟨bx, hbx⟩ : ∃ b, b = w.heap.size := ⟨_, rfl⟩
  have Lbx := Lib.hid (show w.heap.size ≤ bx by rw [hbx]; exact Nat.le_refl _)
  rw [← hbx] at B1 ⊢
  clear hbx
  have c0 := B1.out.cell 0
  have c3 := B1.out.cell 3
  dsimp at c0 c3
  by_cases h1 : Y.kn ≤ 10
  · have i1 : (Y.kn : Int) ≤ 10 := by omega
    by_cases h2 : Y.rn ≤ 10
    · have i2 : (Y.rn : Int) ≤ 10 := by omega
      have RT := Lib.hid (show R = true by rw [HR.out]; exact decide_eq_true ⟨h1, h2⟩)
      clear h1 h2
      go_wp2
      go_ret
      exact ⟨by rw [RT.out]; rfl, G2.out⟩
    · have i2 : ¬ (Y.rn : Int) ≤ 10 := by omega
      have RT := Lib.hid (show R = false by rw [HR.out]; exact decide_eq_false (fun q => h2 q.2))
      clear h1 h2
      go_wp2
      go_ret
      exact ⟨by rw [RT.out]; rfl, G2.out⟩
  · have i1 : ¬ (Y.kn : Int) ≤ 10 := by omega
    have RT := Lib.hid (show R = false by rw [HR.out]; exact decide_eq_false (fun q => h1 q.1))
    clear h1
    go_wp2
    go_ret
    exact ⟨by rw [RT.out]; rfl, G2.out⟩
end Go.Proofs.Ytgdefahnmgonlaa
