/- Entries: matching and comparing, on both sides; no condition but sizes. -/
import Derived.Test.YtgdefahnmgonlaaEnA
import Derived.Deep.QuietTactic
import Derived.BigQuiet
namespace Go.Proofs.Ytgdefahnmgonlaa
open Go.RowKit
set_option linter.unusedVariables false
set_option maxRecDepth 100000 in
set_option maxHeartbeats 4000000 in
theorem pmat_any (w : World) (Y : EX) (x : En) (h : SE w Y x) (ka : Option Addr) (kn kc : Nat) (key : List Int) (hk : SU w ka kn kc key) (hn : Y.kn ≤ 1000) : Calls Try.prog 14 #[.agg #[.slice Y.ka Y.kn Y.kc, .int .i64 x.pr, .int .i64 x.ac, .slice Y.ra Y.rn Y.rc], .slice ka kn kc] w (RetV (.bool (matE x.ks key)) w) := by
  have HE := Lib.hid h
  have HK := Lib.hid hk
  have HN := Lib.hid hn
  have KL := Lib.hid (show x.ks.length = Y.kn from h.k.len)
  have QL := Lib.hid (show key.length = kn from hk.len)
  obtain ⟨R, hR⟩ : ∃ R, R = matE x.ks key := ⟨_, rfl⟩
  have HR := Lib.hid hR
  rw [← hR]
  have G2 := Lib.hid (gb_alloc w (.cells #[.slice Y.ka Y.kn Y.kc, .int .i64 x.pr, .int .i64 x.ac, .slice Y.ra Y.rn Y.rc] 37) none)
  have B1 := IsB.new w 37 #[.slice Y.ka Y.kn Y.kc, .int .i64 x.pr, .int .i64 x.ac, .slice Y.ra Y.rn Y.rc]
  replace B1 := Lib.hid B1
  clear h hk hn hR
  go_enter Try.func14, Try.ntmps14
  go_upto_region 1 with fail
  generalize w.alloc (.cells #[.slice Y.ka Y.kn Y.kc, .int .i64 x.pr, .int .i64 x.ac, .slice Y.ra Y.rn Y.rc] 37) = w2 at *
  obtain ⟨bx, hbx⟩ : ∃ b, b = w.heap.size := ⟨_, rfl⟩
  have Lbx := Lib.hid (show w.heap.size ≤ bx by rw [hbx]; exact Nat.le_refl _)
  rw [← hbx] at B1 ⊢
  clear hbx
  replace HE := Lib.hid (HE.out.keep0 G2.out)
  replace HK := Lib.hid (HK.out.keep0 G2.out)
  have c0 := B1.out.cell 0
  dsimp at c0
  by_cases hl : kn = Y.kn
  · subst hl
    have hl2 : ((Y.kn : Int) != Y.kn) = false := by simp
    go_wp2
    go_loopw [16] (fun i wr => ∃ j : Nat, j ≤ Y.kn ∧ i = .int .i64 j ∧ (∀ i, i < j → matB (x.ks.getD i kmz) (key.getD i 0) = true) ∧ w2.grownBy wr none) (fun i _ => Y.kn - (intOf i).toNat)
    case atStart => exact ⟨0, Nat.zero_le _, rfl, (fun i hi => absurd hi (Nat.not_lt_zero _)), gb_refl _ _⟩
    case round =>
      obtain ⟨j, hj, rfl, hb, hg⟩ := hrel
      have HB := Lib.hid hb
      have G := Lib.hid hg
      clear hb hg
      have c0 := (B1.out.keep0 G.out).cell 0
      dsimp at c0
      by_cases hlt : j < Y.kn
      · have i1 : (j : Int) < Y.kn := by omega
        have i0 : (0 : Int) ≤ (j : Int) := by omega
        have hw : IntKind.i64.wrap ((j : Int) + 1) = ((j + 1 : Nat) : Int) := by have := HN.out; rw [IntKind.wrap_i64]; omega
        obtain ⟨ad, had⟩ := HE.out.k.some (by omega)
        obtain ⟨kd, hkd⟩ := HK.out.some (by omega)
        obtain ⟨⟨y0, _⟩, y1, _⟩ := (HE.out.keep0 G.out).k.cells ad had j hlt
        have x0 := (HK.out.keep0 G.out).cells kd hkd j hlt
        have AN := Lib.hid (fun (q : matB (x.ks.getD j kmz) (key.getD j 0) = false) => show R = false by rw [HR.out]; exact mat_no (by have := KL.out; omega) q)
        have NX := Lib.hid (fun (q : matB (x.ks.getD j kmz) (key.getD j 0) = true) => (fun i hi => by rcases (show i < j ∨ i = j by omega) with r | rfl; exact HB.out i r; exact q : ∀ i, i < j + 1 → matB (x.ks.getD i kmz) (key.getD i 0) = true))
        unfold matB at AN NX
        generalize key.getD j 0 = v at *
        generalize (x.ks.getD j kmz).v = mv at *
        generalize (x.ks.getD j kmz).m = mm at *
        rw [had] at c0 ⊢
        rw [hkd]
        have GK := Lib.hid (gb_alloc wr (.cells #[.int .u32 mv, .int .u32 mm] 57) none)
        have BK := IsB.new wr 57 #[.int .u32 mv, .int .u32 mm]
        replace BK := Lib.hid BK
        go_upto_region 6 with fail
        generalize wr.alloc (.cells #[.int .u32 mv, .int .u32 mm] 57) = w5 at *
        obtain ⟨bk, hbk⟩ : ∃ b, b = wr.heap.size := ⟨_, rfl⟩
        have Lbk := Lib.hid (show wr.heap.size ≤ bk by rw [hbk]; exact Nat.le_refl _)
        rw [← hbk] at BK ⊢
        clear hbk
        have x5 := GK.out.cell x0 (by simp)
        have k0 := BK.out.cell 0
        have k1 := BK.out.cell 1
        dsimp at k0 k1
        have G5 := Lib.hid (gb_trans G.out GK.out)
        clear x0 y0 y1
        have GJ := Lib.hid (fun nq => gb_trans G5.out (gb_drewN w5 nq none))
        cases fb : bits .and .u32 (bits .xor .u32 v mv) mm == 0
        · have hz : (bits .and .u32 (bits .xor .u32 v mv) mm != 0) = true := by rw [bne, fb]; rfl
          have RF := Lib.hid (AN.out fb)
          clear fb
          go_quiet (fail)
          go_wp2
          go_ret
          exact ⟨by rw [RF.out]; rfl, gb_trans G2.out (GJ.out _)⟩
        · have hz : (bits .and .u32 (bits .xor .u32 v mv) mm != 0) = false := by rw [bne, fb]; rfl
          have N2 := Lib.hid (NX.out fb)
          clear fb
          go_quiet (fail)
          go_wp2
          exact ⟨⟨j + 1, by omega, by simp, N2.out, GJ.out _⟩, by show Y.kn - ((j : Int) + 1).toNat < Y.kn - (j : Int).toNat; omega⟩
      · have i1 : ¬ (j : Int) < Y.kn := by omega
        have RT := Lib.hid (show R = true by rw [HR.out]; exact mat_yes (by rw [KL.out, QL.out]) (fun i hi => HB.out i (by have := KL.out; omega)))
        go_wp2
        go_ret
        exact ⟨by rw [RT.out]; rfl, gb_trans G2.out G.out⟩
  · have hl2 : ((kn : Int) != Y.kn) = true := by rw [bne_iff_ne]; intro e; exact hl (by omega)
    have RF := Lib.hid (show R = false by rw [HR.out]; exact mat_len (by rw [KL.out, QL.out]; exact hl))
    go_wp2
    go_ret
    exact ⟨by rw [RF.out]; rfl, G2.out⟩
set_option maxRecDepth 100000 in
set_option maxHeartbeats 4000000 in
theorem rmat_any (w : World) (Y : EX) (x : En) (h : SE w Y x) (ka : Option Addr) (kn kc : Nat) (key : List Int) (hk : SU w ka kn kc key) (hn : Y.kn ≤ 1000) : Calls Try.prog 15 #[.agg #[.slice Y.ka Y.kn Y.kc, .int .i64 x.pr, .int .i64 x.ac, .slice Y.ra Y.rn Y.rc], .slice ka kn kc] w (RetV (.bool (matE x.ks key)) w) := by
  have HE := Lib.hid h
  have HK := Lib.hid hk
  have HN := Lib.hid hn
  have KL := Lib.hid (show x.ks.length = Y.kn from h.k.len)
  have QL := Lib.hid (show key.length = kn from hk.len)
  obtain ⟨R, hR⟩ : ∃ R, R = matE x.ks key := ⟨_, rfl⟩
  have HR := Lib.hid hR
  rw [← hR]
  have G2 := Lib.hid (gb_alloc w (.cells #[.slice Y.ka Y.kn Y.kc, .int .i64 x.pr, .int .i64 x.ac, .slice Y.ra Y.rn Y.rc] 37) none)
  have B1 := IsB.new w 37 #[.slice Y.ka Y.kn Y.kc, .int .i64 x.pr, .int .i64 x.ac, .slice Y.ra Y.rn Y.rc]
  replace B1 := Lib.hid B1
  clear h hk hn hR
  go_enter Try.func15, Try.ntmps15
  go_upto_region 1 with fail
  generalize w.alloc (.cells #[.slice Y.ka Y.kn Y.kc, .int .i64 x.pr, .int .i64 x.ac, .slice Y.ra Y.rn Y.rc] 37) = w2 at *
  obtain ⟨bx, hbx⟩ : ∃ b, b = w.heap.size := ⟨_, rfl⟩
  have Lbx := Lib.hid (show w.heap.size ≤ bx by rw [hbx]; exact Nat.le_refl _)
  rw [← hbx] at B1 ⊢
  clear hbx
  replace HE := Lib.hid (HE.out.keep0 G2.out)
  replace HK := Lib.hid (HK.out.keep0 G2.out)
  have c0 := B1.out.cell 0
  dsimp at c0
  by_cases hl : kn = Y.kn
  · subst hl
    have hl2 : ((Y.kn : Int) != Y.kn) = false := by simp
    go_wp2
    go_loopw [5] (fun i wr => ∃ j : Nat, j ≤ Y.kn ∧ i = .int .i64 j ∧ (∀ i, i < j → matB (x.ks.getD i kmz) (key.getD i 0) = true) ∧ w2.grownBy wr none) (fun i _ => Y.kn - (intOf i).toNat)
    case atStart => exact ⟨0, Nat.zero_le _, rfl, (fun i hi => absurd hi (Nat.not_lt_zero _)), gb_refl _ _⟩
    case round =>
      obtain ⟨j, hj, rfl, hb, hg⟩ := hrel
      have HB := Lib.hid hb
      have G := Lib.hid hg
      clear hb hg
      have c0 := (B1.out.keep0 G.out).cell 0
      dsimp at c0
      by_cases hlt : j < Y.kn
      · have i1 : (j : Int) < Y.kn := by omega
        have i0 : (0 : Int) ≤ (j : Int) := by omega
        have hw : IntKind.i64.wrap ((j : Int) + 1) = ((j + 1 : Nat) : Int) := by have := HN.out; rw [IntKind.wrap_i64]; omega
        obtain ⟨ad, had⟩ := HE.out.k.some (by omega)
        obtain ⟨kd, hkd⟩ := HK.out.some (by omega)
        obtain ⟨⟨y0, _⟩, y1, _⟩ := (HE.out.keep0 G.out).k.cells ad had j hlt
        have x0 := (HK.out.keep0 G.out).cells kd hkd j hlt
        have AN := Lib.hid (fun (q : matB (x.ks.getD j kmz) (key.getD j 0) = false) => show R = false by rw [HR.out]; exact mat_no (by have := KL.out; omega) q)
        have NX := Lib.hid (fun (q : matB (x.ks.getD j kmz) (key.getD j 0) = true) => (fun i hi => by rcases (show i < j ∨ i = j by omega) with r | rfl; exact HB.out i r; exact q : ∀ i, i < j + 1 → matB (x.ks.getD i kmz) (key.getD i 0) = true))
        unfold matB at AN NX
        generalize key.getD j 0 = v at *
        generalize (x.ks.getD j kmz).v = mv at *
        generalize (x.ks.getD j kmz).m = mm at *
        rw [had] at c0 ⊢
        rw [hkd]
        go_upto_region 6 with fail
        have GJ := Lib.hid (fun nq => gb_trans G.out (gb_drewN wr nq none))
        cases fb : bits .and .u32 (bits .xor .u32 v mv) mm == 0
        · have hz : (bits .and .u32 (bits .xor .u32 v mv) mm != 0) = true := by rw [bne, fb]; rfl
          have RF := Lib.hid (AN.out fb)
          clear fb
          go_quiet (fail)
          go_wp2
          go_ret
          exact ⟨by rw [RF.out]; rfl, gb_trans G2.out (GJ.out _)⟩
        · have hz : (bits .and .u32 (bits .xor .u32 v mv) mm != 0) = false := by rw [bne, fb]; rfl
          have N2 := Lib.hid (NX.out fb)
          clear fb
          go_quiet (fail)
          go_wp2
          exact ⟨⟨j + 1, by omega, by simp, N2.out, GJ.out _⟩, by show Y.kn - ((j : Int) + 1).toNat < Y.kn - (j : Int).toNat; omega⟩
      · have i1 : ¬ (j : Int) < Y.kn := by omega
        have RT := Lib.hid (show R = true by rw [HR.out]; exact mat_yes (by rw [KL.out, QL.out]) (fun i hi => HB.out i (by have := KL.out; omega)))
        go_wp2
        go_ret
        exact ⟨by rw [RT.out]; rfl, gb_trans G2.out G.out⟩
  · have hl2 : ((Y.kn : Int) != kn) = true := by rw [bne_iff_ne]; intro e; exact hl (by omega)
    have RF := Lib.hid (show R = false by rw [HR.out]; exact mat_len (by rw [KL.out, QL.out]; exact hl))
    go_wp2
    go_ret
    exact ⟨by rw [RF.out]; rfl, G2.out⟩
set_option maxRecDepth 100000 in
set_option maxHeartbeats 4000000 in
theorem psamk_any (w : World) (a b : Option Addr) (n c m d : Nat) (A B : List Km) (h : SKm w a n c A) (k : SKm w b m d B) (hn : n ≤ 1000) : Calls Try.prog 40 #[.slice a n c, .slice b m d] w (RetV (.bool (samK A B)) w) := by
  have HA := Lib.hid h
  have HB := Lib.hid k
  have HN := Lib.hid hn
  have AL := Lib.hid (show A.length = n from h.len)
  have BL_ := Lib.hid (show B.length = m from k.len)
  obtain ⟨R, hR⟩ : ∃ R, R = samK A B := ⟨_, rfl⟩
  have HR := Lib.hid hR
  rw [← hR]
  clear h k hn hR
  go_enter Try.func40, Try.ntmps40
  by_cases hl : n = m
  · subst hl
    have hl2 : ((n : Int) != n) = false := by simp
    go_wp2
    go_loopw [13] (fun i wr => ∃ j : Nat, j ≤ n ∧ i = .int .i64 j ∧ (∀ i, i < j → kmB (A.getD i kmz) (B.getD i kmz) = true) ∧ w.grownBy wr none) (fun i _ => n - (intOf i).toNat)
    case atStart => exact ⟨0, Nat.zero_le _, rfl, (fun i hi => absurd hi (Nat.not_lt_zero _)), gb_refl _ _⟩
    case round =>
      obtain ⟨j, hj, rfl, hb, hg⟩ := hrel
      have HQ := Lib.hid hb
      have G := Lib.hid hg
      clear hb hg
      by_cases hlt : j < n
      · have i1 : (j : Int) < n := by omega
        have i0 : (0 : Int) ≤ (j : Int) := by omega
        have hw : IntKind.i64.wrap ((j : Int) + 1) = ((j + 1 : Nat) : Int) := by have := HN.out; rw [IntKind.wrap_i64]; omega
        obtain ⟨ad, had⟩ := HA.out.some (by omega)
        obtain ⟨bd, hbd⟩ := HB.out.some (by omega)
        obtain ⟨⟨y0, _⟩, y1, _⟩ := (HA.out.keep0SKm G.out).cells ad had j hlt
        obtain ⟨⟨z0, _⟩, z1, _⟩ := (HB.out.keep0SKm G.out).cells bd hbd j hlt
        have AN := Lib.hid (fun (q : kmB (A.getD j kmz) (B.getD j kmz) = false) => show R = false by rw [HR.out]; exact samK_no (by have := AL.out; omega) q)
        have NX := Lib.hid (fun (q : kmB (A.getD j kmz) (B.getD j kmz) = true) => (fun i hi => by rcases (show i < j ∨ i = j by omega) with r | rfl; exact HQ.out i r; exact q : ∀ i, i < j + 1 → kmB (A.getD i kmz) (B.getD i kmz) = true))
        unfold kmB at AN NX
        generalize (A.getD j kmz).v = v at *
        generalize (A.getD j kmz).m = mm at *
        generalize (B.getD j kmz).v = v2 at *
        generalize (B.getD j kmz).m = m2 at *
        rw [had, hbd]
        have GJ := Lib.hid (fun nq => gb_trans G.out (gb_drewN wr nq none))
        go_upto_region 6 with fail
        cases e1 : v == v2 <;> cases e2 : mm == m2
        · have RF := Lib.hid (AN.out (decide_eq_false (fun q => by exact absurd q.1 (by simpa using e1))))
          go_quiet (fail)
          go_wp2
          go_ret
          exact ⟨by rw [RF.out]; rfl, GJ.out _⟩
        · have RF := Lib.hid (AN.out (decide_eq_false (fun q => by exact absurd q.1 (by simpa using e1))))
          go_quiet (fail)
          go_wp2
          go_ret
          exact ⟨by rw [RF.out]; rfl, GJ.out _⟩
        · have RF := Lib.hid (AN.out (decide_eq_false (fun q => by exact absurd q.2 (by simpa using e2))))
          go_quiet (fail)
          go_wp2
          go_ret
          exact ⟨by rw [RF.out]; rfl, GJ.out _⟩
        · have N2 := Lib.hid (NX.out (decide_eq_true ⟨by simpa using e1, by simpa using e2⟩))
          go_quiet (fail)
          go_wp2
          exact ⟨⟨j + 1, by omega, by simp, N2.out, GJ.out _⟩, by show n - ((j : Int) + 1).toNat < n - (j : Int).toNat; omega⟩
      · have i1 : ¬ (j : Int) < n := by omega
        have RT := Lib.hid (show R = true by rw [HR.out]; exact samK_yes (by rw [AL.out, BL_.out]) (fun i hi => HQ.out i (by have := AL.out; omega)))
        go_wp2
        go_ret
        exact ⟨by rw [RT.out]; rfl, G.out⟩
  · have hl2 : ((n : Int) != m) = true := by rw [bne_iff_ne]; intro e; exact hl (by omega)
    have RF := Lib.hid (show R = false by rw [HR.out]; exact samK_len (by rw [AL.out, BL_.out]; exact hl))
    go_wp2
    go_ret
    exact ⟨by rw [RF.out]; rfl, gb_refl _ _⟩
set_option maxRecDepth 100000 in
set_option maxHeartbeats 4000000 in
theorem psamu_any (w : World) (a b : Option Addr) (n c m d : Nat) (A B : List Int) (h : SU w a n c A) (k : SU w b m d B) (hn : n ≤ 1000) : Calls Try.prog 41 #[.slice a n c, .slice b m d] w (RetV (.bool (samU A B)) w) := by
  have HA := Lib.hid h
  have HB := Lib.hid k
  have HN := Lib.hid hn
  have AL := Lib.hid (show A.length = n from h.len)
  have BL_ := Lib.hid (show B.length = m from k.len)
  obtain ⟨R, hR⟩ : ∃ R, R = samU A B := ⟨_, rfl⟩
  have HR := Lib.hid hR
  rw [← hR]
  clear h k hn hR
  go_enter Try.func41, Try.ntmps41
  by_cases hl : n = m
  · subst hl
    have hl2 : ((n : Int) != n) = false := by simp
    go_wp2
    go_loopw [13] (fun i wr => ∃ j : Nat, j ≤ n ∧ i = .int .i64 j ∧ (∀ i, i < j → decide (A.getD i 0 = B.getD i 0) = true) ∧ w.grownBy wr none) (fun i _ => n - (intOf i).toNat)
    case atStart => exact ⟨0, Nat.zero_le _, rfl, (fun i hi => absurd hi (Nat.not_lt_zero _)), gb_refl _ _⟩
    case round =>
      obtain ⟨j, hj, rfl, hb, hg⟩ := hrel
      have HQ := Lib.hid hb
      have G := Lib.hid hg
      clear hb hg
      by_cases hlt : j < n
      · have i1 : (j : Int) < n := by omega
        have i0 : (0 : Int) ≤ (j : Int) := by omega
        have hw : IntKind.i64.wrap ((j : Int) + 1) = ((j + 1 : Nat) : Int) := by have := HN.out; rw [IntKind.wrap_i64]; omega
        obtain ⟨ad, had⟩ := HA.out.some (by omega)
        obtain ⟨bd, hbd⟩ := HB.out.some (by omega)
        have x0 := (HA.out.keep0 G.out).cells ad had j hlt
        have y0 := (HB.out.keep0 G.out).cells bd hbd j hlt
        have AN := Lib.hid (fun (q : decide (A.getD j 0 = B.getD j 0) = false) => show R = false by rw [HR.out]; exact samU_no (by have := AL.out; omega) q)
        have NX := Lib.hid (fun (q : decide (A.getD j 0 = B.getD j 0) = true) => (fun i hi => by rcases (show i < j ∨ i = j by omega) with r | rfl; exact HQ.out i r; exact q : ∀ i, i < j + 1 → decide (A.getD i 0 = B.getD i 0) = true))
        generalize A.getD j 0 = v at *
        generalize B.getD j 0 = v2 at *
        rw [had, hbd]
        have GJ := Lib.hid (fun nq => gb_trans G.out (gb_drewN wr nq none))
        go_upto_region 6 with fail
        by_cases e1 : v = v2
        · have e2 : (v != v2) = false := by simp [e1]
          have N2 := Lib.hid (NX.out (decide_eq_true e1))
          clear e1
          go_quiet (fail)
          go_wp2
          exact ⟨⟨j + 1, by omega, by simp, N2.out, GJ.out _⟩, by show n - ((j : Int) + 1).toNat < n - (j : Int).toNat; omega⟩
        · have e2 : (v != v2) = true := by simpa using e1
          have RF := Lib.hid (AN.out (decide_eq_false e1))
          clear e1
          go_quiet (fail)
          go_wp2
          go_ret
          exact ⟨by rw [RF.out]; rfl, GJ.out _⟩
      · have i1 : ¬ (j : Int) < n := by omega
        have RT := Lib.hid (show R = true by rw [HR.out]; exact samU_yes (by rw [AL.out, BL_.out]) (fun i hi => HQ.out i (by have := AL.out; omega)))
        go_wp2
        go_ret
        exact ⟨by rw [RT.out]; rfl, G.out⟩
  · have hl2 : ((n : Int) != m) = true := by rw [bne_iff_ne]; intro e; exact hl (by omega)
    have RF := Lib.hid (show R = false by rw [HR.out]; exact samU_len (by rw [AL.out, BL_.out]; exact hl))
    go_wp2
    go_ret
    exact ⟨by rw [RF.out]; rfl, gb_refl _ _⟩
end Go.Proofs.Ytgdefahnmgonlaa
