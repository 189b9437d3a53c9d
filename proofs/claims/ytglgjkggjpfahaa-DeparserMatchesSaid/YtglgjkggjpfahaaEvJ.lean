/- Env: values of invalid headers, Check; no condition but sizes. -/
import Derived.Test.YtglgjkggjpfahaaEvI
namespace Go.Proofs.Ytglgjkggjpfahaa
open Go.RowKit
set_option linter.unusedVariables false
set_option maxRecDepth 100000 in
set_option maxHeartbeats 4000000 in
theorem ezero_any (w : World) (X : EX) (L : EL) (he : ER w X L) (hz : EZ X L) (hv : X.vn = X.fn) (bo : Bool) (hbo : bo = true ↔ zrP L) :
    Calls Try.prog 120 #[.agg #[.slice X.va X.vn X.vc, .slice X.fa X.fn X.fc, .slice X.ta X.tn X.tc, .slice X.pa X.pn X.pc]] w (RetV (.bool bo) w) := by
  have HE := Lib.hid he
  have HZ := Lib.hid hz
  have HBO := Lib.hid hbo
  have VL := Lib.hid hv
  have GB := Lib.hid (gb_alloc w (.cells #[.slice X.va X.vn X.vc, .slice X.fa X.fn X.fc, .slice X.ta X.tn X.tc, .slice X.pa X.pn X.pc] 42) none)
  have B2 := IsB.new w 42 #[.slice X.va X.vn X.vc, .slice X.fa X.fn X.fc, .slice X.ta X.tn X.tc, .slice X.pa X.pn X.pc]
  replace B2 := Lib.hid B2
  clear he hz hbo hv
  go_enter Try.func120, Try.ntmps120
  go_upto_region 1 with fail
  generalize w.alloc (.cells #[.slice X.va X.vn X.vc, .slice X.fa X.fn X.fc, .slice X.ta X.tn X.tc, .slice X.pa X.pn X.pc] 42) = w2 at *
  obtain ⟨bx, hbx⟩ : ∃ b, b = w.heap.size := ⟨_, rfl⟩
  have Lbx := Lib.hid (show w.heap.size ≤ bx by rw [hbx]; exact Nat.le_refl _)
  rw [← hbx] at B2 ⊢
  clear hbx
  have x0 := B2.out.cell 0
  have x1 := B2.out.cell 1
  have x2 := B2.out.cell 2
  have x3 := B2.out.cell 3
  dsimp at x0 x1 x2 x3
  go_wp2
  clear x0 x1 x2 x3
  go_loopw [8] (fun i wr => ∃ k : Nat, k ≤ X.fn ∧ i = .int .i64 k ∧ (∀ h, h < k → L.V.getD h false = true ∨ (L.F.getD h []).any (fun v => v != 0) = false) ∧ w2.grownBy wr none) (fun i _ => X.fn - (intOf i).toNat)
  case atStart => exact ⟨0, Nat.zero_le _, rfl, (fun i hi => absurd hi (Nat.not_lt_zero _)), gb_refl _ _⟩
  case round =>
    obtain ⟨k, hk, rfl, ht, hg⟩ := hrel
    have HT := Lib.hid ht
    have HG := Lib.hid hg
    clear ht hg
    by_cases hlt : k < X.fn
    · have W2 := Lib.hid (gb_trans GB.out HG.out)
      obtain ⟨ad, had⟩ := HE.out.f.some (by omega)
      have kv : k < X.vn := by have := VL.out; omega
      obtain ⟨vd, hvd⟩ := HE.out.v.some (by omega)
      obtain ⟨fa, fn, fc, c1, s1⟩ := (HE.out.f.keep0 W2.out).cells ad had k hlt
      have c2 := (HE.out.v.keep0 W2.out).cells vd hvd k kv
      have S1 := Lib.hid s1
      have SZ := Lib.hid (show fn ≤ 100000 by have := HZ.out.r k; rw [s1.len] at this; exact this)
      have y0 := (B2.out.keep0 HG.out).cell 0
      dsimp at y0
      rw [hvd] at y0
      rw [had, hvd]
      clear hvd had
      have i1 : (k : Int) < X.fn := by omega
      have i1' : (k : Int) < X.vn := by omega
      have i0 : (0 : Int) ≤ (k : Int) := by omega
      have hw : IntKind.i64.wrap ((k : Int) + 1) = ((k + 1 : Nat) : Int) := by have := HZ.out.f; rw [IntKind.wrap_i64]; omega
      have HT2 := Lib.hid (show (L.V.getD k false = true ∨ (L.F.getD k []).any (fun v => v != 0) = false) → ∀ h, h < k + 1 → L.V.getD h false = true ∨ (L.F.getD h []).any (fun v => v != 0) = false from fun e h hh => by
        rcases (show h < k ∨ h = k by omega) with q | rfl
        · exact HT.out h q
        · exact e)
      have BF := Lib.hid (show L.V.getD k false = false → (L.F.getD k []).any (fun v => v != 0) = true → bo = false from fun e1 e2 => bool_no HBO.out fun q => by
        have := q k (by rw [HE.out.f.len]; exact hlt)
        rw [e1, e2] at this
        rcases this with e | e <;> cases e)
      have CF := Lib.hid (fun W (q : wr.grownBy W none) => cfu_any W fa fn fc (L.F.getD k []) (S1.out.keep0 q) (by have := SZ.out; omega) 140 #[] (fun v => v != 0) (by intro args w; rfl) (fun v W _ => by have q := iz1_any W v; simpa using q))
      clear s1
      generalize (L.F.getD k []).any (fun v => v != 0) = ba at *
      cases hv : L.V.getD k false with
      | true =>
        rw [hv] at c2 HT2
        have H3 := Lib.hid (HT2.out (.inl rfl))
        clear hv
        go_wp2
        go_roundw
        case rel => exact ⟨k + 1, by omega, by first | rfl | (congr 1), H3.out, HG.out⟩
        case measure => simp [intOf]; omega
      | false =>
        rw [hv] at c2 HT2 BF
        clear hv
        have C1 := Lib.hid (CF.out wr (gb_refl _ _))
        unfold RetV at C1
        cases ba with
        | false =>
          have H3 := Lib.hid (HT2.out (.inr rfl))
          go_wp2_with (go_at_call 139; refine C1.out.mono ?_; clear C1; rintro e w5 ⟨rfl, g5⟩; have G5 := Lib.hid (gb_trans HG.out g5); clear g5)
          go_roundw
          case rel => exact ⟨k + 1, by omega, by first | rfl | (congr 1), H3.out, G5.out⟩
          case measure => simp [intOf]; omega
        | true =>
          have BB := Lib.hid (BF.out rfl rfl)
          go_wp2_with (go_at_call 139; refine C1.out.mono ?_; clear C1; rintro e w5 ⟨rfl, g5⟩; have G5 := Lib.hid (gb_trans HG.out g5); clear g5)
          go_ret
          exact ⟨by rw [BB.out] <;> rfl, gb_trans GB.out G5.out⟩
    · have i1 : ¬ (k : Int) < X.fn := by omega
      obtain rfl : k = X.fn := by omega
      have BB := Lib.hid (show bo = true from HBO.out.2 fun h hh => HT.out h (by rw [HE.out.f.len] at hh; exact hh))
      go_wp2
      go_ret
      exact ⟨by rw [BB.out] <;> rfl, gb_trans GB.out HG.out⟩
/-- What Check answers. -/
def chkE (H : List (ByteArray × List Fld)) (M : List Fld) (L : EL) (e : Int) : Prop := (¬ shP H M L ∧ e = 2) ∨ (shP H M L ∧ ¬ ftP (dclL H M) (L.T :: L.F) ∧ e = 9) ∨ (shP H M L ∧ ftP (dclL H M) (L.T :: L.F) ∧ ¬ zrP L ∧ e = 5) ∨ (shP H M L ∧ ftP (dclL H M) (L.T :: L.F) ∧ zrP L ∧ e = 0)
set_option maxRecDepth 100000 in
set_option maxHeartbeats 4000000 in
theorem echeck_any (w : World) (nm v3 v4 v5 v6 v7 v8 : Value) (ha ma : Option Addr) (hn hc mn mc : Nat) (H : List (ByteArray × List Fld)) (M : List Fld) (hH : SH w ha hn hc H) (hM : SF w ma mn mc M) (X : EX) (L : EL) (he : ER w X L) (hz9 : X.fn ≤ 5864062014634) (hz : shP H M L → EZ X L) (hb : hn ≤ 100000) (hm : ∀ j, ((dclL H M).getD j []).length ≤ 100000) (r : Int) (hr : chkE H M L r) :
    Calls Try.prog 91 #[.agg #[nm, .slice ha hn hc, .slice ma mn mc, v3, v4, v5, v6, v7, v8], .agg #[.slice X.va X.vn X.vc, .slice X.fa X.fn X.fc, .slice X.ta X.tn X.tc, .slice X.pa X.pn X.pc]] w (RetV (.int .i64 r) w) := by
  have Q1 := Lib.hid (fun (b : Bool) (h : b = true ↔ shP H M L) (w2 : World) (q : w.grownBy w2 none) => eshape_any w2 nm v3 v4 v5 v6 v7 v8 ha ma hn hc mn mc H M (hH.keep0 q) (hM.keep0 q) X L (he.keep0 q) hz9 hb b h)
  have Q2 := Lib.hid (fun (hs : shP H M L) (b : Bool) (h : b = true ↔ ftP (dclL H M) (L.T :: L.F)) (w2 : World) (q : w.grownBy w2 none) => efit_any w2 nm v3 v4 v5 v6 v7 v8 ha ma hn hc mn mc H M (hH.keep0 q) (hM.keep0 q) X L (he.keep0 q) (hz hs) hb hm hs b h)
  have Q3 := Lib.hid (fun (hs : shP H M L) (b : Bool) (h : b = true ↔ zrP L) (w2 : World) (q : w.grownBy w2 none) => ezero_any w2 X L (he.keep0 q) (hz hs) (by have a := he.v.len; have c := he.f.len; have d := hs.1; have f := hs.2.1; rw [dcl_len] at f; simp at f; omega) b h)
  have GB := Lib.hid (gb_trans (gb_alloc w (.cells #[nm, .slice ha hn hc, .slice ma mn mc, v3, v4, v5, v6, v7, v8] 31) none) (gb_alloc _ (.cells #[.slice X.va X.vn X.vc, .slice X.fa X.fn X.fc, .slice X.ta X.tn X.tc, .slice X.pa X.pn X.pc] 42) none))
  have B1 := (IsB.new w 31 #[nm, .slice ha hn hc, .slice ma mn mc, v3, v4, v5, v6, v7, v8]).alloc (.cells #[.slice X.va X.vn X.vc, .slice X.fa X.fn X.fc, .slice X.ta X.tn X.tc, .slice X.pa X.pn X.pc] 42)
  have B2 := IsB.new (w.alloc (.cells #[nm, .slice ha hn hc, .slice ma mn mc, v3, v4, v5, v6, v7, v8] 31)) 42 #[.slice X.va X.vn X.vc, .slice X.fa X.fn X.fc, .slice X.ta X.tn X.tc, .slice X.pa X.pn X.pc]
  simp only [sz_al] at B2
  replace B1 := Lib.hid B1
  replace B2 := Lib.hid B2
  clear he hz hz9 hH hM hb hm
  unfold RetV at Q1 Q2 Q3
  rcases hr with ⟨h1, rfl⟩ | ⟨h1, h2, rfl⟩ | ⟨h1, h2, h3, rfl⟩ | ⟨h1, h2, h3, rfl⟩
  · have R1 := Lib.hid (Q1.out false ⟨fun q => (by cases q), fun q => absurd q h1⟩)
    go_enter Try.func91, Try.ntmps91
    go_upto_region 1 with fail
    generalize (w.alloc (.cells #[nm, .slice ha hn hc, .slice ma mn mc, v3, v4, v5, v6, v7, v8] 31)).alloc (.cells #[.slice X.va X.vn X.vc, .slice X.fa X.fn X.fc, .slice X.ta X.tn X.tc, .slice X.pa X.pn X.pc] 42) = w2 at *
    obtain ⟨bx, hbx⟩ : ∃ b, b = w.heap.size := ⟨_, rfl⟩
    have Lbx := Lib.hid (show w.heap.size ≤ bx by rw [hbx]; exact Nat.le_refl _)
    rw [← hbx] at B1 B2 ⊢
    clear hbx
    have c0 := B1.out.cell 0
    have c1 := B1.out.cell 1
    have c2 := B1.out.cell 2
    have c3 := B1.out.cell 3
    have c4 := B1.out.cell 4
    have c5 := B1.out.cell 5
    have c6 := B1.out.cell 6
    have c7 := B1.out.cell 7
    have c8 := B1.out.cell 8
    dsimp at c0 c1 c2 c3 c4 c5 c6 c7 c8
    have x0 := B2.out.cell 0
    have x1 := B2.out.cell 1
    have x2 := B2.out.cell 2
    have x3 := B2.out.cell 3
    dsimp at x0 x1 x2 x3
    go_wp2_with (first
      | (go_at_call 118; refine (R1.out _ GB.out).mono ?_; rintro e u1 ⟨rfl, g⟩; have GB1 := Lib.hid (gb_trans GB.out g); have B1 := Lib.hid (B1.out.keep0 g); have B2 := Lib.hid (B2.out.keep0 g); have c0 := B1.out.cell 0; have c1 := B1.out.cell 1; have c2 := B1.out.cell 2; have c3 := B1.out.cell 3; have c4 := B1.out.cell 4; have c5 := B1.out.cell 5; have c6 := B1.out.cell 6; have c7 := B1.out.cell 7; have c8 := B1.out.cell 8; dsimp at c0 c1 c2 c3 c4 c5 c6 c7 c8; have x0 := B2.out.cell 0; have x1 := B2.out.cell 1; have x2 := B2.out.cell 2; have x3 := B2.out.cell 3; dsimp at x0 x1 x2 x3; clear g))
    go_ret
    exact ⟨rfl, GB1.out⟩
  · have R1 := Lib.hid (Q1.out true ⟨fun _ => h1, fun _ => rfl⟩)
    have R2 := Lib.hid (Q2.out h1 false ⟨fun q => (by cases q), fun q => absurd q h2⟩)
    go_enter Try.func91, Try.ntmps91
    go_upto_region 1 with fail
    generalize (w.alloc (.cells #[nm, .slice ha hn hc, .slice ma mn mc, v3, v4, v5, v6, v7, v8] 31)).alloc (.cells #[.slice X.va X.vn X.vc, .slice X.fa X.fn X.fc, .slice X.ta X.tn X.tc, .slice X.pa X.pn X.pc] 42) = w2 at *
    obtain ⟨bx, hbx⟩ : ∃ b, b = w.heap.size := ⟨_, rfl⟩
    have Lbx := Lib.hid (show w.heap.size ≤ bx by rw [hbx]; exact Nat.le_refl _)
    rw [← hbx] at B1 B2 ⊢
    clear hbx
    have c0 := B1.out.cell 0
    have c1 := B1.out.cell 1
    have c2 := B1.out.cell 2
    have c3 := B1.out.cell 3
    have c4 := B1.out.cell 4
    have c5 := B1.out.cell 5
    have c6 := B1.out.cell 6
    have c7 := B1.out.cell 7
    have c8 := B1.out.cell 8
    dsimp at c0 c1 c2 c3 c4 c5 c6 c7 c8
    have x0 := B2.out.cell 0
    have x1 := B2.out.cell 1
    have x2 := B2.out.cell 2
    have x3 := B2.out.cell 3
    dsimp at x0 x1 x2 x3
    go_wp2_with (first
      | (go_at_call 118; refine (R1.out _ GB.out).mono ?_; rintro e u1 ⟨rfl, g⟩; have GB1 := Lib.hid (gb_trans GB.out g); have B1 := Lib.hid (B1.out.keep0 g); have B2 := Lib.hid (B2.out.keep0 g); have c0 := B1.out.cell 0; have c1 := B1.out.cell 1; have c2 := B1.out.cell 2; have c3 := B1.out.cell 3; have c4 := B1.out.cell 4; have c5 := B1.out.cell 5; have c6 := B1.out.cell 6; have c7 := B1.out.cell 7; have c8 := B1.out.cell 8; dsimp at c0 c1 c2 c3 c4 c5 c6 c7 c8; have x0 := B2.out.cell 0; have x1 := B2.out.cell 1; have x2 := B2.out.cell 2; have x3 := B2.out.cell 3; dsimp at x0 x1 x2 x3; clear g)
      | (go_at_call 119; refine (R2.out _ GB1.out).mono ?_; rintro e u2 ⟨rfl, g⟩; have GB2 := Lib.hid (gb_trans GB1.out g); have B1 := Lib.hid (B1.out.keep0 g); have B2 := Lib.hid (B2.out.keep0 g); have c0 := B1.out.cell 0; have c1 := B1.out.cell 1; have c2 := B1.out.cell 2; have c3 := B1.out.cell 3; have c4 := B1.out.cell 4; have c5 := B1.out.cell 5; have c6 := B1.out.cell 6; have c7 := B1.out.cell 7; have c8 := B1.out.cell 8; dsimp at c0 c1 c2 c3 c4 c5 c6 c7 c8; have x0 := B2.out.cell 0; have x1 := B2.out.cell 1; have x2 := B2.out.cell 2; have x3 := B2.out.cell 3; dsimp at x0 x1 x2 x3; clear g))
    go_ret
    exact ⟨rfl, GB2.out⟩
  · have R1 := Lib.hid (Q1.out true ⟨fun _ => h1, fun _ => rfl⟩)
    have R2 := Lib.hid (Q2.out h1 true ⟨fun _ => h2, fun _ => rfl⟩)
    have R3 := Lib.hid (Q3.out h1 false ⟨fun q => (by cases q), fun q => absurd q h3⟩)
    go_enter Try.func91, Try.ntmps91
    go_upto_region 1 with fail
    generalize (w.alloc (.cells #[nm, .slice ha hn hc, .slice ma mn mc, v3, v4, v5, v6, v7, v8] 31)).alloc (.cells #[.slice X.va X.vn X.vc, .slice X.fa X.fn X.fc, .slice X.ta X.tn X.tc, .slice X.pa X.pn X.pc] 42) = w2 at *
    obtain ⟨bx, hbx⟩ : ∃ b, b = w.heap.size := ⟨_, rfl⟩
    have Lbx := Lib.hid (show w.heap.size ≤ bx by rw [hbx]; exact Nat.le_refl _)
    rw [← hbx] at B1 B2 ⊢
    clear hbx
    have c0 := B1.out.cell 0
    have c1 := B1.out.cell 1
    have c2 := B1.out.cell 2
    have c3 := B1.out.cell 3
    have c4 := B1.out.cell 4
    have c5 := B1.out.cell 5
    have c6 := B1.out.cell 6
    have c7 := B1.out.cell 7
    have c8 := B1.out.cell 8
    dsimp at c0 c1 c2 c3 c4 c5 c6 c7 c8
    have x0 := B2.out.cell 0
    have x1 := B2.out.cell 1
    have x2 := B2.out.cell 2
    have x3 := B2.out.cell 3
    dsimp at x0 x1 x2 x3
    go_wp2_with (first
      | (go_at_call 118; refine (R1.out _ GB.out).mono ?_; rintro e u1 ⟨rfl, g⟩; have GB1 := Lib.hid (gb_trans GB.out g); have B1 := Lib.hid (B1.out.keep0 g); have B2 := Lib.hid (B2.out.keep0 g); have c0 := B1.out.cell 0; have c1 := B1.out.cell 1; have c2 := B1.out.cell 2; have c3 := B1.out.cell 3; have c4 := B1.out.cell 4; have c5 := B1.out.cell 5; have c6 := B1.out.cell 6; have c7 := B1.out.cell 7; have c8 := B1.out.cell 8; dsimp at c0 c1 c2 c3 c4 c5 c6 c7 c8; have x0 := B2.out.cell 0; have x1 := B2.out.cell 1; have x2 := B2.out.cell 2; have x3 := B2.out.cell 3; dsimp at x0 x1 x2 x3; clear g)
      | (go_at_call 119; refine (R2.out _ GB1.out).mono ?_; rintro e u2 ⟨rfl, g⟩; have GB2 := Lib.hid (gb_trans GB1.out g); have B1 := Lib.hid (B1.out.keep0 g); have B2 := Lib.hid (B2.out.keep0 g); have c0 := B1.out.cell 0; have c1 := B1.out.cell 1; have c2 := B1.out.cell 2; have c3 := B1.out.cell 3; have c4 := B1.out.cell 4; have c5 := B1.out.cell 5; have c6 := B1.out.cell 6; have c7 := B1.out.cell 7; have c8 := B1.out.cell 8; dsimp at c0 c1 c2 c3 c4 c5 c6 c7 c8; have x0 := B2.out.cell 0; have x1 := B2.out.cell 1; have x2 := B2.out.cell 2; have x3 := B2.out.cell 3; dsimp at x0 x1 x2 x3; clear g)
      | (go_at_call 120; refine (R3.out _ GB2.out).mono ?_; rintro e u3 ⟨rfl, g⟩; have GB3 := Lib.hid (gb_trans GB2.out g); have B1 := Lib.hid (B1.out.keep0 g); have B2 := Lib.hid (B2.out.keep0 g); have c0 := B1.out.cell 0; have c1 := B1.out.cell 1; have c2 := B1.out.cell 2; have c3 := B1.out.cell 3; have c4 := B1.out.cell 4; have c5 := B1.out.cell 5; have c6 := B1.out.cell 6; have c7 := B1.out.cell 7; have c8 := B1.out.cell 8; dsimp at c0 c1 c2 c3 c4 c5 c6 c7 c8; have x0 := B2.out.cell 0; have x1 := B2.out.cell 1; have x2 := B2.out.cell 2; have x3 := B2.out.cell 3; dsimp at x0 x1 x2 x3; clear g))
    go_ret
    exact ⟨rfl, GB3.out⟩
  · have R1 := Lib.hid (Q1.out true ⟨fun _ => h1, fun _ => rfl⟩)
    have R2 := Lib.hid (Q2.out h1 true ⟨fun _ => h2, fun _ => rfl⟩)
    have R3 := Lib.hid (Q3.out h1 true ⟨fun _ => h3, fun _ => rfl⟩)
    go_enter Try.func91, Try.ntmps91
    go_upto_region 1 with fail
    generalize (w.alloc (.cells #[nm, .slice ha hn hc, .slice ma mn mc, v3, v4, v5, v6, v7, v8] 31)).alloc (.cells #[.slice X.va X.vn X.vc, .slice X.fa X.fn X.fc, .slice X.ta X.tn X.tc, .slice X.pa X.pn X.pc] 42) = w2 at *
    obtain ⟨bx, hbx⟩ : ∃ b, b = w.heap.size := ⟨_, rfl⟩
    have Lbx := Lib.hid (show w.heap.size ≤ bx by rw [hbx]; exact Nat.le_refl _)
    rw [← hbx] at B1 B2 ⊢
    clear hbx
    have c0 := B1.out.cell 0
    have c1 := B1.out.cell 1
    have c2 := B1.out.cell 2
    have c3 := B1.out.cell 3
    have c4 := B1.out.cell 4
    have c5 := B1.out.cell 5
    have c6 := B1.out.cell 6
    have c7 := B1.out.cell 7
    have c8 := B1.out.cell 8
    dsimp at c0 c1 c2 c3 c4 c5 c6 c7 c8
    have x0 := B2.out.cell 0
    have x1 := B2.out.cell 1
    have x2 := B2.out.cell 2
    have x3 := B2.out.cell 3
    dsimp at x0 x1 x2 x3
    go_wp2_with (first
      | (go_at_call 118; refine (R1.out _ GB.out).mono ?_; rintro e u1 ⟨rfl, g⟩; have GB1 := Lib.hid (gb_trans GB.out g); have B1 := Lib.hid (B1.out.keep0 g); have B2 := Lib.hid (B2.out.keep0 g); have c0 := B1.out.cell 0; have c1 := B1.out.cell 1; have c2 := B1.out.cell 2; have c3 := B1.out.cell 3; have c4 := B1.out.cell 4; have c5 := B1.out.cell 5; have c6 := B1.out.cell 6; have c7 := B1.out.cell 7; have c8 := B1.out.cell 8; dsimp at c0 c1 c2 c3 c4 c5 c6 c7 c8; have x0 := B2.out.cell 0; have x1 := B2.out.cell 1; have x2 := B2.out.cell 2; have x3 := B2.out.cell 3; dsimp at x0 x1 x2 x3; clear g)
      | (go_at_call 119; refine (R2.out _ GB1.out).mono ?_; rintro e u2 ⟨rfl, g⟩; have GB2 := Lib.hid (gb_trans GB1.out g); have B1 := Lib.hid (B1.out.keep0 g); have B2 := Lib.hid (B2.out.keep0 g); have c0 := B1.out.cell 0; have c1 := B1.out.cell 1; have c2 := B1.out.cell 2; have c3 := B1.out.cell 3; have c4 := B1.out.cell 4; have c5 := B1.out.cell 5; have c6 := B1.out.cell 6; have c7 := B1.out.cell 7; have c8 := B1.out.cell 8; dsimp at c0 c1 c2 c3 c4 c5 c6 c7 c8; have x0 := B2.out.cell 0; have x1 := B2.out.cell 1; have x2 := B2.out.cell 2; have x3 := B2.out.cell 3; dsimp at x0 x1 x2 x3; clear g)
      | (go_at_call 120; refine (R3.out _ GB2.out).mono ?_; rintro e u3 ⟨rfl, g⟩; have GB3 := Lib.hid (gb_trans GB2.out g); have B1 := Lib.hid (B1.out.keep0 g); have B2 := Lib.hid (B2.out.keep0 g); have c0 := B1.out.cell 0; have c1 := B1.out.cell 1; have c2 := B1.out.cell 2; have c3 := B1.out.cell 3; have c4 := B1.out.cell 4; have c5 := B1.out.cell 5; have c6 := B1.out.cell 6; have c7 := B1.out.cell 7; have c8 := B1.out.cell 8; dsimp at c0 c1 c2 c3 c4 c5 c6 c7 c8; have x0 := B2.out.cell 0; have x1 := B2.out.cell 1; have x2 := B2.out.cell 2; have x3 := B2.out.cell 3; dsimp at x0 x1 x2 x3; clear g))
    go_ret
    exact ⟨rfl, GB3.out⟩
end Go.Proofs.Ytglgjkggjpfahaa
