/- Entries: the law works; no condition. -/
import Derived.Test.YtgdefahnmgonlaaEnH
import Derived.Test.YtgdefahnmgonlaaEnE
namespace Go.Proofs.Ytgdefahnmgonlaa
open Go.RowKit
set_option linter.unusedVariables false
def P0 : Pg := ⟨[], [(⟨#[105, 110]⟩, 8)], [], [⟨⟨#[110, 111, 112]⟩, [], []⟩], [⟨⟨#[116]⟩, [⟨-1, 0, 2⟩], [0], 0, [], 4⟩], [], []⟩
def X0 (b : Nat) : PX := ⟨⟨#[]⟩, none, 0, 0, some ⟨b + 1, 0, none⟩, 1, 1, none, 0, 0, some ⟨b + 1 + 1, 0, none⟩, 1, 1, some ⟨b + 1 + 1 + 1 + 1 + 1, 0, none⟩, 1, 1, none, 0, 0, none, 0, 0, none, 0, 0⟩
theorem adT (g j : Nat) : ((⟨g, 0, none⟩ : Addr).add j) = ⟨g, j, none⟩ := by unfold Addr.add; split <;> simp_all
theorem u1_one {w : World} {g : Nat} {t : TypeId} {x : Int} (h : IsB w g t #[.int .u32 x]) (hx : 0 ≤ x ∧ x < 4294967296) : SU w (some ⟨g, 0, none⟩) 1 1 [x] := by
  refine ⟨rfl, (fun e => by cases e), Nat.le_refl _, fun ad e j hj => ?_, fun z hz => ?_⟩
  · injection e with e
    subst e
    rw [adT]
    obtain rfl : j = 0 := by omega
    exact h.cell 0
  · simp at hz
    subst hz
    exact hx
theorem i1_one {w : World} {g : Nat} {t : TypeId} {x : Int} (h : IsB w g t #[.int .i64 x]) (hx : -9223372036854775808 ≤ x ∧ x ≤ 9223372036854775807) : SI w (some ⟨g, 0, none⟩) 1 1 [x] := by
  refine ⟨rfl, (fun e => by cases e), Nat.le_refl _, fun ad e j hj => ?_, fun z hz => ?_⟩
  · injection e with e
    subst e
    rw [adT]
    obtain rfl : j = 0 := by omega
    exact h.cell 0
  · simp at hz
    subst hz
    exact hx
theorem km_one {w : World} {g : Nat} {t : TypeId} {v m : Int} (h : IsB w g t #[.int .u32 v, .int .u32 m]) (hv : 0 ≤ v ∧ v < 4294967296) (hm : 0 ≤ m ∧ m < 4294967296) : SKm w (some ⟨g, 0, none⟩) 1 1 [⟨v, m⟩] := by
  refine ⟨rfl, (fun e => by cases e), Nat.le_refl _, fun ad e j hj => ?_⟩
  injection e with e
  subst e
  rw [adT]
  have hj : j < 1 := hj
  obtain rfl : j = 0 := by omega
  exact ⟨⟨h.cell 0, hv⟩, h.cell 1, hm⟩
/-- An entry of one key, the rest zero. -/
def E1 (v m : Int) : En := ⟨[⟨v, m⟩], 0, 0, []⟩
def Y1 (g : Nat) : EX := ⟨some ⟨g, 0, none⟩, 1, 1, none, 0, 0⟩
theorem se_one {w : World} {g : Nat} {t : TypeId} {v m : Int} (h : IsB w g t #[.int .u32 v, .int .u32 m]) (hv : 0 ≤ v ∧ v < 4294967296) (hm : 0 ≤ m ∧ m < 4294967296) : SE w (Y1 g) (E1 v m) := ⟨km_one h hv hm, su_nil w, (show -9223372036854775808 ≤ (0 : Int) ∧ (0 : Int) ≤ 9223372036854775807 by decide), (show -9223372036854775808 ≤ (0 : Int) ∧ (0 : Int) ≤ 9223372036854775807 by decide)⟩
theorem sp0 {w : World} {b : Nat} (h0 : IsB w (b + 1) 94 #[.string ⟨#[105, 110]⟩, .int .i64 8]) (h1 : IsB w (b + 1 + 1) 74 #[.string ⟨#[110, 111, 112]⟩, .slice none 0 0, .slice none 0 0])
    (h2 : IsB w (b + 1 + 1 + 1) 64 #[.int .i64 (-1), .int .i64 0, .int .i64 2]) (h3 : IsB w (b + 1 + 1 + 1 + 1) 3 #[.int .i64 0])
    (h5 : IsB w (b + 1 + 1 + 1 + 1 + 1) 60 #[.string ⟨#[116]⟩, .slice (some ⟨b + 1 + 1 + 1, 0, none⟩) 1 1, .slice (some ⟨b + 1 + 1 + 1 + 1, 0, none⟩) 1 1, .int .i64 0, .slice none 0 0, .int .i64 4]) : SP w (X0 b) P0 := by
  refine ⟨⟨rfl, fun _ => ⟨rfl, rfl⟩, Nat.le_refl _, fun ad e j hj => by cases e⟩, ⟨rfl, (fun e => by cases e), Nat.le_refl _, fun ad e j hj => ?_⟩, sl_nil _, ⟨rfl, (fun e => by cases e), Nat.le_refl _, fun ad e j hj => ?_⟩, ⟨rfl, (fun e => by cases e), Nat.le_refl _, fun ad e j hj => ?_⟩, sl_nil _, si_nil _⟩
  · injection e with e
    subst e
    rw [adT]
    have hj : j < 1 := hj
    obtain rfl : j = 0 := by omega
    exact ⟨h0.cell 0, h0.cell 1⟩
  · injection e with e
    subst e
    rw [adT]
    have hj : j < 1 := hj
    obtain rfl : j = 0 := by omega
    exact ⟨h1.cell 0, ⟨_, _, _, h1.cell 1, sf_nil _⟩, ⟨_, _, _, h1.cell 2, sl_nil _⟩⟩
  · injection e with e
    subst e
    rw [adT]
    have hj : j < 1 := hj
    have k : SKy w (some ⟨b + 1 + 1 + 1, 0, none⟩) 1 1 [⟨-1, 0, 2⟩] := by
      refine ⟨rfl, (fun e => by cases e), Nat.le_refl _, fun ad e i hi => ?_⟩
      injection e with e
      subst e
      rw [adT]
      have hi : i < 1 := hi
      obtain rfl : i = 0 := by omega
      exact ⟨h2.cell 0, h2.cell 1, h2.cell 2⟩
    obtain rfl : j = 0 := by omega
    exact ⟨h5.cell 0, ⟨_, _, _, h5.cell 1, k⟩, ⟨_, _, _, h5.cell 2, i1_one h3 (by decide)⟩, ⟨h5.cell 3, by decide, by decide⟩, ⟨_, _, _, h5.cell 4, su_nil _⟩, h5.cell 5⟩
theorem z0 : szT P0 := by unfold szT; decide +kernel
def RetP0 (w : World) (e : Ending) (w' : World) : Prop := ∃ b, e = .returned (.agg #[.string ⟨#[]⟩, .slice none 0 0, .slice (some ⟨b + 1, 0, none⟩) 1 1, .slice none 0 0, .slice (some ⟨b + 1 + 1, 0, none⟩) 1 1, .slice (some ⟨b + 1 + 1 + 1 + 1 + 1, 0, none⟩) 1 1, .slice none 0 0, .slice none 0 0, .slice none 0 0]) ∧ SP w' (X0 b) P0 ∧ w.grownBy w' none
set_option maxRecDepth 100000 in
set_option maxHeartbeats 4000000 in
theorem prog0_any (w : World) : Calls Try.prog 24 #[.int .i64 2] w (RetP0 w) := by
  have G1 := Lib.hid (gb_trans (gb_trans (gb_trans (gb_trans (gb_trans (gb_alloc w (.cells #[.string ⟨#[]⟩, .slice none 0 0, .slice (some ⟨w.heap.size + 1, 0, none⟩) 1 1, .slice none 0 0, .slice (some ⟨w.heap.size + 1 + 1, 0, none⟩) 1 1, .slice (some ⟨w.heap.size + 1 + 1 + 1 + 1 + 1, 0, none⟩) 1 1, .slice none 0 0, .slice none 0 0, .slice none 0 0] 31) none) (gb_alloc _ (.cells #[.string ⟨#[105, 110]⟩, .int .i64 8] 94) none)) (gb_alloc _ (.cells #[.string ⟨#[110, 111, 112]⟩, .slice none 0 0, .slice none 0 0] 74) none)) (gb_alloc _ (.cells #[.int .i64 (-1), .int .i64 0, .int .i64 2] 64) none)) (gb_alloc _ (.cells #[.int .i64 0] 3) none)) (gb_alloc _ (.cells #[.string ⟨#[116]⟩, .slice (some ⟨w.heap.size + 1 + 1 + 1, 0, none⟩) 1 1, .slice (some ⟨w.heap.size + 1 + 1 + 1 + 1, 0, none⟩) 1 1, .int .i64 0, .slice none 0 0, .int .i64 4] 60) none))
  have B0 := (((((IsB.new w 31 #[.string ⟨#[]⟩, .slice none 0 0, .slice (some ⟨w.heap.size + 1, 0, none⟩) 1 1, .slice none 0 0, .slice (some ⟨w.heap.size + 1 + 1, 0, none⟩) 1 1, .slice (some ⟨w.heap.size + 1 + 1 + 1 + 1 + 1, 0, none⟩) 1 1, .slice none 0 0, .slice none 0 0, .slice none 0 0]).alloc (.cells #[.string ⟨#[105, 110]⟩, .int .i64 8] 94)).alloc (.cells #[.string ⟨#[110, 111, 112]⟩, .slice none 0 0, .slice none 0 0] 74)).alloc (.cells #[.int .i64 (-1), .int .i64 0, .int .i64 2] 64)).alloc (.cells #[.int .i64 0] 3)).alloc (.cells #[.string ⟨#[116]⟩, .slice (some ⟨w.heap.size + 1 + 1 + 1, 0, none⟩) 1 1, .slice (some ⟨w.heap.size + 1 + 1 + 1 + 1, 0, none⟩) 1 1, .int .i64 0, .slice none 0 0, .int .i64 4] 60)
  have B1 := ((((IsB.new (w.alloc (.cells #[.string ⟨#[]⟩, .slice none 0 0, .slice (some ⟨w.heap.size + 1, 0, none⟩) 1 1, .slice none 0 0, .slice (some ⟨w.heap.size + 1 + 1, 0, none⟩) 1 1, .slice (some ⟨w.heap.size + 1 + 1 + 1 + 1 + 1, 0, none⟩) 1 1, .slice none 0 0, .slice none 0 0, .slice none 0 0] 31)) 94 #[.string ⟨#[105, 110]⟩, .int .i64 8]).alloc (.cells #[.string ⟨#[110, 111, 112]⟩, .slice none 0 0, .slice none 0 0] 74)).alloc (.cells #[.int .i64 (-1), .int .i64 0, .int .i64 2] 64)).alloc (.cells #[.int .i64 0] 3)).alloc (.cells #[.string ⟨#[116]⟩, .slice (some ⟨w.heap.size + 1 + 1 + 1, 0, none⟩) 1 1, .slice (some ⟨w.heap.size + 1 + 1 + 1 + 1, 0, none⟩) 1 1, .int .i64 0, .slice none 0 0, .int .i64 4] 60)
  have B2 := (((IsB.new ((w.alloc (.cells #[.string ⟨#[]⟩, .slice none 0 0, .slice (some ⟨w.heap.size + 1, 0, none⟩) 1 1, .slice none 0 0, .slice (some ⟨w.heap.size + 1 + 1, 0, none⟩) 1 1, .slice (some ⟨w.heap.size + 1 + 1 + 1 + 1 + 1, 0, none⟩) 1 1, .slice none 0 0, .slice none 0 0, .slice none 0 0] 31)).alloc (.cells #[.string ⟨#[105, 110]⟩, .int .i64 8] 94)) 74 #[.string ⟨#[110, 111, 112]⟩, .slice none 0 0, .slice none 0 0]).alloc (.cells #[.int .i64 (-1), .int .i64 0, .int .i64 2] 64)).alloc (.cells #[.int .i64 0] 3)).alloc (.cells #[.string ⟨#[116]⟩, .slice (some ⟨w.heap.size + 1 + 1 + 1, 0, none⟩) 1 1, .slice (some ⟨w.heap.size + 1 + 1 + 1 + 1, 0, none⟩) 1 1, .int .i64 0, .slice none 0 0, .int .i64 4] 60)
  have B3 := ((IsB.new (((w.alloc (.cells #[.string ⟨#[]⟩, .slice none 0 0, .slice (some ⟨w.heap.size + 1, 0, none⟩) 1 1, .slice none 0 0, .slice (some ⟨w.heap.size + 1 + 1, 0, none⟩) 1 1, .slice (some ⟨w.heap.size + 1 + 1 + 1 + 1 + 1, 0, none⟩) 1 1, .slice none 0 0, .slice none 0 0, .slice none 0 0] 31)).alloc (.cells #[.string ⟨#[105, 110]⟩, .int .i64 8] 94)).alloc (.cells #[.string ⟨#[110, 111, 112]⟩, .slice none 0 0, .slice none 0 0] 74)) 64 #[.int .i64 (-1), .int .i64 0, .int .i64 2]).alloc (.cells #[.int .i64 0] 3)).alloc (.cells #[.string ⟨#[116]⟩, .slice (some ⟨w.heap.size + 1 + 1 + 1, 0, none⟩) 1 1, .slice (some ⟨w.heap.size + 1 + 1 + 1 + 1, 0, none⟩) 1 1, .int .i64 0, .slice none 0 0, .int .i64 4] 60)
  have B4 := (IsB.new ((((w.alloc (.cells #[.string ⟨#[]⟩, .slice none 0 0, .slice (some ⟨w.heap.size + 1, 0, none⟩) 1 1, .slice none 0 0, .slice (some ⟨w.heap.size + 1 + 1, 0, none⟩) 1 1, .slice (some ⟨w.heap.size + 1 + 1 + 1 + 1 + 1, 0, none⟩) 1 1, .slice none 0 0, .slice none 0 0, .slice none 0 0] 31)).alloc (.cells #[.string ⟨#[105, 110]⟩, .int .i64 8] 94)).alloc (.cells #[.string ⟨#[110, 111, 112]⟩, .slice none 0 0, .slice none 0 0] 74)).alloc (.cells #[.int .i64 (-1), .int .i64 0, .int .i64 2] 64)) 3 #[.int .i64 0]).alloc (.cells #[.string ⟨#[116]⟩, .slice (some ⟨w.heap.size + 1 + 1 + 1, 0, none⟩) 1 1, .slice (some ⟨w.heap.size + 1 + 1 + 1 + 1, 0, none⟩) 1 1, .int .i64 0, .slice none 0 0, .int .i64 4] 60)
  have B5 := IsB.new (((((w.alloc (.cells #[.string ⟨#[]⟩, .slice none 0 0, .slice (some ⟨w.heap.size + 1, 0, none⟩) 1 1, .slice none 0 0, .slice (some ⟨w.heap.size + 1 + 1, 0, none⟩) 1 1, .slice (some ⟨w.heap.size + 1 + 1 + 1 + 1 + 1, 0, none⟩) 1 1, .slice none 0 0, .slice none 0 0, .slice none 0 0] 31)).alloc (.cells #[.string ⟨#[105, 110]⟩, .int .i64 8] 94)).alloc (.cells #[.string ⟨#[110, 111, 112]⟩, .slice none 0 0, .slice none 0 0] 74)).alloc (.cells #[.int .i64 (-1), .int .i64 0, .int .i64 2] 64)).alloc (.cells #[.int .i64 0] 3)) 60 #[.string ⟨#[116]⟩, .slice (some ⟨w.heap.size + 1 + 1 + 1, 0, none⟩) 1 1, .slice (some ⟨w.heap.size + 1 + 1 + 1 + 1, 0, none⟩) 1 1, .int .i64 0, .slice none 0 0, .int .i64 4]
  simp only [sz_al] at B1 B2 B3 B4 B5
  replace B0 := Lib.hid B0
  replace B1 := Lib.hid B1
  replace B2 := Lib.hid B2
  replace B3 := Lib.hid B3
  replace B4 := Lib.hid B4
  replace B5 := Lib.hid B5
  go_enter Try.func24, Try.ntmps24
  go_wp2
  generalize (((((w.alloc (.cells #[.string ⟨#[]⟩, .slice none 0 0, .slice (some ⟨w.heap.size + 1, 0, none⟩) 1 1, .slice none 0 0, .slice (some ⟨w.heap.size + 1 + 1, 0, none⟩) 1 1, .slice (some ⟨w.heap.size + 1 + 1 + 1 + 1 + 1, 0, none⟩) 1 1, .slice none 0 0, .slice none 0 0, .slice none 0 0] 31)).alloc (.cells #[.string ⟨#[105, 110]⟩, .int .i64 8] 94)).alloc (.cells #[.string ⟨#[110, 111, 112]⟩, .slice none 0 0, .slice none 0 0] 74)).alloc (.cells #[.int .i64 (-1), .int .i64 0, .int .i64 2] 64)).alloc (.cells #[.int .i64 0] 3)).alloc (.cells #[.string ⟨#[116]⟩, .slice (some ⟨w.heap.size + 1 + 1 + 1, 0, none⟩) 1 1, .slice (some ⟨w.heap.size + 1 + 1 + 1 + 1, 0, none⟩) 1 1, .int .i64 0, .slice none 0 0, .int .i64 4] 60) = w1 at *
  obtain ⟨bx, hbx⟩ : ∃ b, b = w.heap.size := ⟨_, rfl⟩
  have Lbx := Lib.hid (show w.heap.size ≤ bx by rw [hbx]; exact Nat.le_refl _)
  rw [← hbx] at B0 B1 B2 B3 B4 B5 ⊢
  clear hbx
  have c0 := B0.out.cell 0
  have c1 := B0.out.cell 1
  have c2 := B0.out.cell 2
  have c3 := B0.out.cell 3
  have c4 := B0.out.cell 4
  have c5 := B0.out.cell 5
  have c6 := B0.out.cell 6
  have c7 := B0.out.cell 7
  have c8 := B0.out.cell 8
  dsimp at c0 c1 c2 c3 c4 c5 c6 c7 c8
  refine bodyPost_ret (v := .agg #[.string ⟨#[]⟩, .slice none 0 0, .slice (some ⟨bx + 1, 0, none⟩) 1 1, .slice none 0 0, .slice (some ⟨bx + 1 + 1, 0, none⟩) 1 1, .slice (some ⟨bx + 1 + 1 + 1 + 1 + 1, 0, none⟩) 1 1, .slice none 0 0, .slice none 0 0, .slice none 0 0]) (by rw [results_cell1 rfl]; go_simp) rfl ⟨bx, rfl, sp0 B1.out B2.out B3.out B4.out B5.out, G1.out⟩
theorem wchk (w : World) (b g : Nat) (s : SP w (X0 b) P0) (v m r : Int) (h : SE w (Y1 g) (E1 v m)) (q : chkN P0 0 (E1 v m) = r) : Calls Try.prog 12 #[.agg #[.string ⟨#[]⟩, .slice none 0 0, .slice (some ⟨b + 1, 0, none⟩) 1 1, .slice none 0 0, .slice (some ⟨b + 1 + 1, 0, none⟩) 1 1, .slice (some ⟨b + 1 + 1 + 1 + 1 + 1, 0, none⟩) 1 1, .slice none 0 0, .slice none 0 0, .slice none 0 0], .int .i64 0, .agg #[.slice (some ⟨g, 0, none⟩) 1 1, .int .i64 0, .int .i64 0, .slice none 0 0]] w (RetV (.int .i64 r) w) := by
  have k := pcheck_any w (X0 b) P0 s z0 0 (Y1 g) (E1 v m) h (show 0 ≤ 1000 by decide)
  rw [q] at k
  exact k
theorem wmat (w : World) (g u : Nat) (v m x : Int) (r : Bool) (h : SE w (Y1 g) (E1 v m)) (k : SU w (some ⟨u, 0, none⟩) 1 1 [x]) (q : matE [⟨v, m⟩] [x] = r) : Calls Try.prog 14 #[.agg #[.slice (some ⟨g, 0, none⟩) 1 1, .int .i64 0, .int .i64 0, .slice none 0 0], .slice (some ⟨u, 0, none⟩) 1 1] w (RetV (.bool r) w) := by
  have k := pmat_any w (Y1 g) (E1 v m) h _ _ _ [x] k (show 1 ≤ 1000 by decide)
  rw [show matE (E1 v m).ks [x] = r from q] at k
  exact k
theorem wprec (w : World) (b g1 g2 : Nat) (s : SP w (X0 b) P0) (v m v2 m2 ia ib : Int) (r : Bool) (h : SE w (Y1 g1) (E1 v m)) (k : SE w (Y1 g2) (E1 v2 m2)) (q : precE P0 0 ia (E1 v m) ib (E1 v2 m2) = r) : Calls Try.prog 16 #[.agg #[.string ⟨#[]⟩, .slice none 0 0, .slice (some ⟨b + 1, 0, none⟩) 1 1, .slice none 0 0, .slice (some ⟨b + 1 + 1, 0, none⟩) 1 1, .slice (some ⟨b + 1 + 1 + 1 + 1 + 1, 0, none⟩) 1 1, .slice none 0 0, .slice none 0 0, .slice none 0 0], .int .i64 0, .agg #[.int .i64 ia, .slice (some ⟨g1, 0, none⟩) 1 1, .int .i64 0, .int .i64 0, .slice none 0 0], .agg #[.int .i64 ib, .slice (some ⟨g2, 0, none⟩) 1 1, .int .i64 0, .int .i64 0, .slice none 0 0]] w (RetV (.bool r) w) := by
  have k := pprec_any w (X0 b) P0 s z0 0 ia ib (Y1 g1) (Y1 g2) (E1 v m) (E1 v2 m2) h k
  rw [q] at k
  exact k
theorem wsame (w : World) (g1 g2 : Nat) (v m v2 m2 : Int) (r : Bool) (h : SE w (Y1 g1) (E1 v m)) (k : SE w (Y1 g2) (E1 v2 m2)) (q : samE (E1 v m) (E1 v2 m2) = r) : Calls Try.prog 18 #[.agg #[.slice (some ⟨g1, 0, none⟩) 1 1, .int .i64 0, .int .i64 0, .slice none 0 0], .agg #[.slice (some ⟨g2, 0, none⟩) 1 1, .int .i64 0, .int .i64 0, .slice none 0 0]] w (RetV (.bool r) w) := by
  have k := psame_any w (Y1 g1) (Y1 g2) (E1 v m) (E1 v2 m2) h k (show 1 ≤ 1000 by decide)
  rw [q] at k
  exact k
theorem wequ (w : World) (g1 g2 : Nat) (v m v2 m2 : Int) (r : Bool) (h : SE w (Y1 g1) (E1 v m)) (k : SE w (Y1 g2) (E1 v2 m2)) (q : eqE (E1 v m) (E1 v2 m2) = r) : Calls Try.prog 20 #[.agg #[.slice (some ⟨g1, 0, none⟩) 1 1, .int .i64 0, .int .i64 0, .slice none 0 0], .agg #[.slice (some ⟨g2, 0, none⟩) 1 1, .int .i64 0, .int .i64 0, .slice none 0 0]] w (RetV (.bool r) w) := by
  have k := pequ_any w (Y1 g1) (Y1 g2) (E1 v m) (E1 v2 m2) h k (show 1 ≤ 1000 by decide) (show 0 ≤ 1000 by decide)
  rw [q] at k
  exact k
set_option maxRecDepth 100000 in
set_option maxHeartbeats 20000000 in
theorem works_any (w : World) : Calls Try.prog 11 #[] w (RetV (.bool true) w) := by
  go_enter Try.func11, Try.ntmps11
  go_wp2_with fail
  refine (prog0_any _).mono ?_
  rintro e x0 ⟨b, rfl, s, g⟩
  have G0 := Lib.hid g
  have S0 := Lib.hid s
  clear g s
  have G1 := Lib.hid (gb_trans (gb_trans (gb_trans (gb_trans (gb_trans (gb_trans (gb_alloc x0 (.cells #[.string ⟨#[]⟩, .slice none 0 0, .slice (some ⟨b + 1, 0, none⟩) 1 1, .slice none 0 0, .slice (some ⟨b + 1 + 1, 0, none⟩) 1 1, .slice (some ⟨b + 1 + 1 + 1 + 1 + 1, 0, none⟩) 1 1, .slice none 0 0, .slice none 0 0, .slice none 0 0] 31) none) (gb_alloc _ (.cells #[.int .u32 48, .int .u32 240] 57) none)) (gb_alloc _ (.cells #[.slice (some ⟨x0.heap.size + 1, 0, none⟩) 1 1, .int .i64 0, .int .i64 0, .slice none 0 0] 37) none)) (gb_alloc _ (.cells #[.int .u32 3, .int .u32 15] 57) none)) (gb_alloc _ (.cells #[.slice (some ⟨x0.heap.size + 1 + 1 + 1, 0, none⟩) 1 1, .int .i64 0, .int .i64 0, .slice none 0 0] 37) none)) (gb_alloc _ (.cells #[.int .u32 0, .int .u32 0] 57) none)) (gb_alloc _ (.cells #[.slice (some ⟨x0.heap.size + 1 + 1 + 1 + 1 + 1, 0, none⟩) 1 1, .int .i64 0, .int .i64 0, .slice none 0 0] 37) none))
  have BP := ((((((IsB.new x0 31 #[.string ⟨#[]⟩, .slice none 0 0, .slice (some ⟨b + 1, 0, none⟩) 1 1, .slice none 0 0, .slice (some ⟨b + 1 + 1, 0, none⟩) 1 1, .slice (some ⟨b + 1 + 1 + 1 + 1 + 1, 0, none⟩) 1 1, .slice none 0 0, .slice none 0 0, .slice none 0 0]).alloc (.cells #[.int .u32 48, .int .u32 240] 57)).alloc (.cells #[.slice (some ⟨x0.heap.size + 1, 0, none⟩) 1 1, .int .i64 0, .int .i64 0, .slice none 0 0] 37)).alloc (.cells #[.int .u32 3, .int .u32 15] 57)).alloc (.cells #[.slice (some ⟨x0.heap.size + 1 + 1 + 1, 0, none⟩) 1 1, .int .i64 0, .int .i64 0, .slice none 0 0] 37)).alloc (.cells #[.int .u32 0, .int .u32 0] 57)).alloc (.cells #[.slice (some ⟨x0.heap.size + 1 + 1 + 1 + 1 + 1, 0, none⟩) 1 1, .int .i64 0, .int .i64 0, .slice none 0 0] 37)
  have KA := (((((IsB.new (x0.alloc (.cells #[.string ⟨#[]⟩, .slice none 0 0, .slice (some ⟨b + 1, 0, none⟩) 1 1, .slice none 0 0, .slice (some ⟨b + 1 + 1, 0, none⟩) 1 1, .slice (some ⟨b + 1 + 1 + 1 + 1 + 1, 0, none⟩) 1 1, .slice none 0 0, .slice none 0 0, .slice none 0 0] 31)) 57 #[.int .u32 48, .int .u32 240]).alloc (.cells #[.slice (some ⟨x0.heap.size + 1, 0, none⟩) 1 1, .int .i64 0, .int .i64 0, .slice none 0 0] 37)).alloc (.cells #[.int .u32 3, .int .u32 15] 57)).alloc (.cells #[.slice (some ⟨x0.heap.size + 1 + 1 + 1, 0, none⟩) 1 1, .int .i64 0, .int .i64 0, .slice none 0 0] 37)).alloc (.cells #[.int .u32 0, .int .u32 0] 57)).alloc (.cells #[.slice (some ⟨x0.heap.size + 1 + 1 + 1 + 1 + 1, 0, none⟩) 1 1, .int .i64 0, .int .i64 0, .slice none 0 0] 37)
  have EA := ((((IsB.new ((x0.alloc (.cells #[.string ⟨#[]⟩, .slice none 0 0, .slice (some ⟨b + 1, 0, none⟩) 1 1, .slice none 0 0, .slice (some ⟨b + 1 + 1, 0, none⟩) 1 1, .slice (some ⟨b + 1 + 1 + 1 + 1 + 1, 0, none⟩) 1 1, .slice none 0 0, .slice none 0 0, .slice none 0 0] 31)).alloc (.cells #[.int .u32 48, .int .u32 240] 57)) 37 #[.slice (some ⟨x0.heap.size + 1, 0, none⟩) 1 1, .int .i64 0, .int .i64 0, .slice none 0 0]).alloc (.cells #[.int .u32 3, .int .u32 15] 57)).alloc (.cells #[.slice (some ⟨x0.heap.size + 1 + 1 + 1, 0, none⟩) 1 1, .int .i64 0, .int .i64 0, .slice none 0 0] 37)).alloc (.cells #[.int .u32 0, .int .u32 0] 57)).alloc (.cells #[.slice (some ⟨x0.heap.size + 1 + 1 + 1 + 1 + 1, 0, none⟩) 1 1, .int .i64 0, .int .i64 0, .slice none 0 0] 37)
  have KB := (((IsB.new (((x0.alloc (.cells #[.string ⟨#[]⟩, .slice none 0 0, .slice (some ⟨b + 1, 0, none⟩) 1 1, .slice none 0 0, .slice (some ⟨b + 1 + 1, 0, none⟩) 1 1, .slice (some ⟨b + 1 + 1 + 1 + 1 + 1, 0, none⟩) 1 1, .slice none 0 0, .slice none 0 0, .slice none 0 0] 31)).alloc (.cells #[.int .u32 48, .int .u32 240] 57)).alloc (.cells #[.slice (some ⟨x0.heap.size + 1, 0, none⟩) 1 1, .int .i64 0, .int .i64 0, .slice none 0 0] 37)) 57 #[.int .u32 3, .int .u32 15]).alloc (.cells #[.slice (some ⟨x0.heap.size + 1 + 1 + 1, 0, none⟩) 1 1, .int .i64 0, .int .i64 0, .slice none 0 0] 37)).alloc (.cells #[.int .u32 0, .int .u32 0] 57)).alloc (.cells #[.slice (some ⟨x0.heap.size + 1 + 1 + 1 + 1 + 1, 0, none⟩) 1 1, .int .i64 0, .int .i64 0, .slice none 0 0] 37)
  have EB := ((IsB.new ((((x0.alloc (.cells #[.string ⟨#[]⟩, .slice none 0 0, .slice (some ⟨b + 1, 0, none⟩) 1 1, .slice none 0 0, .slice (some ⟨b + 1 + 1, 0, none⟩) 1 1, .slice (some ⟨b + 1 + 1 + 1 + 1 + 1, 0, none⟩) 1 1, .slice none 0 0, .slice none 0 0, .slice none 0 0] 31)).alloc (.cells #[.int .u32 48, .int .u32 240] 57)).alloc (.cells #[.slice (some ⟨x0.heap.size + 1, 0, none⟩) 1 1, .int .i64 0, .int .i64 0, .slice none 0 0] 37)).alloc (.cells #[.int .u32 3, .int .u32 15] 57)) 37 #[.slice (some ⟨x0.heap.size + 1 + 1 + 1, 0, none⟩) 1 1, .int .i64 0, .int .i64 0, .slice none 0 0]).alloc (.cells #[.int .u32 0, .int .u32 0] 57)).alloc (.cells #[.slice (some ⟨x0.heap.size + 1 + 1 + 1 + 1 + 1, 0, none⟩) 1 1, .int .i64 0, .int .i64 0, .slice none 0 0] 37)
  have KC := (IsB.new (((((x0.alloc (.cells #[.string ⟨#[]⟩, .slice none 0 0, .slice (some ⟨b + 1, 0, none⟩) 1 1, .slice none 0 0, .slice (some ⟨b + 1 + 1, 0, none⟩) 1 1, .slice (some ⟨b + 1 + 1 + 1 + 1 + 1, 0, none⟩) 1 1, .slice none 0 0, .slice none 0 0, .slice none 0 0] 31)).alloc (.cells #[.int .u32 48, .int .u32 240] 57)).alloc (.cells #[.slice (some ⟨x0.heap.size + 1, 0, none⟩) 1 1, .int .i64 0, .int .i64 0, .slice none 0 0] 37)).alloc (.cells #[.int .u32 3, .int .u32 15] 57)).alloc (.cells #[.slice (some ⟨x0.heap.size + 1 + 1 + 1, 0, none⟩) 1 1, .int .i64 0, .int .i64 0, .slice none 0 0] 37)) 57 #[.int .u32 0, .int .u32 0]).alloc (.cells #[.slice (some ⟨x0.heap.size + 1 + 1 + 1 + 1 + 1, 0, none⟩) 1 1, .int .i64 0, .int .i64 0, .slice none 0 0] 37)
  have EC := IsB.new ((((((x0.alloc (.cells #[.string ⟨#[]⟩, .slice none 0 0, .slice (some ⟨b + 1, 0, none⟩) 1 1, .slice none 0 0, .slice (some ⟨b + 1 + 1, 0, none⟩) 1 1, .slice (some ⟨b + 1 + 1 + 1 + 1 + 1, 0, none⟩) 1 1, .slice none 0 0, .slice none 0 0, .slice none 0 0] 31)).alloc (.cells #[.int .u32 48, .int .u32 240] 57)).alloc (.cells #[.slice (some ⟨x0.heap.size + 1, 0, none⟩) 1 1, .int .i64 0, .int .i64 0, .slice none 0 0] 37)).alloc (.cells #[.int .u32 3, .int .u32 15] 57)).alloc (.cells #[.slice (some ⟨x0.heap.size + 1 + 1 + 1, 0, none⟩) 1 1, .int .i64 0, .int .i64 0, .slice none 0 0] 37)).alloc (.cells #[.int .u32 0, .int .u32 0] 57)) 37 #[.slice (some ⟨x0.heap.size + 1 + 1 + 1 + 1 + 1, 0, none⟩) 1 1, .int .i64 0, .int .i64 0, .slice none 0 0]
  simp only [sz_al] at KA EA KB EB KC EC
  replace BP := Lib.hid BP
  replace KA := Lib.hid KA
  replace EA := Lib.hid EA
  replace KB := Lib.hid KB
  replace EB := Lib.hid EB
  replace KC := Lib.hid KC
  replace EC := Lib.hid EC
  go_upto_region 5 with fail
  generalize ((((((x0.alloc (.cells #[.string ⟨#[]⟩, .slice none 0 0, .slice (some ⟨b + 1, 0, none⟩) 1 1, .slice none 0 0, .slice (some ⟨b + 1 + 1, 0, none⟩) 1 1, .slice (some ⟨b + 1 + 1 + 1 + 1 + 1, 0, none⟩) 1 1, .slice none 0 0, .slice none 0 0, .slice none 0 0] 31)).alloc (.cells #[.int .u32 48, .int .u32 240] 57)).alloc (.cells #[.slice (some ⟨x0.heap.size + 1, 0, none⟩) 1 1, .int .i64 0, .int .i64 0, .slice none 0 0] 37)).alloc (.cells #[.int .u32 3, .int .u32 15] 57)).alloc (.cells #[.slice (some ⟨x0.heap.size + 1 + 1 + 1, 0, none⟩) 1 1, .int .i64 0, .int .i64 0, .slice none 0 0] 37)).alloc (.cells #[.int .u32 0, .int .u32 0] 57)).alloc (.cells #[.slice (some ⟨x0.heap.size + 1 + 1 + 1 + 1 + 1, 0, none⟩) 1 1, .int .i64 0, .int .i64 0, .slice none 0 0] 37) = w1 at *
  obtain ⟨z, hz⟩ : ∃ b, b = x0.heap.size := ⟨_, rfl⟩
  have Lz := Lib.hid (show x0.heap.size ≤ z by rw [hz]; exact Nat.le_refl _)
  rw [← hz] at BP KA EA KB EB KC EC ⊢
  clear hz
  replace S0 := Lib.hid (fun (W : World) (k : w1.grownBy W none) => S0.out.keep0 (gb_trans G1.out k))
  have A0 := Lib.hid (fun (W : World) (k : w1.grownBy W none) => (se_one (KA.out.keep0 k) (by decide) (by decide) : SE W (Y1 (z + 1)) (E1 48 240)))
  have A1 := Lib.hid (fun (W : World) (k : w1.grownBy W none) => (se_one (KB.out.keep0 k) (by decide) (by decide) : SE W (Y1 (z + 1 + 1 + 1)) (E1 3 15)))
  have A2 := Lib.hid (fun (W : World) (k : w1.grownBy W none) => (se_one (KC.out.keep0 k) (by decide) (by decide) : SE W (Y1 (z + 1 + 1 + 1 + 1 + 1)) (E1 0 0)))
  clear KA KB KC
  have c0 := (BP.out.keep0 (gb_refl _ _)).cell 0
  have c1 := (BP.out.keep0 (gb_refl _ _)).cell 1
  have c2 := (BP.out.keep0 (gb_refl _ _)).cell 2
  have c3 := (BP.out.keep0 (gb_refl _ _)).cell 3
  have c4 := (BP.out.keep0 (gb_refl _ _)).cell 4
  have c5 := (BP.out.keep0 (gb_refl _ _)).cell 5
  have c6 := (BP.out.keep0 (gb_refl _ _)).cell 6
  have c7 := (BP.out.keep0 (gb_refl _ _)).cell 7
  have c8 := (BP.out.keep0 (gb_refl _ _)).cell 8
  have d0 := (EA.out.keep0 (gb_refl _ _)).cell 0
  have d1 := (EA.out.keep0 (gb_refl _ _)).cell 1
  have d2 := (EA.out.keep0 (gb_refl _ _)).cell 2
  have d3 := (EA.out.keep0 (gb_refl _ _)).cell 3
  have e0 := (EB.out.keep0 (gb_refl _ _)).cell 0
  have e1 := (EB.out.keep0 (gb_refl _ _)).cell 1
  have e2 := (EB.out.keep0 (gb_refl _ _)).cell 2
  have e3 := (EB.out.keep0 (gb_refl _ _)).cell 3
  have f0 := (EC.out.keep0 (gb_refl _ _)).cell 0
  have f1 := (EC.out.keep0 (gb_refl _ _)).cell 1
  have f2 := (EC.out.keep0 (gb_refl _ _)).cell 2
  have f3 := (EC.out.keep0 (gb_refl _ _)).cell 3
  dsimp at c0 c1 c2 c3 c4 c5 c6 c7 c8 d0 d1 d2 d3 e0 e1 e2 e3 f0 f1 f2 f3
  go_wp2_with fail
  refine (wchk w1 b (z + 1) (S0.out _ (gb_refl _ _)) 48 240 0 (A0.out _ (gb_refl _ _)) (by decide +kernel)).mono ?_
  rintro e y1 ⟨rfl, g⟩
  have K1 := Lib.hid (gb_trans (gb_refl _ _) g)
  clear g
  clear c0 c1 c2 c3 c4 c5 c6 c7 c8 d0 d1 d2 d3 e0 e1 e2 e3 f0 f1 f2 f3
  have c0 := (BP.out.keep0 K1.out).cell 0
  have c1 := (BP.out.keep0 K1.out).cell 1
  have c2 := (BP.out.keep0 K1.out).cell 2
  have c3 := (BP.out.keep0 K1.out).cell 3
  have c4 := (BP.out.keep0 K1.out).cell 4
  have c5 := (BP.out.keep0 K1.out).cell 5
  have c6 := (BP.out.keep0 K1.out).cell 6
  have c7 := (BP.out.keep0 K1.out).cell 7
  have c8 := (BP.out.keep0 K1.out).cell 8
  have d0 := (EA.out.keep0 K1.out).cell 0
  have d1 := (EA.out.keep0 K1.out).cell 1
  have d2 := (EA.out.keep0 K1.out).cell 2
  have d3 := (EA.out.keep0 K1.out).cell 3
  have e0 := (EB.out.keep0 K1.out).cell 0
  have e1 := (EB.out.keep0 K1.out).cell 1
  have e2 := (EB.out.keep0 K1.out).cell 2
  have e3 := (EB.out.keep0 K1.out).cell 3
  have f0 := (EC.out.keep0 K1.out).cell 0
  have f1 := (EC.out.keep0 K1.out).cell 1
  have f2 := (EC.out.keep0 K1.out).cell 2
  have f3 := (EC.out.keep0 K1.out).cell 3
  dsimp at c0 c1 c2 c3 c4 c5 c6 c7 c8 d0 d1 d2 d3 e0 e1 e2 e3 f0 f1 f2 f3
  go_wp2_with fail
  refine (wchk y1 b (z + 1 + 1 + 1) (S0.out _ K1.out) 3 15 11 (A1.out _ K1.out) (by decide +kernel)).mono ?_
  rintro e y2 ⟨rfl, g⟩
  have K2 := Lib.hid (gb_trans K1.out g)
  clear g
  clear c0 c1 c2 c3 c4 c5 c6 c7 c8 d0 d1 d2 d3 e0 e1 e2 e3 f0 f1 f2 f3
  have GU3 := Lib.hid (gb_alloc y2 (.cells #[.int .u32 53] 55) none)
  have BU3 := IsB.new y2 55 #[.int .u32 53]
  replace BU3 := Lib.hid BU3
  have c0 := (BP.out.keep0 K2.out).cell 0
  have c1 := (BP.out.keep0 K2.out).cell 1
  have c2 := (BP.out.keep0 K2.out).cell 2
  have c3 := (BP.out.keep0 K2.out).cell 3
  have c4 := (BP.out.keep0 K2.out).cell 4
  have c5 := (BP.out.keep0 K2.out).cell 5
  have c6 := (BP.out.keep0 K2.out).cell 6
  have c7 := (BP.out.keep0 K2.out).cell 7
  have c8 := (BP.out.keep0 K2.out).cell 8
  have d0 := (EA.out.keep0 K2.out).cell 0
  have d1 := (EA.out.keep0 K2.out).cell 1
  have d2 := (EA.out.keep0 K2.out).cell 2
  have d3 := (EA.out.keep0 K2.out).cell 3
  have e0 := (EB.out.keep0 K2.out).cell 0
  have e1 := (EB.out.keep0 K2.out).cell 1
  have e2 := (EB.out.keep0 K2.out).cell 2
  have e3 := (EB.out.keep0 K2.out).cell 3
  have f0 := (EC.out.keep0 K2.out).cell 0
  have f1 := (EC.out.keep0 K2.out).cell 1
  have f2 := (EC.out.keep0 K2.out).cell 2
  have f3 := (EC.out.keep0 K2.out).cell 3
  dsimp at c0 c1 c2 c3 c4 c5 c6 c7 c8 d0 d1 d2 d3 e0 e1 e2 e3 f0 f1 f2 f3
  go_wp2_with fail
  generalize y2.alloc (.cells #[.int .u32 53] 55) = u3 at *
  obtain ⟨bu3, hbu3⟩ : ∃ b, b = y2.heap.size := ⟨_, rfl⟩
  have Lbu3 := Lib.hid (show y2.heap.size ≤ bu3 by rw [hbu3]; exact Nat.le_refl _)
  rw [← hbu3] at BU3 ⊢
  clear hbu3
  have KU3 := Lib.hid (gb_trans K2.out GU3.out)
  refine (wmat u3 (z + 1) bu3 48 240 53 true (A0.out _ KU3.out) (u1_one BU3.out (by decide)) (by decide +kernel)).mono ?_
  rintro e y3 ⟨rfl, g⟩
  have K3 := Lib.hid (gb_trans KU3.out g)
  clear g
  clear c0 c1 c2 c3 c4 c5 c6 c7 c8 d0 d1 d2 d3 e0 e1 e2 e3 f0 f1 f2 f3
  have GU4 := Lib.hid (gb_alloc y3 (.cells #[.int .u32 69] 55) none)
  have BU4 := IsB.new y3 55 #[.int .u32 69]
  replace BU4 := Lib.hid BU4
  have c0 := (BP.out.keep0 K3.out).cell 0
  have c1 := (BP.out.keep0 K3.out).cell 1
  have c2 := (BP.out.keep0 K3.out).cell 2
  have c3 := (BP.out.keep0 K3.out).cell 3
  have c4 := (BP.out.keep0 K3.out).cell 4
  have c5 := (BP.out.keep0 K3.out).cell 5
  have c6 := (BP.out.keep0 K3.out).cell 6
  have c7 := (BP.out.keep0 K3.out).cell 7
  have c8 := (BP.out.keep0 K3.out).cell 8
  have d0 := (EA.out.keep0 K3.out).cell 0
  have d1 := (EA.out.keep0 K3.out).cell 1
  have d2 := (EA.out.keep0 K3.out).cell 2
  have d3 := (EA.out.keep0 K3.out).cell 3
  have e0 := (EB.out.keep0 K3.out).cell 0
  have e1 := (EB.out.keep0 K3.out).cell 1
  have e2 := (EB.out.keep0 K3.out).cell 2
  have e3 := (EB.out.keep0 K3.out).cell 3
  have f0 := (EC.out.keep0 K3.out).cell 0
  have f1 := (EC.out.keep0 K3.out).cell 1
  have f2 := (EC.out.keep0 K3.out).cell 2
  have f3 := (EC.out.keep0 K3.out).cell 3
  dsimp at c0 c1 c2 c3 c4 c5 c6 c7 c8 d0 d1 d2 d3 e0 e1 e2 e3 f0 f1 f2 f3
  go_wp2_with fail
  generalize y3.alloc (.cells #[.int .u32 69] 55) = u4 at *
  obtain ⟨bu4, hbu4⟩ : ∃ b, b = y3.heap.size := ⟨_, rfl⟩
  have Lbu4 := Lib.hid (show y3.heap.size ≤ bu4 by rw [hbu4]; exact Nat.le_refl _)
  rw [← hbu4] at BU4 ⊢
  clear hbu4
  have KU4 := Lib.hid (gb_trans K3.out GU4.out)
  refine (wmat u4 (z + 1) bu4 48 240 69 false (A0.out _ KU4.out) (u1_one BU4.out (by decide)) (by decide +kernel)).mono ?_
  rintro e y4 ⟨rfl, g⟩
  have K4 := Lib.hid (gb_trans KU4.out g)
  clear g
  clear c0 c1 c2 c3 c4 c5 c6 c7 c8 d0 d1 d2 d3 e0 e1 e2 e3 f0 f1 f2 f3
  have c0 := (BP.out.keep0 K4.out).cell 0
  have c1 := (BP.out.keep0 K4.out).cell 1
  have c2 := (BP.out.keep0 K4.out).cell 2
  have c3 := (BP.out.keep0 K4.out).cell 3
  have c4 := (BP.out.keep0 K4.out).cell 4
  have c5 := (BP.out.keep0 K4.out).cell 5
  have c6 := (BP.out.keep0 K4.out).cell 6
  have c7 := (BP.out.keep0 K4.out).cell 7
  have c8 := (BP.out.keep0 K4.out).cell 8
  have d0 := (EA.out.keep0 K4.out).cell 0
  have d1 := (EA.out.keep0 K4.out).cell 1
  have d2 := (EA.out.keep0 K4.out).cell 2
  have d3 := (EA.out.keep0 K4.out).cell 3
  have e0 := (EB.out.keep0 K4.out).cell 0
  have e1 := (EB.out.keep0 K4.out).cell 1
  have e2 := (EB.out.keep0 K4.out).cell 2
  have e3 := (EB.out.keep0 K4.out).cell 3
  have f0 := (EC.out.keep0 K4.out).cell 0
  have f1 := (EC.out.keep0 K4.out).cell 1
  have f2 := (EC.out.keep0 K4.out).cell 2
  have f3 := (EC.out.keep0 K4.out).cell 3
  dsimp at c0 c1 c2 c3 c4 c5 c6 c7 c8 d0 d1 d2 d3 e0 e1 e2 e3 f0 f1 f2 f3
  go_wp2_with fail
  refine (wprec y4 b (z + 1) (z + 1 + 1 + 1 + 1 + 1) (S0.out _ K4.out) 48 240 0 0 2 1 true (A0.out _ K4.out) (A2.out _ K4.out) (by decide +kernel)).mono ?_
  rintro e y5 ⟨rfl, g⟩
  have K5 := Lib.hid (gb_trans K4.out g)
  clear g
  clear c0 c1 c2 c3 c4 c5 c6 c7 c8 d0 d1 d2 d3 e0 e1 e2 e3 f0 f1 f2 f3
  have c0 := (BP.out.keep0 K5.out).cell 0
  have c1 := (BP.out.keep0 K5.out).cell 1
  have c2 := (BP.out.keep0 K5.out).cell 2
  have c3 := (BP.out.keep0 K5.out).cell 3
  have c4 := (BP.out.keep0 K5.out).cell 4
  have c5 := (BP.out.keep0 K5.out).cell 5
  have c6 := (BP.out.keep0 K5.out).cell 6
  have c7 := (BP.out.keep0 K5.out).cell 7
  have c8 := (BP.out.keep0 K5.out).cell 8
  have d0 := (EA.out.keep0 K5.out).cell 0
  have d1 := (EA.out.keep0 K5.out).cell 1
  have d2 := (EA.out.keep0 K5.out).cell 2
  have d3 := (EA.out.keep0 K5.out).cell 3
  have e0 := (EB.out.keep0 K5.out).cell 0
  have e1 := (EB.out.keep0 K5.out).cell 1
  have e2 := (EB.out.keep0 K5.out).cell 2
  have e3 := (EB.out.keep0 K5.out).cell 3
  have f0 := (EC.out.keep0 K5.out).cell 0
  have f1 := (EC.out.keep0 K5.out).cell 1
  have f2 := (EC.out.keep0 K5.out).cell 2
  have f3 := (EC.out.keep0 K5.out).cell 3
  dsimp at c0 c1 c2 c3 c4 c5 c6 c7 c8 d0 d1 d2 d3 e0 e1 e2 e3 f0 f1 f2 f3
  go_wp2_with fail
  refine (wprec y5 b (z + 1 + 1 + 1 + 1 + 1) (z + 1) (S0.out _ K5.out) 0 0 48 240 1 2 false (A2.out _ K5.out) (A0.out _ K5.out) (by decide +kernel)).mono ?_
  rintro e y6 ⟨rfl, g⟩
  have K6 := Lib.hid (gb_trans K5.out g)
  clear g
  clear c0 c1 c2 c3 c4 c5 c6 c7 c8 d0 d1 d2 d3 e0 e1 e2 e3 f0 f1 f2 f3
  have c0 := (BP.out.keep0 K6.out).cell 0
  have c1 := (BP.out.keep0 K6.out).cell 1
  have c2 := (BP.out.keep0 K6.out).cell 2
  have c3 := (BP.out.keep0 K6.out).cell 3
  have c4 := (BP.out.keep0 K6.out).cell 4
  have c5 := (BP.out.keep0 K6.out).cell 5
  have c6 := (BP.out.keep0 K6.out).cell 6
  have c7 := (BP.out.keep0 K6.out).cell 7
  have c8 := (BP.out.keep0 K6.out).cell 8
  have d0 := (EA.out.keep0 K6.out).cell 0
  have d1 := (EA.out.keep0 K6.out).cell 1
  have d2 := (EA.out.keep0 K6.out).cell 2
  have d3 := (EA.out.keep0 K6.out).cell 3
  have e0 := (EB.out.keep0 K6.out).cell 0
  have e1 := (EB.out.keep0 K6.out).cell 1
  have e2 := (EB.out.keep0 K6.out).cell 2
  have e3 := (EB.out.keep0 K6.out).cell 3
  have f0 := (EC.out.keep0 K6.out).cell 0
  have f1 := (EC.out.keep0 K6.out).cell 1
  have f2 := (EC.out.keep0 K6.out).cell 2
  have f3 := (EC.out.keep0 K6.out).cell 3
  dsimp at c0 c1 c2 c3 c4 c5 c6 c7 c8 d0 d1 d2 d3 e0 e1 e2 e3 f0 f1 f2 f3
  go_wp2_with fail
  refine (wsame y6 (z + 1) (z + 1) 48 240 48 240 true (A0.out _ K6.out) (A0.out _ K6.out) (by decide +kernel)).mono ?_
  rintro e y7 ⟨rfl, g⟩
  have K7 := Lib.hid (gb_trans K6.out g)
  clear g
  clear c0 c1 c2 c3 c4 c5 c6 c7 c8 d0 d1 d2 d3 e0 e1 e2 e3 f0 f1 f2 f3
  have c0 := (BP.out.keep0 K7.out).cell 0
  have c1 := (BP.out.keep0 K7.out).cell 1
  have c2 := (BP.out.keep0 K7.out).cell 2
  have c3 := (BP.out.keep0 K7.out).cell 3
  have c4 := (BP.out.keep0 K7.out).cell 4
  have c5 := (BP.out.keep0 K7.out).cell 5
  have c6 := (BP.out.keep0 K7.out).cell 6
  have c7 := (BP.out.keep0 K7.out).cell 7
  have c8 := (BP.out.keep0 K7.out).cell 8
  have d0 := (EA.out.keep0 K7.out).cell 0
  have d1 := (EA.out.keep0 K7.out).cell 1
  have d2 := (EA.out.keep0 K7.out).cell 2
  have d3 := (EA.out.keep0 K7.out).cell 3
  have e0 := (EB.out.keep0 K7.out).cell 0
  have e1 := (EB.out.keep0 K7.out).cell 1
  have e2 := (EB.out.keep0 K7.out).cell 2
  have e3 := (EB.out.keep0 K7.out).cell 3
  have f0 := (EC.out.keep0 K7.out).cell 0
  have f1 := (EC.out.keep0 K7.out).cell 1
  have f2 := (EC.out.keep0 K7.out).cell 2
  have f3 := (EC.out.keep0 K7.out).cell 3
  dsimp at c0 c1 c2 c3 c4 c5 c6 c7 c8 d0 d1 d2 d3 e0 e1 e2 e3 f0 f1 f2 f3
  go_wp2_with fail
  refine (wequ y7 (z + 1) (z + 1 + 1 + 1) 48 240 3 15 false (A0.out _ K7.out) (A1.out _ K7.out) (by decide +kernel)).mono ?_
  rintro e y8 ⟨rfl, g⟩
  have K8 := Lib.hid (gb_trans K7.out g)
  clear g
  clear c0 c1 c2 c3 c4 c5 c6 c7 c8 d0 d1 d2 d3 e0 e1 e2 e3 f0 f1 f2 f3
  go_wp2
  go_ret
  exact ⟨rfl, gb_trans G0.out (gb_trans G1.out K8.out)⟩
end Go.Proofs.Ytgdefahnmgonlaa
