/- Table: the law works; no condition. -/
import Derived.Test.YtaiemcpkiegdiaaTbO
namespace Go.Proofs.Ytaiemcpkiegdiaa
open Go.RowKit
set_option linter.unusedVariables false
def P0 : Pg := ⟨[], [(⟨#[105, 110]⟩, 8), (⟨#[109]⟩, 4)], [], [⟨⟨#[110, 111, 112]⟩, [], []⟩], [⟨⟨#[116]⟩, [⟨-1, 0, 1⟩, ⟨-1, 1, 3⟩], [0], 0, [], 4⟩, ⟨⟨#[117]⟩, [], [0], 0, [], 1⟩], [], []⟩
def X0 (b : Nat) : PX := ⟨⟨#[]⟩, none, 0, 0, some ⟨b, 0, none⟩, 2, 2, none, 0, 0, some ⟨b + 1, 0, none⟩, 1, 1, some ⟨b + 1 + 1 + 1 + 1 + 1, 0, none⟩, 2, 2, none, 0, 0, none, 0, 0, none, 0, 0⟩
theorem adT (g j : Nat) : ((⟨g, 0, none⟩ : Addr).add j) = ⟨g, j, none⟩ := by unfold Addr.add; split <;> simp_all
theorem u2_two {w : World} {g : Nat} {t : TypeId} {x y : Int} (h : IsB w g t #[.int .u32 x, .int .u32 y]) (hx : 0 ≤ x ∧ x < 4294967296) (hy : 0 ≤ y ∧ y < 4294967296) : SU w (some ⟨g, 0, none⟩) 2 2 [x, y] := by
  refine ⟨rfl, (fun e => by cases e), Nat.le_refl _, fun ad e j hj => ?_, fun z hz => ?_⟩
  · injection e with e
    subst e
    rw [adT]
    rcases (show j = 0 ∨ j = 1 by omega) with rfl | rfl
    · exact h.cell 0
    · exact h.cell 1
  · simp at hz
    rcases hz with rfl | rfl
    · exact hx
    · exact hy
theorem i1_one {w : World} {g : Nat} {t : TypeId} {x : Int} (h : IsB w g t #[.int .i64 x]) (hx : -9223372036854775808 ≤ x ∧ x ≤ 9223372036854775807) : SI w (some ⟨g, 0, none⟩) 1 1 [x] := by
  refine ⟨rfl, (fun e => by cases e), Nat.le_refl _, fun ad e j hj => ?_, fun z hz => ?_⟩
  · injection e with e
    subst e
    rw [adT]
    obtain rfl : j = 0 := by omega
    exact h.cell 0
  · simp at hz
    subst hz
    exact hx
theorem sp0 {w : World} {b : Nat} (h0 : IsB w b 65 #[.string ⟨#[105, 110]⟩, .int .i64 8, .string ⟨#[109]⟩, .int .i64 4]) (h1 : IsB w (b + 1) 75 #[.string ⟨#[110, 111, 112]⟩, .slice none 0 0, .slice none 0 0])
    (h2 : IsB w (b + 1 + 1) 62 #[.int .i64 (-1), .int .i64 0, .int .i64 1, .int .i64 (-1), .int .i64 1, .int .i64 3]) (h3 : IsB w (b + 1 + 1 + 1) 3 #[.int .i64 0]) (h4 : IsB w (b + 1 + 1 + 1 + 1) 3 #[.int .i64 0])
    (h5 : IsB w (b + 1 + 1 + 1 + 1 + 1) 56 #[.string ⟨#[116]⟩, .slice (some ⟨b + 1 + 1, 0, none⟩) 2 2, .slice (some ⟨b + 1 + 1 + 1, 0, none⟩) 1 1, .int .i64 0, .slice none 0 0, .int .i64 4, .string ⟨#[117]⟩, .slice none 0 0, .slice (some ⟨b + 1 + 1 + 1 + 1, 0, none⟩) 1 1, .int .i64 0, .slice none 0 0, .int .i64 1]) : SP w (X0 b) P0 := by
  refine ⟨⟨rfl, fun _ => ⟨rfl, rfl⟩, Nat.le_refl _, fun ad e j hj => by cases e⟩, ⟨rfl, (fun e => by cases e), Nat.le_refl _, fun ad e j hj => ?_⟩, sl_nil _, ⟨rfl, (fun e => by cases e), Nat.le_refl _, fun ad e j hj => ?_⟩, ⟨rfl, (fun e => by cases e), Nat.le_refl _, fun ad e j hj => ?_⟩, sl_nil _, si_nil _⟩
  · injection e with e
    subst e
    rw [adT]
    have hj : j < 2 := hj
    rcases (show j = 0 ∨ j = 1 by omega) with rfl | rfl
    · exact ⟨h0.cell 0, h0.cell 1⟩
    · exact ⟨h0.cell 2, h0.cell 3⟩
  · injection e with e
    subst e
    rw [adT]
    have hj : j < 1 := hj
    obtain rfl : j = 0 := by omega
    exact ⟨h1.cell 0, ⟨_, _, _, h1.cell 1, sf_nil _⟩, ⟨_, _, _, h1.cell 2, sl_nil _⟩⟩
  · injection e with e
    subst e
    rw [adT]
    have hj : j < 2 := hj
    have k : SKy w (some ⟨b + 1 + 1, 0, none⟩) 2 2 [⟨-1, 0, 1⟩, ⟨-1, 1, 3⟩] := by
      refine ⟨rfl, (fun e => by cases e), Nat.le_refl _, fun ad e i hi => ?_⟩
      injection e with e
      subst e
      rw [adT]
      rcases (show i = 0 ∨ i = 1 by omega) with rfl | rfl
      · exact ⟨h2.cell 0, h2.cell 1, h2.cell 2⟩
      · exact ⟨h2.cell 3, h2.cell 4, h2.cell 5⟩
    rcases (show j = 0 ∨ j = 1 by omega) with rfl | rfl
    · exact ⟨h5.cell 0, ⟨_, _, _, h5.cell 1, k⟩, ⟨_, _, _, h5.cell 2, i1_one h3 (by decide)⟩, ⟨h5.cell 3, by decide, by decide⟩, ⟨_, _, _, h5.cell 4, su_nil _⟩, h5.cell 5⟩
    · exact ⟨h5.cell 6, ⟨_, _, _, h5.cell 7, sl_nil _⟩, ⟨_, _, _, h5.cell 8, i1_one h4 (by decide)⟩, ⟨h5.cell 9, by decide, by decide⟩, ⟨_, _, _, h5.cell 10, su_nil _⟩, h5.cell 11⟩
theorem z0 : szT P0 := by unfold szT; decide +kernel
theorem wchk (w : World) (b : Nat) (s : SP w (X0 b) P0) (t r e : Int) (q : chkT P0 t = (r, e)) : Calls Try.prog 10 #[.agg #[.string ⟨#[]⟩, .slice none 0 0, .slice (some ⟨b, 0, none⟩) 2 2, .slice none 0 0, .slice (some ⟨b + 1, 0, none⟩) 1 1, .slice (some ⟨b + 1 + 1 + 1 + 1 + 1, 0, none⟩) 2 2, .slice none 0 0, .slice none 0 0, .slice none 0 0], .int .i64 t] w (RetV (.tuple #[.int .i64 r, .int .i64 e]) w) := by
  have k := pchk_any w (X0 b) P0 s z0 t
  rw [q] at k
  exact k
theorem wkind (w : World) (b : Nat) (s : SP w (X0 b) P0) (t r : Int) (q : kindT P0 t = r) : Calls Try.prog 12 #[.agg #[.string ⟨#[]⟩, .slice none 0 0, .slice (some ⟨b, 0, none⟩) 2 2, .slice none 0 0, .slice (some ⟨b + 1, 0, none⟩) 1 1, .slice (some ⟨b + 1 + 1 + 1 + 1 + 1, 0, none⟩) 2 2, .slice none 0 0, .slice none 0 0, .slice none 0 0], .int .i64 t] w (RetV (.int .i64 r) w) := by
  have k := pkind_any w (X0 b) P0 s z0 t
  rw [q] at k
  exact k
theorem wbits (w : World) (b : Nat) (s : SP w (X0 b) P0) (t r : Int) (q : sumI (wsT P0.H P0.M (tabV P0 t).ks) = r) : Calls Try.prog 17 #[.agg #[.string ⟨#[]⟩, .slice none 0 0, .slice (some ⟨b, 0, none⟩) 2 2, .slice none 0 0, .slice (some ⟨b + 1, 0, none⟩) 1 1, .slice (some ⟨b + 1 + 1 + 1 + 1 + 1, 0, none⟩) 2 2, .slice none 0 0, .slice none 0 0, .slice none 0 0], .int .i64 t] w (RetV (.int .i64 r) w) := by
  have k := pbits_any w (X0 b) P0 s z0 t
  rw [q] at k
  exact k
theorem wallow (w : World) (b : Nat) (s : SP w (X0 b) P0) (t a : Int) (r : Bool) (hr : Rng a) (q : decide (a ∈ (tabV P0 t).acs) = r) : Calls Try.prog 19 #[.agg #[.string ⟨#[]⟩, .slice none 0 0, .slice (some ⟨b, 0, none⟩) 2 2, .slice none 0 0, .slice (some ⟨b + 1, 0, none⟩) 1 1, .slice (some ⟨b + 1 + 1 + 1 + 1 + 1, 0, none⟩) 2 2, .slice none 0 0, .slice none 0 0, .slice none 0 0], .int .i64 t, .int .i64 a] w (RetV (.bool r) w) := by
  have k := pallows_any w (X0 b) P0 s z0 t a hr
  rw [q] at k
  exact k
theorem wkey (w : World) (b : Nat) (s : SP w (X0 b) P0) (g : Addr) (hu : SU w (some g) 2 2 [7, 19]) : Calls Try.prog 23 #[.agg #[.string ⟨#[]⟩, .slice none 0 0, .slice (some ⟨b, 0, none⟩) 2 2, .slice none 0 0, .slice (some ⟨b + 1, 0, none⟩) 1 1, .slice (some ⟨b + 1 + 1 + 1 + 1 + 1, 0, none⟩) 2 2, .slice none 0 0, .slice none 0 0, .slice none 0 0], .int .i64 0, .agg #[.slice none 0 0, .slice none 0 0, .slice (some g) 2 2, .slice none 0 0]] w (RetU [7, 3] w) := by
  have k := pkey_any w (X0 b) P0 s z0 0 none none (some g) 0 0 0 0 2 2 (.slice none 0 0) [] [] [7, 19] ⟨rfl, fun _ => ⟨rfl, rfl⟩, Nat.le_refl _, fun ad e => by cases e⟩ ⟨rfl, fun _ => ⟨rfl, rfl⟩, Nat.le_refl _, fun ad e => by cases e⟩ hu
  rw [show keyV P0.H P0.M [] [] [7, 19] (tabV P0 0).ks = [7, 3] by decide +kernel] at k
  exact k
set_option maxRecDepth 100000 in
set_option maxHeartbeats 4000000 in
theorem works_any (w : World) : Calls Try.prog 9 #[] w (RetV (.bool true) w) := by
  have G1 := Lib.hid (gb_trans (gb_trans (gb_trans (gb_trans (gb_trans (gb_trans (gb_alloc w (.cells #[.string ⟨#[105, 110]⟩, .int .i64 8, .string ⟨#[109]⟩, .int .i64 4] 65) none) (gb_alloc _ (.cells #[.string ⟨#[110, 111, 112]⟩, .slice none 0 0, .slice none 0 0] 75) none)) (gb_alloc _ (.cells #[.int .i64 (-1), .int .i64 0, .int .i64 1, .int .i64 (-1), .int .i64 1, .int .i64 3] 62) none)) (gb_alloc _ (.cells #[.int .i64 0] 3) none)) (gb_alloc _ (.cells #[.int .i64 0] 3) none)) (gb_alloc _ (.cells #[.string ⟨#[116]⟩, .slice (some ⟨w.heap.size + 1 + 1, 0, none⟩) 2 2, .slice (some ⟨w.heap.size + 1 + 1 + 1, 0, none⟩) 1 1, .int .i64 0, .slice none 0 0, .int .i64 4, .string ⟨#[117]⟩, .slice none 0 0, .slice (some ⟨w.heap.size + 1 + 1 + 1 + 1, 0, none⟩) 1 1, .int .i64 0, .slice none 0 0, .int .i64 1] 56) none)) (gb_alloc _ (.cells #[.string ⟨#[]⟩, .slice none 0 0, .slice (some ⟨w.heap.size, 0, none⟩) 2 2, .slice none 0 0, .slice (some ⟨w.heap.size + 1, 0, none⟩) 1 1, .slice (some ⟨w.heap.size + 1 + 1 + 1 + 1 + 1, 0, none⟩) 2 2, .slice none 0 0, .slice none 0 0, .slice none 0 0] 31) none))
  have B0 := ((((((IsB.new w 65 #[.string ⟨#[105, 110]⟩, .int .i64 8, .string ⟨#[109]⟩, .int .i64 4]).alloc (.cells #[.string ⟨#[110, 111, 112]⟩, .slice none 0 0, .slice none 0 0] 75)).alloc (.cells #[.int .i64 (-1), .int .i64 0, .int .i64 1, .int .i64 (-1), .int .i64 1, .int .i64 3] 62)).alloc (.cells #[.int .i64 0] 3)).alloc (.cells #[.int .i64 0] 3)).alloc (.cells #[.string ⟨#[116]⟩, .slice (some ⟨w.heap.size + 1 + 1, 0, none⟩) 2 2, .slice (some ⟨w.heap.size + 1 + 1 + 1, 0, none⟩) 1 1, .int .i64 0, .slice none 0 0, .int .i64 4, .string ⟨#[117]⟩, .slice none 0 0, .slice (some ⟨w.heap.size + 1 + 1 + 1 + 1, 0, none⟩) 1 1, .int .i64 0, .slice none 0 0, .int .i64 1] 56)).alloc (.cells #[.string ⟨#[]⟩, .slice none 0 0, .slice (some ⟨w.heap.size, 0, none⟩) 2 2, .slice none 0 0, .slice (some ⟨w.heap.size + 1, 0, none⟩) 1 1, .slice (some ⟨w.heap.size + 1 + 1 + 1 + 1 + 1, 0, none⟩) 2 2, .slice none 0 0, .slice none 0 0, .slice none 0 0] 31)
  have B1 := (((((IsB.new (w.alloc (.cells #[.string ⟨#[105, 110]⟩, .int .i64 8, .string ⟨#[109]⟩, .int .i64 4] 65)) 75 #[.string ⟨#[110, 111, 112]⟩, .slice none 0 0, .slice none 0 0]).alloc (.cells #[.int .i64 (-1), .int .i64 0, .int .i64 1, .int .i64 (-1), .int .i64 1, .int .i64 3] 62)).alloc (.cells #[.int .i64 0] 3)).alloc (.cells #[.int .i64 0] 3)).alloc (.cells #[.string ⟨#[116]⟩, .slice (some ⟨w.heap.size + 1 + 1, 0, none⟩) 2 2, .slice (some ⟨w.heap.size + 1 + 1 + 1, 0, none⟩) 1 1, .int .i64 0, .slice none 0 0, .int .i64 4, .string ⟨#[117]⟩, .slice none 0 0, .slice (some ⟨w.heap.size + 1 + 1 + 1 + 1, 0, none⟩) 1 1, .int .i64 0, .slice none 0 0, .int .i64 1] 56)).alloc (.cells #[.string ⟨#[]⟩, .slice none 0 0, .slice (some ⟨w.heap.size, 0, none⟩) 2 2, .slice none 0 0, .slice (some ⟨w.heap.size + 1, 0, none⟩) 1 1, .slice (some ⟨w.heap.size + 1 + 1 + 1 + 1 + 1, 0, none⟩) 2 2, .slice none 0 0, .slice none 0 0, .slice none 0 0] 31)
  have B2 := ((((IsB.new ((w.alloc (.cells #[.string ⟨#[105, 110]⟩, .int .i64 8, .string ⟨#[109]⟩, .int .i64 4] 65)).alloc (.cells #[.string ⟨#[110, 111, 112]⟩, .slice none 0 0, .slice none 0 0] 75)) 62 #[.int .i64 (-1), .int .i64 0, .int .i64 1, .int .i64 (-1), .int .i64 1, .int .i64 3]).alloc (.cells #[.int .i64 0] 3)).alloc (.cells #[.int .i64 0] 3)).alloc (.cells #[.string ⟨#[116]⟩, .slice (some ⟨w.heap.size + 1 + 1, 0, none⟩) 2 2, .slice (some ⟨w.heap.size + 1 + 1 + 1, 0, none⟩) 1 1, .int .i64 0, .slice none 0 0, .int .i64 4, .string ⟨#[117]⟩, .slice none 0 0, .slice (some ⟨w.heap.size + 1 + 1 + 1 + 1, 0, none⟩) 1 1, .int .i64 0, .slice none 0 0, .int .i64 1] 56)).alloc (.cells #[.string ⟨#[]⟩, .slice none 0 0, .slice (some ⟨w.heap.size, 0, none⟩) 2 2, .slice none 0 0, .slice (some ⟨w.heap.size + 1, 0, none⟩) 1 1, .slice (some ⟨w.heap.size + 1 + 1 + 1 + 1 + 1, 0, none⟩) 2 2, .slice none 0 0, .slice none 0 0, .slice none 0 0] 31)
  have B3 := (((IsB.new (((w.alloc (.cells #[.string ⟨#[105, 110]⟩, .int .i64 8, .string ⟨#[109]⟩, .int .i64 4] 65)).alloc (.cells #[.string ⟨#[110, 111, 112]⟩, .slice none 0 0, .slice none 0 0] 75)).alloc (.cells #[.int .i64 (-1), .int .i64 0, .int .i64 1, .int .i64 (-1), .int .i64 1, .int .i64 3] 62)) 3 #[.int .i64 0]).alloc (.cells #[.int .i64 0] 3)).alloc (.cells #[.string ⟨#[116]⟩, .slice (some ⟨w.heap.size + 1 + 1, 0, none⟩) 2 2, .slice (some ⟨w.heap.size + 1 + 1 + 1, 0, none⟩) 1 1, .int .i64 0, .slice none 0 0, .int .i64 4, .string ⟨#[117]⟩, .slice none 0 0, .slice (some ⟨w.heap.size + 1 + 1 + 1 + 1, 0, none⟩) 1 1, .int .i64 0, .slice none 0 0, .int .i64 1] 56)).alloc (.cells #[.string ⟨#[]⟩, .slice none 0 0, .slice (some ⟨w.heap.size, 0, none⟩) 2 2, .slice none 0 0, .slice (some ⟨w.heap.size + 1, 0, none⟩) 1 1, .slice (some ⟨w.heap.size + 1 + 1 + 1 + 1 + 1, 0, none⟩) 2 2, .slice none 0 0, .slice none 0 0, .slice none 0 0] 31)
  have B4 := ((IsB.new ((((w.alloc (.cells #[.string ⟨#[105, 110]⟩, .int .i64 8, .string ⟨#[109]⟩, .int .i64 4] 65)).alloc (.cells #[.string ⟨#[110, 111, 112]⟩, .slice none 0 0, .slice none 0 0] 75)).alloc (.cells #[.int .i64 (-1), .int .i64 0, .int .i64 1, .int .i64 (-1), .int .i64 1, .int .i64 3] 62)).alloc (.cells #[.int .i64 0] 3)) 3 #[.int .i64 0]).alloc (.cells #[.string ⟨#[116]⟩, .slice (some ⟨w.heap.size + 1 + 1, 0, none⟩) 2 2, .slice (some ⟨w.heap.size + 1 + 1 + 1, 0, none⟩) 1 1, .int .i64 0, .slice none 0 0, .int .i64 4, .string ⟨#[117]⟩, .slice none 0 0, .slice (some ⟨w.heap.size + 1 + 1 + 1 + 1, 0, none⟩) 1 1, .int .i64 0, .slice none 0 0, .int .i64 1] 56)).alloc (.cells #[.string ⟨#[]⟩, .slice none 0 0, .slice (some ⟨w.heap.size, 0, none⟩) 2 2, .slice none 0 0, .slice (some ⟨w.heap.size + 1, 0, none⟩) 1 1, .slice (some ⟨w.heap.size + 1 + 1 + 1 + 1 + 1, 0, none⟩) 2 2, .slice none 0 0, .slice none 0 0, .slice none 0 0] 31)
  have B5 := (IsB.new (((((w.alloc (.cells #[.string ⟨#[105, 110]⟩, .int .i64 8, .string ⟨#[109]⟩, .int .i64 4] 65)).alloc (.cells #[.string ⟨#[110, 111, 112]⟩, .slice none 0 0, .slice none 0 0] 75)).alloc (.cells #[.int .i64 (-1), .int .i64 0, .int .i64 1, .int .i64 (-1), .int .i64 1, .int .i64 3] 62)).alloc (.cells #[.int .i64 0] 3)).alloc (.cells #[.int .i64 0] 3)) 56 #[.string ⟨#[116]⟩, .slice (some ⟨w.heap.size + 1 + 1, 0, none⟩) 2 2, .slice (some ⟨w.heap.size + 1 + 1 + 1, 0, none⟩) 1 1, .int .i64 0, .slice none 0 0, .int .i64 4, .string ⟨#[117]⟩, .slice none 0 0, .slice (some ⟨w.heap.size + 1 + 1 + 1 + 1, 0, none⟩) 1 1, .int .i64 0, .slice none 0 0, .int .i64 1]).alloc (.cells #[.string ⟨#[]⟩, .slice none 0 0, .slice (some ⟨w.heap.size, 0, none⟩) 2 2, .slice none 0 0, .slice (some ⟨w.heap.size + 1, 0, none⟩) 1 1, .slice (some ⟨w.heap.size + 1 + 1 + 1 + 1 + 1, 0, none⟩) 2 2, .slice none 0 0, .slice none 0 0, .slice none 0 0] 31)
  have BP := IsB.new ((((((w.alloc (.cells #[.string ⟨#[105, 110]⟩, .int .i64 8, .string ⟨#[109]⟩, .int .i64 4] 65)).alloc (.cells #[.string ⟨#[110, 111, 112]⟩, .slice none 0 0, .slice none 0 0] 75)).alloc (.cells #[.int .i64 (-1), .int .i64 0, .int .i64 1, .int .i64 (-1), .int .i64 1, .int .i64 3] 62)).alloc (.cells #[.int .i64 0] 3)).alloc (.cells #[.int .i64 0] 3)).alloc (.cells #[.string ⟨#[116]⟩, .slice (some ⟨w.heap.size + 1 + 1, 0, none⟩) 2 2, .slice (some ⟨w.heap.size + 1 + 1 + 1, 0, none⟩) 1 1, .int .i64 0, .slice none 0 0, .int .i64 4, .string ⟨#[117]⟩, .slice none 0 0, .slice (some ⟨w.heap.size + 1 + 1 + 1 + 1, 0, none⟩) 1 1, .int .i64 0, .slice none 0 0, .int .i64 1] 56)) 31 #[.string ⟨#[]⟩, .slice none 0 0, .slice (some ⟨w.heap.size, 0, none⟩) 2 2, .slice none 0 0, .slice (some ⟨w.heap.size + 1, 0, none⟩) 1 1, .slice (some ⟨w.heap.size + 1 + 1 + 1 + 1 + 1, 0, none⟩) 2 2, .slice none 0 0, .slice none 0 0, .slice none 0 0]
  simp only [sz_al] at B1 B2 B3 B4 B5 BP
  replace B0 := Lib.hid B0
  replace B1 := Lib.hid B1
  replace B2 := Lib.hid B2
  replace B3 := Lib.hid B3
  replace B4 := Lib.hid B4
  replace B5 := Lib.hid B5
  replace BP := Lib.hid BP
  go_enter Try.func9, Try.ntmps9
  go_upto_region 2 with fail
  generalize ((((((w.alloc (.cells #[.string ⟨#[105, 110]⟩, .int .i64 8, .string ⟨#[109]⟩, .int .i64 4] 65)).alloc (.cells #[.string ⟨#[110, 111, 112]⟩, .slice none 0 0, .slice none 0 0] 75)).alloc (.cells #[.int .i64 (-1), .int .i64 0, .int .i64 1, .int .i64 (-1), .int .i64 1, .int .i64 3] 62)).alloc (.cells #[.int .i64 0] 3)).alloc (.cells #[.int .i64 0] 3)).alloc (.cells #[.string ⟨#[116]⟩, .slice (some ⟨w.heap.size + 1 + 1, 0, none⟩) 2 2, .slice (some ⟨w.heap.size + 1 + 1 + 1, 0, none⟩) 1 1, .int .i64 0, .slice none 0 0, .int .i64 4, .string ⟨#[117]⟩, .slice none 0 0, .slice (some ⟨w.heap.size + 1 + 1 + 1 + 1, 0, none⟩) 1 1, .int .i64 0, .slice none 0 0, .int .i64 1] 56)).alloc (.cells #[.string ⟨#[]⟩, .slice none 0 0, .slice (some ⟨w.heap.size, 0, none⟩) 2 2, .slice none 0 0, .slice (some ⟨w.heap.size + 1, 0, none⟩) 1 1, .slice (some ⟨w.heap.size + 1 + 1 + 1 + 1 + 1, 0, none⟩) 2 2, .slice none 0 0, .slice none 0 0, .slice none 0 0] 31) = w1 at *
  obtain ⟨bx, hbx⟩ : ∃ b, b = w.heap.size := ⟨_, rfl⟩
  have Lbx := Lib.hid (show w.heap.size ≤ bx by rw [hbx]; exact Nat.le_refl _)
  rw [← hbx] at B0 B1 B2 B3 B4 B5 BP ⊢
  clear hbx
  clear Lbx
  have S1 := Lib.hid (fun (W : World) (k : w1.grownBy W none) => (sp0 B0.out B1.out B2.out B3.out B4.out B5.out).keep0 k)
  clear B0 B1 B2 B3 B4 B5
  have c0 := (BP.out.keep0 (gb_refl _ _)).cell 0
  have c1 := (BP.out.keep0 (gb_refl _ _)).cell 1
  have c2 := (BP.out.keep0 (gb_refl _ _)).cell 2
  have c3 := (BP.out.keep0 (gb_refl _ _)).cell 3
  have c4 := (BP.out.keep0 (gb_refl _ _)).cell 4
  have c5 := (BP.out.keep0 (gb_refl _ _)).cell 5
  have c6 := (BP.out.keep0 (gb_refl _ _)).cell 6
  have c7 := (BP.out.keep0 (gb_refl _ _)).cell 7
  have c8 := (BP.out.keep0 (gb_refl _ _)).cell 8
  dsimp at c0 c1 c2 c3 c4 c5 c6 c7 c8
  go_wp2_with fail
  refine (wchk w1 bx (S1.out _ (gb_refl _ _)) 0 0 0 (by decide +kernel)).mono ?_
  rintro e x1 ⟨rfl, g⟩
  have K1 := Lib.hid (gb_trans (gb_refl _ _) g)
  clear g
  clear c0 c1 c2 c3 c4 c5 c6 c7 c8
  have c0 := (BP.out.keep0 K1.out).cell 0
  have c1 := (BP.out.keep0 K1.out).cell 1
  have c2 := (BP.out.keep0 K1.out).cell 2
  have c3 := (BP.out.keep0 K1.out).cell 3
  have c4 := (BP.out.keep0 K1.out).cell 4
  have c5 := (BP.out.keep0 K1.out).cell 5
  have c6 := (BP.out.keep0 K1.out).cell 6
  have c7 := (BP.out.keep0 K1.out).cell 7
  have c8 := (BP.out.keep0 K1.out).cell 8
  dsimp at c0 c1 c2 c3 c4 c5 c6 c7 c8
  go_wp2_with fail
  refine (wchk x1 bx (S1.out _ K1.out) 2 (-1) 8 (by decide +kernel)).mono ?_
  rintro e x2 ⟨rfl, g⟩
  have K2 := Lib.hid (gb_trans K1.out g)
  clear g
  clear c0 c1 c2 c3 c4 c5 c6 c7 c8
  have c0 := (BP.out.keep0 K2.out).cell 0
  have c1 := (BP.out.keep0 K2.out).cell 1
  have c2 := (BP.out.keep0 K2.out).cell 2
  have c3 := (BP.out.keep0 K2.out).cell 3
  have c4 := (BP.out.keep0 K2.out).cell 4
  have c5 := (BP.out.keep0 K2.out).cell 5
  have c6 := (BP.out.keep0 K2.out).cell 6
  have c7 := (BP.out.keep0 K2.out).cell 7
  have c8 := (BP.out.keep0 K2.out).cell 8
  dsimp at c0 c1 c2 c3 c4 c5 c6 c7 c8
  go_wp2_with fail
  refine (wkind x2 bx (S1.out _ K2.out) 0 3 (by decide +kernel)).mono ?_
  rintro e x3 ⟨rfl, g⟩
  have K3 := Lib.hid (gb_trans K2.out g)
  clear g
  clear c0 c1 c2 c3 c4 c5 c6 c7 c8
  have c0 := (BP.out.keep0 K3.out).cell 0
  have c1 := (BP.out.keep0 K3.out).cell 1
  have c2 := (BP.out.keep0 K3.out).cell 2
  have c3 := (BP.out.keep0 K3.out).cell 3
  have c4 := (BP.out.keep0 K3.out).cell 4
  have c5 := (BP.out.keep0 K3.out).cell 5
  have c6 := (BP.out.keep0 K3.out).cell 6
  have c7 := (BP.out.keep0 K3.out).cell 7
  have c8 := (BP.out.keep0 K3.out).cell 8
  dsimp at c0 c1 c2 c3 c4 c5 c6 c7 c8
  go_wp2_with fail
  refine (wbits x3 bx (S1.out _ K3.out) 0 12 (by decide +kernel)).mono ?_
  rintro e x4 ⟨rfl, g⟩
  have K4 := Lib.hid (gb_trans K3.out g)
  clear g
  clear c0 c1 c2 c3 c4 c5 c6 c7 c8
  have c0 := (BP.out.keep0 K4.out).cell 0
  have c1 := (BP.out.keep0 K4.out).cell 1
  have c2 := (BP.out.keep0 K4.out).cell 2
  have c3 := (BP.out.keep0 K4.out).cell 3
  have c4 := (BP.out.keep0 K4.out).cell 4
  have c5 := (BP.out.keep0 K4.out).cell 5
  have c6 := (BP.out.keep0 K4.out).cell 6
  have c7 := (BP.out.keep0 K4.out).cell 7
  have c8 := (BP.out.keep0 K4.out).cell 8
  dsimp at c0 c1 c2 c3 c4 c5 c6 c7 c8
  go_wp2_with fail
  refine (wkind x4 bx (S1.out _ K4.out) 1 1 (by decide +kernel)).mono ?_
  rintro e x5 ⟨rfl, g⟩
  have K5 := Lib.hid (gb_trans K4.out g)
  clear g
  clear c0 c1 c2 c3 c4 c5 c6 c7 c8
  have c0 := (BP.out.keep0 K5.out).cell 0
  have c1 := (BP.out.keep0 K5.out).cell 1
  have c2 := (BP.out.keep0 K5.out).cell 2
  have c3 := (BP.out.keep0 K5.out).cell 3
  have c4 := (BP.out.keep0 K5.out).cell 4
  have c5 := (BP.out.keep0 K5.out).cell 5
  have c6 := (BP.out.keep0 K5.out).cell 6
  have c7 := (BP.out.keep0 K5.out).cell 7
  have c8 := (BP.out.keep0 K5.out).cell 8
  dsimp at c0 c1 c2 c3 c4 c5 c6 c7 c8
  go_wp2_with fail
  refine (wbits x5 bx (S1.out _ K5.out) 1 0 (by decide +kernel)).mono ?_
  rintro e x6 ⟨rfl, g⟩
  have K6 := Lib.hid (gb_trans K5.out g)
  clear g
  clear c0 c1 c2 c3 c4 c5 c6 c7 c8
  have GY := Lib.hid (gb_alloc x6 (.cells #[.int .u32 7, .int .u32 19] 57) none)
  have BU := IsB.new x6 57 #[.int .u32 7, .int .u32 19]
  replace BU := Lib.hid BU
  have c0 := (BP.out.keep0 K6.out).cell 0
  have c1 := (BP.out.keep0 K6.out).cell 1
  have c2 := (BP.out.keep0 K6.out).cell 2
  have c3 := (BP.out.keep0 K6.out).cell 3
  have c4 := (BP.out.keep0 K6.out).cell 4
  have c5 := (BP.out.keep0 K6.out).cell 5
  have c6 := (BP.out.keep0 K6.out).cell 6
  have c7 := (BP.out.keep0 K6.out).cell 7
  have c8 := (BP.out.keep0 K6.out).cell 8
  dsimp at c0 c1 c2 c3 c4 c5 c6 c7 c8
  go_wp2_with fail
  generalize x6.alloc (.cells #[.int .u32 7, .int .u32 19] 57) = y1 at *
  obtain ⟨bk, hbk⟩ : ∃ b, b = x6.heap.size := ⟨_, rfl⟩
  have Lbk := Lib.hid (show x6.heap.size ≤ bk by rw [hbk]; exact Nat.le_refl _)
  rw [← hbk] at BU ⊢
  clear hbk
  have KY := Lib.hid (gb_trans K6.out GY.out)
  refine (wkey y1 bx (S1.out _ KY.out) _ (u2_two BU.out (by decide) (by decide))).mono ?_
  rintro e y2 ⟨ka, kc, rfl, nu, g⟩
  have KU := Lib.hid (nu_su nu rfl (by decide +kernel))
  have KK := Lib.hid (gb_trans KY.out g)
  clear g nu
  clear c0 c1 c2 c3 c4 c5 c6 c7 c8
  have GV := Lib.hid (gb_alloc y2 (.cells #[.int .u32 7, .int .u32 3] 57) none)
  have BV := IsB.new y2 57 #[.int .u32 7, .int .u32 3]
  replace BV := Lib.hid BV
  have c0 := (BP.out.keep0 KK.out).cell 0
  have c1 := (BP.out.keep0 KK.out).cell 1
  have c2 := (BP.out.keep0 KK.out).cell 2
  have c3 := (BP.out.keep0 KK.out).cell 3
  have c4 := (BP.out.keep0 KK.out).cell 4
  have c5 := (BP.out.keep0 KK.out).cell 5
  have c6 := (BP.out.keep0 KK.out).cell 6
  have c7 := (BP.out.keep0 KK.out).cell 7
  have c8 := (BP.out.keep0 KK.out).cell 8
  dsimp at c0 c1 c2 c3 c4 c5 c6 c7 c8
  go_wp2_with fail
  generalize y2.alloc (.cells #[.int .u32 7, .int .u32 3] 57) = y3 at *
  obtain ⟨bv, hbv⟩ : ∃ b, b = y2.heap.size := ⟨_, rfl⟩
  have Lbv := Lib.hid (show y2.heap.size ≤ bv by rw [hbv]; exact Nat.le_refl _)
  rw [← hbv] at BV ⊢
  clear hbv
  have KV := Lib.hid (gb_trans KK.out GV.out)
  refine (equ_same y3 _ _ _ _ _ _ [7, 3] (KU.out.keep0 GV.out) (u2_two BV.out (by decide) (by decide)) (by decide)).mono ?_
  rintro e y4 ⟨rfl, g⟩
  have K9 := Lib.hid (gb_trans KV.out g)
  clear g
  clear c0 c1 c2 c3 c4 c5 c6 c7 c8
  have c0 := (BP.out.keep0 K9.out).cell 0
  have c1 := (BP.out.keep0 K9.out).cell 1
  have c2 := (BP.out.keep0 K9.out).cell 2
  have c3 := (BP.out.keep0 K9.out).cell 3
  have c4 := (BP.out.keep0 K9.out).cell 4
  have c5 := (BP.out.keep0 K9.out).cell 5
  have c6 := (BP.out.keep0 K9.out).cell 6
  have c7 := (BP.out.keep0 K9.out).cell 7
  have c8 := (BP.out.keep0 K9.out).cell 8
  dsimp at c0 c1 c2 c3 c4 c5 c6 c7 c8
  go_wp2_with fail
  refine (wallow y4 bx (S1.out _ K9.out) 0 0 true (by unfold Rng; decide) (by decide +kernel)).mono ?_
  rintro e x21 ⟨rfl, g⟩
  have K21 := Lib.hid (gb_trans K9.out g)
  clear g
  clear c0 c1 c2 c3 c4 c5 c6 c7 c8
  have c0 := (BP.out.keep0 K21.out).cell 0
  have c1 := (BP.out.keep0 K21.out).cell 1
  have c2 := (BP.out.keep0 K21.out).cell 2
  have c3 := (BP.out.keep0 K21.out).cell 3
  have c4 := (BP.out.keep0 K21.out).cell 4
  have c5 := (BP.out.keep0 K21.out).cell 5
  have c6 := (BP.out.keep0 K21.out).cell 6
  have c7 := (BP.out.keep0 K21.out).cell 7
  have c8 := (BP.out.keep0 K21.out).cell 8
  dsimp at c0 c1 c2 c3 c4 c5 c6 c7 c8
  go_wp2_with fail
  refine (wallow x21 bx (S1.out _ K21.out) 0 1 false (by unfold Rng; decide) (by decide +kernel)).mono ?_
  rintro e x22 ⟨rfl, g⟩
  have K22 := Lib.hid (gb_trans K21.out g)
  clear g
  clear c0 c1 c2 c3 c4 c5 c6 c7 c8
  go_wp2
  go_ret
  exact ⟨rfl, gb_trans G1.out K22.out⟩
end Go.Proofs.Ytaiemcpkiegdiaa
