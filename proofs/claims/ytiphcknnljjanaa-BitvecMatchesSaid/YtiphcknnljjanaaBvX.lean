/- The law on all functions of package bitvec: its walk; no condition but that numbers are of their kind. -/
import Derived.Test.YtiphcknnljjanaaBvW
namespace Go.Proofs.Ytiphcknnljjanaa
open Go.RowKit

theorem nb (a : Int) : (a != a) = false := by simp
theorem nbb (a : Bool) : (a != a) = false := by simp
theorem cells4_start (W : World) (x y z u : Value) (t : TypeId) :
    (W.alloc (.cells #[x, y, z, u] t)).cell? ⟨W.heap.size, 0, none⟩ = some x ∧ (W.alloc (.cells #[x, y, z, u] t)).cell? ⟨W.heap.size, 1, none⟩ = some y ∧ (W.alloc (.cells #[x, y, z, u] t)).cell? ⟨W.heap.size, 2, none⟩ = some z ∧ (W.alloc (.cells #[x, y, z, u] t)).cell? ⟨W.heap.size, 3, none⟩ = some u ∧ Gr W (W.alloc (.cells #[x, y, z, u] t)) :=
  ⟨by simp [go_sem], by simp [go_sem], by simp [go_sem], by simp [go_sem], (Gr.refl _).alloc _ _⟩
/-- The four cells of a boxed struct, and that the world has only grown. -/
def Four (W : World) (x y z u : Value) (w : World) : Prop :=
  w.cell? ⟨W.heap.size, 0, none⟩ = some x ∧ w.cell? ⟨W.heap.size, 1, none⟩ = some y ∧ w.cell? ⟨W.heap.size, 2, none⟩ = some z ∧ w.cell? ⟨W.heap.size, 3, none⟩ = some u ∧ Gr W w
theorem cell_step {w w2 : World} {g i : Nat} {x : Value} (h : w.cell? ⟨g, i, none⟩ = some x) (k : Gr w w2) : w2.cell? ⟨g, i, none⟩ = some x := by
  have hg : g < w.heap.size := by
    simp only [World.cell?] at h
    rcases Nat.lt_or_ge g w.heap.size with hl | hl
    · exact hl
    · rw [Array.getElem?_eq_none hl] at h; simp at h
  have e := k.2.2.2.2 g hg
  simp only [World.cell?, e]
  exact h
theorem Four.step {W w w2 : World} {x y z u : Value} (h : Four W x y z u w) (k : Gr w w2) : Four W x y z u w2 :=
  ⟨cell_step h.1 k, cell_step h.2.1 k, cell_step h.2.2.1 k, cell_step h.2.2.2.1 k, grown_trans h.2.2.2.2 k⟩

theorem four_step {W w w2 : World} {x y z u : Value} (h : w.cell? ⟨W.heap.size, 0, none⟩ = some x ∧ w.cell? ⟨W.heap.size, 1, none⟩ = some y ∧ w.cell? ⟨W.heap.size, 2, none⟩ = some z ∧ w.cell? ⟨W.heap.size, 3, none⟩ = some u ∧ Gr W w) (k : Gr w w2) :
    w2.cell? ⟨W.heap.size, 0, none⟩ = some x ∧ w2.cell? ⟨W.heap.size, 1, none⟩ = some y ∧ w2.cell? ⟨W.heap.size, 2, none⟩ = some z ∧ w2.cell? ⟨W.heap.size, 3, none⟩ = some u ∧ Gr W w2 := Four.step (W := W) h k

set_option maxRecDepth 100000 in
set_option maxHeartbeats 4000000 in
theorem matches_walk (a b n w : Int) (W : World) (h0 : 0 ≤ a) (h1 : a < 4294967296) (k0 : 0 ≤ b) (k1 : b < 4294967296) :
    Calls Try.prog 3 #[.agg #[.int .u32 a, .int .u32 b, .int .i64 n, .int .i64 w]] W (Ret (.bool true) W) := by
  have hb := cells4_start W (.int .u32 a) (.int .u32 b) (.int .i64 n) (.int .i64 w) 24
  go_enter Try.func3, Try.ntmps3
  go_wp2_with fail
  simp only [List.append]
  go_region_held3 (fun w' => w'.cell? ⟨W.heap.size, 0, none⟩ = some (.int .u32 a) ∧ w'.cell? ⟨W.heap.size, 1, none⟩ = some (.int .u32 b) ∧ w'.cell? ⟨W.heap.size, 2, none⟩ = some (.int .i64 n) ∧ w'.cell? ⟨W.heap.size, 3, none⟩ = some (.int .i64 w) ∧ Gr W w') (first | exact four_step (by assumption) (by assumption) | exact hb | assumption)
    (first | (go_at_call 15; refine (mask_any _ _).mono ?_; rintro e w' ⟨rfl, g⟩) | (go_at_call 16; refine (rmask_any _ _).mono ?_; rintro e w' ⟨rfl, rfl⟩) | (go_at_call 17; refine (fits_any _ _ _).mono ?_; rintro e w' ⟨rfl, g⟩) | (go_at_call 18; refine (rfits_any _ _ _ h0 h1).mono ?_; rintro e w' ⟨rfl, rfl⟩) | (go_at_call 19; refine (add_any _ _ _ _).mono ?_; rintro e w' ⟨rfl, g⟩) | (go_at_call 20; refine (radd_any _ _ _ _ h0 h1 k0 k1).mono ?_; rintro e w' ⟨rfl, rfl⟩) | (go_at_call 21; refine (sub_any _ _ _ _).mono ?_; rintro e w' ⟨rfl, g⟩) | (go_at_call 22; refine (rsub_any _ _ _ _ h0 h1 k0 k1).mono ?_; rintro e w' ⟨rfl, rfl⟩) | (go_at_call 23; refine (not_any _ _ _ h0 h1).mono ?_; rintro e w' ⟨rfl, g⟩) | (go_at_call 24; refine (rnot_any _ _ _ h0 h1).mono ?_; rintro e w' ⟨rfl, rfl⟩))
  rename_i hs
  clear hb
  have hb := hs
  clear hs
  go_wp2_with fail
  simp only [List.append]
  go_region_held3 (fun w' => w'.cell? ⟨W.heap.size, 0, none⟩ = some (.int .u32 a) ∧ w'.cell? ⟨W.heap.size, 1, none⟩ = some (.int .u32 b) ∧ w'.cell? ⟨W.heap.size, 2, none⟩ = some (.int .i64 n) ∧ w'.cell? ⟨W.heap.size, 3, none⟩ = some (.int .i64 w) ∧ Gr W w') (first | exact four_step (by assumption) (by assumption) | exact hb | assumption)
    (first | (go_at_call 25; refine (shl_any _ _ _ _).mono ?_; rintro e w' ⟨rfl, g⟩) | (go_at_call 26; refine (rshl_any _ _ _ _ h0 h1).mono ?_; rintro e w' ⟨rfl, rfl⟩) | (go_at_call 27; refine (shr_any _ _ _ _ h0 h1).mono ?_; rintro e w' ⟨rfl, g⟩) | (go_at_call 28; refine (rshr_any _ _ _ _ h0 h1).mono ?_; rintro e w' ⟨rfl, rfl⟩) | (go_at_call 29; refine (slice_any _ _ _ _ h0 h1).mono ?_; rintro e w' ⟨rfl, g⟩) | (go_at_call 30; refine (rslice_any _ _ _ _ h0 h1).mono ?_; rintro e w' ⟨rfl, rfl⟩) | (go_at_call 31; refine (ones_any _ _ h0 h1).mono ?_; rintro e w' ⟨rfl, rfl⟩) | (go_at_call 32; refine (rones_any _ _ h0 h1).mono ?_; rintro e w' ⟨rfl, rfl⟩) | (go_at_call 33; refine (pmask_any _ _ _).mono ?_; rintro e w' ⟨rfl, g⟩) | (go_at_call 34; refine (rpmask_any _ _ _).mono ?_; rintro e w' ⟨rfl, rfl⟩))
  rename_i hs
  clear hb
  have hb := hs
  clear hs
  obtain ⟨c0, c1, c2, c3, gz⟩ := hb
  go_wp2_with fail
  refine (cat_any _ _ _ _ _ h0 h1 k0 k1).mono ?_
  rintro e u1 ⟨rfl, g1⟩
  have hq := four_step ⟨c0, c1, c2, c3, gz⟩ g1
  clear c0 c1 c2 c3 gz g1
  obtain ⟨c0, c1, c2, c3, gz⟩ := hq
  go_wp2_with fail
  refine (rcat_any _ _ _ _ _ h0 h1 k0 k1).mono ?_
  rintro e u2 ⟨rfl, rfl⟩
  go_wp2_with fail
  refine (plen_any _ _ _ h0 h1).mono ?_
  rintro e u3 ⟨rfl, g1⟩
  have hq := four_step ⟨c0, c1, c2, c3, gz⟩ g1
  clear c0 c1 c2 c3 gz g1
  obtain ⟨c0, c1, c2, c3, gz⟩ := hq
  go_wp2_with fail
  refine (rplen_any _ _ _).mono ?_
  rintro e u4 ⟨rfl, rfl⟩
  clear c0 c1 c2 c3
  go_wp2_with fail
  refine (awake_any _).mono ?_
  rintro e u5 ⟨rfl, g1⟩
  have gy := grown_trans gz g1
  clear gz g1
  go_wp2
  go_ret
  exact ⟨rfl, gy⟩
end Go.Proofs.Ytiphcknnljjanaa
