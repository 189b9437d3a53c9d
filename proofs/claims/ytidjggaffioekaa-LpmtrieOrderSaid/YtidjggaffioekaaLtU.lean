/- The reference's tries: Insert, where the trie stays as it is; the place of an entry. -/
import Derived.Test.YtidjggaffioekaaLtT
namespace Go.Proofs.Ytidjggaffioekaa
open Go.RowKit
set_option linter.unusedVariables false

theorem insAt_le (w : Nat) (e : Ent) (L : List Ent) : insAt w e L ≤ L.length := by
  induction L with
  | nil => exact Nat.le_refl _
  | cons a A ih => simp only [insAt, List.length_cons]; split <;> omega
theorem insAt_iff (w : Nat) (e : Ent) (L : List Ent) (j : Nat) (hj : j ≤ insAt w e L) (hl : j < L.length) : (enc w (L[j]).1 < enc w e.1 ∨ enc w (L[j]).1 = enc w e.1 ∧ (L[j]).1.length < e.1.length) ↔ j < insAt w e L := by
  induction L generalizing j with
  | nil => simp at hl
  | cons a A ih =>
    simp only [insAt] at hj ⊢
    by_cases h : enc w a.1 < enc w e.1 ∨ enc w a.1 = enc w e.1 ∧ a.1.length < e.1.length
    · rw [if_pos h] at hj ⊢
      cases j with
      | zero => simp only [List.getElem_cons_zero]; exact ⟨fun _ => by omega, fun _ => h⟩
      | succ j =>
        simp only [List.getElem_cons_succ]
        rw [ih j (by omega) (by simpa using hl)]
        omega
    · rw [if_neg h] at hj ⊢
      obtain rfl : j = 0 := by omega
      simp only [List.getElem_cons_zero]
      exact ⟨fun k => absurd k h, fun k => by omega⟩
set_option maxRecDepth 100000 in
set_option maxHeartbeats 4000000 in
theorem rins_neg (w : World) (v wi : Nat) (m x : Int) (a : Option Addr) (n c : Nat) (L : List Ent) (h : RI w 0 (.slice a n c) wi L) (hn : n = L.length) (hm : m < 0) :
    Calls Try.prog 16 #[.agg #[.int .i64 wi, .slice a n c], .int .u32 v, .int .i64 m, .int .i64 x] w (RetR wi L (.int .i64 9) w) := by
  have B10 := (IsB.new w 30 #[.int .i64 wi, .slice a n c]).alloc (.cells #[.int .i64 0, .slice none 0 0] 30)
  have B20 := IsB.new (w.alloc (.cells #[.int .i64 wi, .slice a n c] 30)) 30 #[.int .i64 0, .slice none 0 0]
  rw [sz_al] at B20
  have B1 := Lib.hid B10
  have B2 := Lib.hid B20
  have G2 := Lib.hid (gb_trans (gb_alloc w (.cells #[.int .i64 wi, .slice a n c] 30) none) (gb_alloc _ (.cells #[.int .i64 0, .slice none 0 0] 30) none))
  clear B10 B20
  have HH := Lib.hid (fun (W : World) (k : w.grownBy W none) => h.keep0 k)
  have HN := Lib.hid hn
  clear h hn 
  unfold RetR
  go_enter Try.func16, Try.ntmps16
  go_upto_region 1 with fail
  generalize (w.alloc (.cells #[.int .i64 wi, .slice a n c] 30)).alloc (.cells #[.int .i64 0, .slice none 0 0] 30) = w2 at *
  obtain ⟨z1, hz1⟩ : ∃ x, x = w.heap.size := ⟨_, rfl⟩
  obtain ⟨z2, hz2⟩ : ∃ x, x = w.heap.size + 1 := ⟨_, rfl⟩
  have Z1 := Lib.hid (show w.heap.size ≤ z1 by omega)
  have Z2 := Lib.hid (show w.heap.size ≤ z2 by omega)
  have Z12 := Lib.hid (show z1 ≠ z2 by omega)
  rw [← hz2] at B2 ⊢
  rw [← hz1] at B1 ⊢
  clear hz1 hz2
  have b0 := B1.out.cell 0
  have b1 := B1.out.cell 1
  dsimp at b0 b1
  have C1 := Lib.hid B1.out
  have C2 := Lib.hid B2.out
  clear b0 b1
  have c0 := C1.out.cell 0
  have c1 := C1.out.cell 1
  have c2 := C2.out.cell 0
  have c3 := C2.out.cell 1
  dsimp at c0 c1 c2 c3
  have f0 := C2.out.free 0
  have f1 := C2.out.free 1
  go_wp2
  (try simp only [Exit.inBlock, Exit.then])
  refine bodyPost_ret (v := .tuple #[.agg #[.int .i64 wi, .slice a n c], .int .i64 9]) (by rw [results_cell_tmp rfl]; go_simp; try rfl) rfl ⟨a, n, c, rfl, HN.out, ?_, gb_put (gb_put G2.out Z2.out) Z2.out⟩
  exact own_kept (own_kept (HH.out _ G2.out) C2.out (by decide)) (C2.out.set 0 _) (by decide)
set_option maxRecDepth 100000 in
set_option maxHeartbeats 4000000 in
theorem rins_long (w : World) (v wi : Nat) (m x : Int) (a : Option Addr) (n c : Nat) (L : List Ent) (h : RI w 0 (.slice a n c) wi L) (hn : n = L.length) (hm : ¬ m < 0) (hm2 : (wi : Int) < m) :
    Calls Try.prog 16 #[.agg #[.int .i64 wi, .slice a n c], .int .u32 v, .int .i64 m, .int .i64 x] w (RetR wi L (.int .i64 9) w) := by
  have B10 := (IsB.new w 30 #[.int .i64 wi, .slice a n c]).alloc (.cells #[.int .i64 0, .slice none 0 0] 30)
  have B20 := IsB.new (w.alloc (.cells #[.int .i64 wi, .slice a n c] 30)) 30 #[.int .i64 0, .slice none 0 0]
  rw [sz_al] at B20
  have B1 := Lib.hid B10
  have B2 := Lib.hid B20
  have G2 := Lib.hid (gb_trans (gb_alloc w (.cells #[.int .i64 wi, .slice a n c] 30) none) (gb_alloc _ (.cells #[.int .i64 0, .slice none 0 0] 30) none))
  clear B10 B20
  have HH := Lib.hid (fun (W : World) (k : w.grownBy W none) => h.keep0 k)
  have HN := Lib.hid hn
  clear h hn 
  unfold RetR
  go_enter Try.func16, Try.ntmps16
  go_upto_region 1 with fail
  generalize (w.alloc (.cells #[.int .i64 wi, .slice a n c] 30)).alloc (.cells #[.int .i64 0, .slice none 0 0] 30) = w2 at *
  obtain ⟨z1, hz1⟩ : ∃ x, x = w.heap.size := ⟨_, rfl⟩
  obtain ⟨z2, hz2⟩ : ∃ x, x = w.heap.size + 1 := ⟨_, rfl⟩
  have Z1 := Lib.hid (show w.heap.size ≤ z1 by omega)
  have Z2 := Lib.hid (show w.heap.size ≤ z2 by omega)
  have Z12 := Lib.hid (show z1 ≠ z2 by omega)
  rw [← hz2] at B2 ⊢
  rw [← hz1] at B1 ⊢
  clear hz1 hz2
  have b0 := B1.out.cell 0
  have b1 := B1.out.cell 1
  dsimp at b0 b1
  have C1 := Lib.hid B1.out
  have C2 := Lib.hid B2.out
  clear b0 b1
  have c0 := C1.out.cell 0
  have c1 := C1.out.cell 1
  have c2 := C2.out.cell 0
  have c3 := C2.out.cell 1
  dsimp at c0 c1 c2 c3
  have f0 := C2.out.free 0
  have f1 := C2.out.free 1
  go_wp2
  (try simp only [Exit.inBlock, Exit.then])
  refine bodyPost_ret (v := .tuple #[.agg #[.int .i64 wi, .slice a n c], .int .i64 9]) (by rw [results_cell_tmp rfl]; go_simp; try rfl) rfl ⟨a, n, c, rfl, HN.out, ?_, gb_put (gb_put G2.out Z2.out) Z2.out⟩
  exact own_kept (own_kept (HH.out _ G2.out) C2.out (by decide)) (C2.out.set 0 _) (by decide)
set_option maxRecDepth 100000 in
set_option maxHeartbeats 4000000 in
theorem rins_big (w : World) (v wi : Nat) (m x : Int) (a : Option Addr) (n c : Nat) (L : List Ent) (h : RI w 0 (.slice a n c) wi L) (hn : n = L.length) (h2 : wi ≤ 32) (hv : v < 4294967296) (hm : ¬ m < 0) (hm2 : ¬ (wi : Int) < m) (hb : ¬ v < 2 ^ wi) :
    Calls Try.prog 16 #[.agg #[.int .i64 wi, .slice a n c], .int .u32 v, .int .i64 m, .int .i64 x] w (RetR wi L (.int .i64 9) w) := by
  have FT := Lib.hid (fun W => rfits_any W v wi h2 hv)
  rw [decide_eq_false hb] at FT
  have B10 := (IsB.new w 30 #[.int .i64 wi, .slice a n c]).alloc (.cells #[.int .i64 0, .slice none 0 0] 30)
  have B20 := IsB.new (w.alloc (.cells #[.int .i64 wi, .slice a n c] 30)) 30 #[.int .i64 0, .slice none 0 0]
  rw [sz_al] at B20
  have B1 := Lib.hid B10
  have B2 := Lib.hid B20
  have G2 := Lib.hid (gb_trans (gb_alloc w (.cells #[.int .i64 wi, .slice a n c] 30) none) (gb_alloc _ (.cells #[.int .i64 0, .slice none 0 0] 30) none))
  clear B10 B20
  have HH := Lib.hid (fun (W : World) (k : w.grownBy W none) => h.keep0 k)
  have HN := Lib.hid hn
  clear h hn h2 hv hb
  unfold RetR
  go_enter Try.func16, Try.ntmps16
  go_upto_region 1 with fail
  generalize (w.alloc (.cells #[.int .i64 wi, .slice a n c] 30)).alloc (.cells #[.int .i64 0, .slice none 0 0] 30) = w2 at *
  obtain ⟨z1, hz1⟩ : ∃ x, x = w.heap.size := ⟨_, rfl⟩
  obtain ⟨z2, hz2⟩ : ∃ x, x = w.heap.size + 1 := ⟨_, rfl⟩
  have Z1 := Lib.hid (show w.heap.size ≤ z1 by omega)
  have Z2 := Lib.hid (show w.heap.size ≤ z2 by omega)
  have Z12 := Lib.hid (show z1 ≠ z2 by omega)
  rw [← hz2] at B2 ⊢
  rw [← hz1] at B1 ⊢
  clear hz1 hz2
  have b0 := B1.out.cell 0
  have b1 := B1.out.cell 1
  dsimp at b0 b1
  go_wp2_with fail
  refine (FT.out _).mono ?_
  rintro e w3 ⟨rfl, g⟩
  have G3 := Lib.hid (gb_trans G2.out g)
  have C1 := Lib.hid (B1.out.keep0 g)
  have C2 := Lib.hid (B2.out.keep0 g)
  clear g
  clear b0 b1
  have c0 := C1.out.cell 0
  have c1 := C1.out.cell 1
  have c2 := C2.out.cell 0
  have c3 := C2.out.cell 1
  dsimp at c0 c1 c2 c3
  have f0 := C2.out.free 0
  have f1 := C2.out.free 1
  go_wp2
  (try simp only [Exit.inBlock, Exit.then])
  refine bodyPost_ret (v := .tuple #[.agg #[.int .i64 wi, .slice a n c], .int .i64 9]) (by rw [results_cell_tmp rfl]; go_simp; try rfl) rfl ⟨a, n, c, rfl, HN.out, ?_, gb_put (gb_put G3.out Z2.out) Z2.out⟩
  exact own_kept (own_kept (HH.out _ G3.out) C2.out (by decide)) (C2.out.set 0 _) (by decide)
theorem rins_bad (w : World) (v wi : Nat) (m x : Int) (a : Option Addr) (n c : Nat) (L : List Ent) (h : RI w 0 (.slice a n c) wi L) (hn : n = L.length) (h2 : wi ≤ 32) (hv : v < 4294967296) (hb : ¬ (v < 2 ^ wi ∧ 0 ≤ m ∧ m ≤ wi)) :
    Calls Try.prog 16 #[.agg #[.int .i64 wi, .slice a n c], .int .u32 v, .int .i64 m, .int .i64 x] w (RetR wi L (.int .i64 9) w) := by
  by_cases h1 : m < 0
  · exact rins_neg w v wi m x a n c L h hn h1
  · by_cases h3 : (wi : Int) < m
    · exact rins_long w v wi m x a n c L h hn h1 h3
    · exact rins_big w v wi m x a n c L h hn h2 hv h1 h3 (fun k => hb ⟨k, by omega, by omega⟩)
set_option maxRecDepth 100000 in
set_option maxHeartbeats 4000000 in
theorem rins_dup (w : World) (v wi : Nat) (m x : Int) (a : Option Addr) (n c : Nat) (L : List Ent) (h : RI w 0 (.slice a n c) wi L) (hn : n = L.length) (h2 : wi ≤ 32) (hm : ¬ m < 0) (hm2 : ¬ (wi : Int) < m) (hb : v < 2 ^ wi) (hf : ∀ W, w.grownBy W none → ∃ k : Nat, Calls Try.prog 31 #[.agg #[.int .i64 wi, .slice a n c], .int .u32 v, .int .i64 m] W (RetV (.int .i64 k) W)) :
    Calls Try.prog 16 #[.agg #[.int .i64 wi, .slice a n c], .int .u32 v, .int .i64 m, .int .i64 x] w (RetR wi L (.int .i64 7) w) := by
  have hb2 : 2 ^ wi ≤ 2 ^ 32 := Nat.pow_le_pow_right (by decide) h2
  have FT := Lib.hid (fun W => rfits_any W v wi h2 (by omega))
  rw [decide_eq_true hb] at FT
  have HF := Lib.hid hf
  have B10 := (IsB.new w 30 #[.int .i64 wi, .slice a n c]).alloc (.cells #[.int .i64 0, .slice none 0 0] 30)
  have B20 := IsB.new (w.alloc (.cells #[.int .i64 wi, .slice a n c] 30)) 30 #[.int .i64 0, .slice none 0 0]
  rw [sz_al] at B20
  have B1 := Lib.hid B10
  have B2 := Lib.hid B20
  have G2 := Lib.hid (gb_trans (gb_alloc w (.cells #[.int .i64 wi, .slice a n c] 30) none) (gb_alloc _ (.cells #[.int .i64 0, .slice none 0 0] 30) none))
  clear B10 B20
  have HH := Lib.hid (fun (W : World) (k : w.grownBy W none) => h.keep0 k)
  have HN := Lib.hid hn
  clear h hn h2 hb hb2 hf
  unfold RetR
  go_enter Try.func16, Try.ntmps16
  go_upto_region 1 with fail
  generalize (w.alloc (.cells #[.int .i64 wi, .slice a n c] 30)).alloc (.cells #[.int .i64 0, .slice none 0 0] 30) = w2 at *
  obtain ⟨z1, hz1⟩ : ∃ x, x = w.heap.size := ⟨_, rfl⟩
  obtain ⟨z2, hz2⟩ : ∃ x, x = w.heap.size + 1 := ⟨_, rfl⟩
  have Z1 := Lib.hid (show w.heap.size ≤ z1 by omega)
  have Z2 := Lib.hid (show w.heap.size ≤ z2 by omega)
  have Z12 := Lib.hid (show z1 ≠ z2 by omega)
  rw [← hz2] at B2 ⊢
  rw [← hz1] at B1 ⊢
  clear hz1 hz2
  have b0 := B1.out.cell 0
  have b1 := B1.out.cell 1
  dsimp at b0 b1
  go_wp2_with fail
  refine (FT.out _).mono ?_
  rintro e w3 ⟨rfl, g⟩
  have G3 := Lib.hid (gb_trans G2.out g)
  have D1 := Lib.hid (B1.out.keep0 g)
  have D2 := Lib.hid (B2.out.keep0 g)
  clear g b0 b1
  have b0 := D1.out.cell 0
  have b1 := D1.out.cell 1
  dsimp at b0 b1
  obtain ⟨k, hk⟩ := HF.out _ G3.out
  have CC := Lib.hid hk
  have kk : (0 : Int) ≤ (k : Int) := by omega
  clear hk
  go_wp2_with fail
  refine CC.out.mono ?_
  rintro e w4 ⟨rfl, g⟩
  have G4 := Lib.hid (gb_trans G3.out g)
  have C1 := Lib.hid (D1.out.keep0 g)
  have C2 := Lib.hid (D2.out.keep0 g)
  clear g
  clear b0 b1
  have c0 := C1.out.cell 0
  have c1 := C1.out.cell 1
  have c2 := C2.out.cell 0
  have c3 := C2.out.cell 1
  dsimp at c0 c1 c2 c3
  have f0 := C2.out.free 0
  have f1 := C2.out.free 1
  go_wp2
  (try simp only [Exit.inBlock, Exit.then])
  refine bodyPost_ret (v := .tuple #[.agg #[.int .i64 wi, .slice a n c], .int .i64 7]) (by rw [results_cell_tmp rfl]; go_simp; try rfl) rfl ⟨a, n, c, rfl, HN.out, ?_, gb_put (gb_put G4.out Z2.out) Z2.out⟩
  exact own_kept (own_kept (HH.out _ G4.out) C2.out (by decide)) (C2.out.set 0 _) (by decide)
end Go.Proofs.Ytidjggaffioekaa
