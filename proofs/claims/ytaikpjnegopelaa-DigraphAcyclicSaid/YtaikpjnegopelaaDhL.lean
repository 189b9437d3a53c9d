/- The walk of the law's works. -/
import Derived.Test.YtaikpjnegopelaaDhK
import Derived.Test.YtaikpjnegopelaaDhA
import Derived.Test.YtaikpjnegopelaaDgG
import Derived.Test.YtaikpjnegopelaaGrM
namespace Go.Proofs.Ytaikpjnegopelaa
open Go.RowKit
set_option linter.unusedVariables false

def G4 : List (List Int) := [[1, 2], [3], [3], []]
def G3 : List (List Int) := [[1], [2], [1]]
def R4 : List (List Int) := [[], [0], [0], [1, 2]]
theorem w_short (w : World) (a : Option Addr) (h : SlG w a 4 4 G4) : Calls Try.prog 17 #[.slice a 4 4, .int .i64 0, .int .i64 3] w (RetNB w.heap.size [0, 1, 3] true w) := by
  have k := short_any w a 4 G4 0 3 h (by decide) (by omega) (by omega)
  rw [show pathP G4 0 3 = [0, 1, 3] by decide +kernel, show hasP G4 0 3 = true by decide +kernel] at k
  exact k
theorem G4_rows : ∀ v, v < G4.length → (G4.getD v []).length ≤ 1000 := by decide +kernel
theorem G3_rows : ∀ v, v < G3.length → (G3.getD v []).length ≤ 1000 := by decide +kernel
theorem w_topo (w : World) (a : Option Addr) (h : SlG w a 4 4 G4) : Calls Try.prog 20 #[.slice a 4 4] w (RetNB w.heap.size [0, 1, 2, 3] true w) := by
  have k := topo_any w a 4 G4 h (by decide) G4_rows
  rw [show topG G4 = some [0, 1, 2, 3] by decide +kernel] at k
  exact k
theorem w_lev (w : World) (a : Option Addr) (h : SlG w a 4 4 G4) : Calls Try.prog 22 #[.slice a 4 4] w (RetNB w.heap.size [0, 1, 1, 2] true w) := by
  have k := levels_any w a 4 G4 h (by decide) G4_rows
  rw [show fwG G4 = [0, 1, 1, 2] by decide +kernel, show (topG G4).isSome = true by decide +kernel] at k
  exact k
theorem w_long (w : World) (a : Option Addr) (h : SlG w a 4 4 G4) : Calls Try.prog 24 #[.slice a 4 4] w (RetNB w.heap.size [0, 1, 3] true w) := by
  have k := long_any w a 4 G4 h (by decide)
  rw [show longG G4 = [0, 1, 3] by decide +kernel, show (topG (revG G4)).isSome = true by decide +kernel] at k
  exact k
theorem w_cyc (w : World) (a : Option Addr) (h : SlG w a 3 3 G3) : Calls Try.prog 26 #[.slice a 3 3] w (RetN w.heap.size [1, 2] w) := by
  have k := cyc_any w a 3 G3 h (by decide) G3_rows
  rw [show cycG G3 = [1, 2] by decide +kernel] at k
  exact k
theorem w_reach (w : World) (a : Option Addr) (h : SlG w a 4 4 G4) : Calls Try.prog 15 #[.slice a 4 4, .int .i64 1] w (RetO w.heap.size [false, true, false, true] w) := by
  have k := reach_any w a 4 G4 1 h (by decide) (by omega)
  rw [show reachL G4 1 = [false, true, false, true] by decide +kernel] at k
  exact k
theorem w_rev (w : World) (a : Option Addr) (h : SlG w a 4 4 G4) : Calls Try.prog 29 #[.slice a 4 4] w (RetG 4 R4 w) := by
  have k := rev_any w a 4 4 G4 h (by decide)
  rw [show revG G4 = R4 by decide +kernel] at k
  exact k
theorem w_chk (w : World) (a : Option Addr) (h : SlG w a 1 1 [[5]]) : Calls Try.prog 10 #[.slice a 1 1] w (RetS (.int .i64 9) w) := by
  have k := check_any w a 1 1 [[5]] h
  rw [show chk [[5]] = 9 by decide +kernel] at k
  exact k
theorem eqI (w : World) (a b : Option Addr) (n c m d : Nat) (xs : List Int) (h : SlR w a n c (xs.map (Value.int .i64))) (g : SlR w b m d (xs.map (Value.int .i64))) (hn : n ≤ 9223372036854775807) (hm : m ≤ 9223372036854775807) :
    Calls Try.prog 19 #[.slice a n c, .slice b m d] w (RetD (.bool true) w) := by
  have k := reqints_any w a b n c m d xs xs h g hn hm
  rwa [decide_eq_true rfl] at k
theorem eqB (w : World) (a b : Option Addr) (n c m d : Nat) (xs : List Bool) (h : SlR w a n c (xs.map Value.bool)) (g : SlR w b m d (xs.map Value.bool)) (hn : n ≤ 9223372036854775807) (hm : m ≤ 9223372036854775807) :
    Calls Try.prog 14 #[.slice a n c, .slice b m d] w (RetD (.bool true) w) := by
  have k := reqbools_any w a b n c m d xs xs h g hn hm
  rwa [decide_eq_true rfl] at k
theorem eqG (w : World) (a b : Option Addr) (n c m d : Nat) (g : List (List Int)) (H : SlG w a n c g) (K : SlG w b m d g) :
    Calls Try.prog 28 #[.slice a n c, .slice b m d] w (RetD (.bool true) w) := by
  have k := reqgraphs_any w a b n c m d g g H K
  rwa [decide_eq_true rfl] at k
theorem lit_row (w : World) (zs : List Int) (n : Nat) (hn : n = w.heap.size) : SlR (w.alloc (.cells (zs.map (Value.int .i64)).toArray 3)) (some ⟨n, 0, none⟩) zs.length zs.length (zs.map (Value.int .i64)) := by
  subst hn; exact slr_new w .i64 zs _
theorem sz1 (w : World) (o : Obj) (n : Nat) (h : n = w.heap.size) : n + 1 = (w.alloc o).heap.size := by rw [alloc_size, h]
theorem lit_cell (w : World) (cs : Array Value) (n j : Nat) (t : TypeId) (hn : n = w.heap.size) (u : Value) (hu : cs[j]? = some u) : (w.alloc (.cells cs t)).cell? ⟨n, j, none⟩ = some u := by
  subst hn
  rw [(IsB.new w t cs).cell j, hu]
theorem lit_bools (w : World) (bs : List Bool) (n : Nat) (hn : n = w.heap.size) : SlR (w.alloc (.cells (bs.map Value.bool).toArray 4)) (some ⟨n, 0, none⟩) bs.length bs.length (bs.map Value.bool) := by
  subst hn
  refine ⟨by simp, by simp, ?_⟩
  intro ad ha j u hu
  injection ha with ha; subst ha
  rw [addr0, (IsB.new w _ _).cell j]
  simpa using hu
theorem lit4 (w : World) (n : Nat) (hn : n = w.heap.size) : SlG (((((w.alloc (.cells #[.int .i64 1, .int .i64 2] 3)).alloc (.cells #[.int .i64 3] 3)).alloc (.cells #[.int .i64 3] 3)).alloc (.cells #[] 3)).alloc
    (.cells #[.slice (some ⟨n, 0, none⟩) 2 2, .slice (some ⟨n + 1, 0, none⟩) 1 1, .slice (some ⟨n + 1 + 1, 0, none⟩) 1 1, .slice (some ⟨n + 1 + 1 + 1, 0, none⟩) 0 0] 31)) (some ⟨n + 1 + 1 + 1 + 1, 0, none⟩) 4 4 G4 := by
  have h1 := sz1 w (.cells #[.int .i64 1, .int .i64 2] 3) n hn
  have h2 := sz1 _ (.cells #[.int .i64 3] 3) _ h1
  have h3 := sz1 _ (.cells #[.int .i64 3] 3) _ h2
  have h4 := sz1 _ (.cells #[] 3) _ h3
  refine ⟨rfl, (fun h => by cases h), by decide, ?_⟩
  intro ad had j zs hz
  injection had with had; subst had
  rw [addr0]
  match j, hz with
  | 0, hz =>
    injection hz with hz; subst hz
    exact ⟨_, _, _, lit_cell _ _ _ 0 _ h4 _ rfl, ((((lit_row w [1, 2] n hn).keep0 (gb_alloc _ _ none)).keep0 (gb_alloc _ _ none)).keep0 (gb_alloc _ _ none)).keep0 (gb_alloc _ _ none), by decide⟩
  | 1, hz =>
    injection hz with hz; subst hz
    exact ⟨_, _, _, lit_cell _ _ _ 1 _ h4 _ rfl, (((lit_row _ [3] _ h1).keep0 (gb_alloc _ _ none)).keep0 (gb_alloc _ _ none)).keep0 (gb_alloc _ _ none), by decide⟩
  | 2, hz =>
    injection hz with hz; subst hz
    exact ⟨_, _, _, lit_cell _ _ _ 2 _ h4 _ rfl, ((lit_row _ [3] _ h2).keep0 (gb_alloc _ _ none)).keep0 (gb_alloc _ _ none), by decide⟩
  | 3, hz =>
    injection hz with hz; subst hz
    exact ⟨_, _, _, lit_cell _ _ _ 3 _ h4 _ rfl, (lit_row _ [] _ h3).keep0 (gb_alloc _ _ none), by decide⟩
  | j + 4, hz => cases hz
theorem lit3 (w : World) (n : Nat) (hn : n = w.heap.size) : SlG ((((w.alloc (.cells #[.int .i64 1] 3)).alloc (.cells #[.int .i64 2] 3)).alloc (.cells #[.int .i64 1] 3)).alloc
    (.cells #[.slice (some ⟨n, 0, none⟩) 1 1, .slice (some ⟨n + 1, 0, none⟩) 1 1, .slice (some ⟨n + 1 + 1, 0, none⟩) 1 1] 31)) (some ⟨n + 1 + 1 + 1, 0, none⟩) 3 3 G3 := by
  have h1 := sz1 w (.cells #[.int .i64 1] 3) n hn
  have h2 := sz1 _ (.cells #[.int .i64 2] 3) _ h1
  have h3 := sz1 _ (.cells #[.int .i64 1] 3) _ h2
  refine ⟨rfl, (fun h => by cases h), by decide, ?_⟩
  intro ad had j zs hz
  injection had with had; subst had
  rw [addr0]
  match j, hz with
  | 0, hz =>
    injection hz with hz; subst hz
    exact ⟨_, _, _, lit_cell _ _ _ 0 _ h3 _ rfl, (((lit_row w [1] n hn).keep0 (gb_alloc _ _ none)).keep0 (gb_alloc _ _ none)).keep0 (gb_alloc _ _ none), by decide⟩
  | 1, hz =>
    injection hz with hz; subst hz
    exact ⟨_, _, _, lit_cell _ _ _ 1 _ h3 _ rfl, ((lit_row _ [2] _ h1).keep0 (gb_alloc _ _ none)).keep0 (gb_alloc _ _ none), by decide⟩
  | 2, hz =>
    injection hz with hz; subst hz
    exact ⟨_, _, _, lit_cell _ _ _ 2 _ h3 _ rfl, (lit_row _ [1] _ h2).keep0 (gb_alloc _ _ none), by decide⟩
  | j + 3, hz => cases hz
theorem litR (w : World) (n : Nat) (hn : n = w.heap.size) : SlG (((((w.alloc (.cells #[] 3)).alloc (.cells #[.int .i64 0] 3)).alloc (.cells #[.int .i64 0] 3)).alloc (.cells #[.int .i64 1, .int .i64 2] 3)).alloc
    (.cells #[.slice (some ⟨n, 0, none⟩) 0 0, .slice (some ⟨n + 1, 0, none⟩) 1 1, .slice (some ⟨n + 1 + 1, 0, none⟩) 1 1, .slice (some ⟨n + 1 + 1 + 1, 0, none⟩) 2 2] 31)) (some ⟨n + 1 + 1 + 1 + 1, 0, none⟩) 4 4 R4 := by
  have h1 := sz1 w (.cells #[] 3) n hn
  have h2 := sz1 _ (.cells #[.int .i64 0] 3) _ h1
  have h3 := sz1 _ (.cells #[.int .i64 0] 3) _ h2
  have h4 := sz1 _ (.cells #[.int .i64 1, .int .i64 2] 3) _ h3
  refine ⟨rfl, (fun h => by cases h), by decide, ?_⟩
  intro ad had j zs hz
  injection had with had; subst had
  rw [addr0]
  match j, hz with
  | 0, hz =>
    injection hz with hz; subst hz
    exact ⟨_, _, _, lit_cell _ _ _ 0 _ h4 _ rfl, ((((lit_row w [] n hn).keep0 (gb_alloc _ _ none)).keep0 (gb_alloc _ _ none)).keep0 (gb_alloc _ _ none)).keep0 (gb_alloc _ _ none), by decide⟩
  | 1, hz =>
    injection hz with hz; subst hz
    exact ⟨_, _, _, lit_cell _ _ _ 1 _ h4 _ rfl, (((lit_row _ [0] _ h1).keep0 (gb_alloc _ _ none)).keep0 (gb_alloc _ _ none)).keep0 (gb_alloc _ _ none), by decide⟩
  | 2, hz =>
    injection hz with hz; subst hz
    exact ⟨_, _, _, lit_cell _ _ _ 2 _ h4 _ rfl, ((lit_row _ [0] _ h2).keep0 (gb_alloc _ _ none)).keep0 (gb_alloc _ _ none), by decide⟩
  | 3, hz =>
    injection hz with hz; subst hz
    exact ⟨_, _, _, lit_cell _ _ _ 3 _ h4 _ rfl, (lit_row _ [1, 2] _ h3).keep0 (gb_alloc _ _ none), by decide⟩
  | j + 4, hz => cases hz
theorem lit5 (w : World) (n : Nat) (hn : n = w.heap.size) : SlG ((w.alloc (.cells #[.int .i64 5] 3)).alloc (.cells #[.slice (some ⟨n, 0, none⟩) 1 1] 31)) (some ⟨n + 1, 0, none⟩) 1 1 [[5]] := by
  have h1 := sz1 w (.cells #[.int .i64 5] 3) n hn
  refine ⟨rfl, (fun h => by cases h), by decide, ?_⟩
  intro ad had j zs hz
  injection had with had; subst had
  rw [addr0]
  match j, hz with
  | 0, hz =>
    injection hz with hz; subst hz
    exact ⟨_, _, _, lit_cell _ _ _ 0 _ h1 _ rfl, (lit_row w [5] n hn).keep0 (gb_alloc _ _ none), by decide⟩
  | j + 1, hz => cases hz
theorem al (w : World) (o : Obj) : w.grownBy (w.alloc o) none := gb_alloc w o none

set_option maxRecDepth 100000 in
set_option maxHeartbeats 4000000 in
theorem works_any (w : World) : Calls Try.prog 12 #[] w fun e w' => e = .returned (.bool true) ∧ w.grownBy w' none := by
  go_enter Try.func12, Try.ntmps12
  have GG := Lib.hid (lit4 w _ rfl)
  have GW := Lib.hid (gb_trans (gb_trans (gb_trans (gb_trans (al w (.cells #[.int .i64 1, .int .i64 2] 3)) (al _ (.cells #[.int .i64 3] 3))) (al _ (.cells #[.int .i64 3] 3))) (al _ (.cells #[] 3))) (al _ (.cells #[.slice (some ⟨w.heap.size, 0, none⟩) 2 2, .slice (some ⟨w.heap.size + 1, 0, none⟩) 1 1, .slice (some ⟨w.heap.size + 1 + 1, 0, none⟩) 1 1, .slice (some ⟨w.heap.size + 1 + 1 + 1, 0, none⟩) 0 0] 31)))
  go_wp2_with fail
  refine (w_short _ _ GG.out).mono ?_
  rintro e w1 ⟨V, rfl, o1, g1⟩
  obtain ⟨a1, c1, rfl⟩ := o1.shape
  have A1 := Lib.hid (o1.slr rfl)
  have GG := Lib.hid (GG.out.keep0 g1)
  have GW := Lib.hid (gb_trans GW.out g1)
  clear o1 g1
  go_wp2_with fail
  refine (w_topo _ _ GG.out).mono ?_
  rintro e w2 ⟨V, rfl, o2, g2⟩
  obtain ⟨a2, c2, rfl⟩ := o2.shape
  have A2 := Lib.hid (o2.slr rfl)
  have A1 := Lib.hid (A1.out.keep0 g2)
  have GG := Lib.hid (GG.out.keep0 g2)
  have GW := Lib.hid (gb_trans GW.out g2)
  clear o2 g2
  go_wp2_with fail
  refine (w_lev _ _ GG.out).mono ?_
  rintro e w3 ⟨V, rfl, o3, g3⟩
  obtain ⟨a3, c3, rfl⟩ := o3.shape
  have A3 := Lib.hid (o3.slr rfl)
  have A1 := Lib.hid (A1.out.keep0 g3)
  have A2 := Lib.hid (A2.out.keep0 g3)
  have GG := Lib.hid (GG.out.keep0 g3)
  have GW := Lib.hid (gb_trans GW.out g3)
  clear o3 g3
  go_wp2_with fail
  refine (w_long _ _ GG.out).mono ?_
  rintro e w4 ⟨V, rfl, o4, g4⟩
  obtain ⟨a4, c4, rfl⟩ := o4.shape
  have A4 := Lib.hid (o4.slr rfl)
  have A1 := Lib.hid (A1.out.keep0 g4)
  have A2 := Lib.hid (A2.out.keep0 g4)
  have A3 := Lib.hid (A3.out.keep0 g4)
  have GG := Lib.hid (GG.out.keep0 g4)
  have GW := Lib.hid (gb_trans GW.out g4)
  clear o4 g4
  have H3 := Lib.hid (lit3 w4 _ rfl)
  have g5 := gb_trans (gb_trans (gb_trans (al w4 (.cells #[.int .i64 1] 3)) (al _ (.cells #[.int .i64 2] 3))) (al _ (.cells #[.int .i64 1] 3))) (al _ (.cells #[.slice (some ⟨w4.heap.size, 0, none⟩) 1 1, .slice (some ⟨w4.heap.size + 1, 0, none⟩) 1 1, .slice (some ⟨w4.heap.size + 1 + 1, 0, none⟩) 1 1] 31))
  have A1 := Lib.hid (A1.out.keep0 g5)
  have A2 := Lib.hid (A2.out.keep0 g5)
  have A3 := Lib.hid (A3.out.keep0 g5)
  have A4 := Lib.hid (A4.out.keep0 g5)
  have GG := Lib.hid (GG.out.keep0 g5)
  have GW := Lib.hid (gb_trans GW.out g5)
  clear g5
  go_wp2_with fail
  refine (w_cyc _ _ H3.out).mono ?_
  rintro e w5 ⟨V, rfl, o5, g5⟩
  obtain ⟨a5, c5, rfl⟩ := o5.shape
  have A5 := Lib.hid (o5.slr rfl)
  have A1 := Lib.hid (A1.out.keep0 g5)
  have A2 := Lib.hid (A2.out.keep0 g5)
  have A3 := Lib.hid (A3.out.keep0 g5)
  have A4 := Lib.hid (A4.out.keep0 g5)
  have GG := Lib.hid (GG.out.keep0 g5)
  have GW := Lib.hid (gb_trans GW.out g5)
  clear o5 g5 H3
  go_wp2_with fail
  refine (w_reach _ _ GG.out).mono ?_
  rintro e w6 ⟨V, rfl, o6, g6⟩
  obtain ⟨a6, c6, rfl⟩ : ∃ a6 c6, V = .slice a6 4 c6 := by
    rcases o6.2 with ⟨q, r⟩ | ⟨b, cap, _, q, _⟩
    · cases r
    · exact ⟨_, _, q⟩
  have A6 := Lib.hid (o6.slr rfl)
  have A1 := Lib.hid (A1.out.keep0 g6)
  have A2 := Lib.hid (A2.out.keep0 g6)
  have A3 := Lib.hid (A3.out.keep0 g6)
  have A4 := Lib.hid (A4.out.keep0 g6)
  have A5 := Lib.hid (A5.out.keep0 g6)
  have GG := Lib.hid (GG.out.keep0 g6)
  have GW := Lib.hid (gb_trans GW.out g6)
  clear o6 g6
  go_wp2_with fail
  refine (eqI _ _ _ _ _ _ _ [0, 1, 3] (A1.out.keep0 (al _ _)) (lit_row w6 [0, 1, 3] _ rfl) (by decide) (by decide)).mono ?_
  rintro e w7 ⟨rfl, q7⟩
  have g7 := gb_trans (al w6 _) (dn_gb q7 none)
  have A2 := Lib.hid (A2.out.keep0 g7)
  have A3 := Lib.hid (A3.out.keep0 g7)
  have A4 := Lib.hid (A4.out.keep0 g7)
  have A5 := Lib.hid (A5.out.keep0 g7)
  have A6 := Lib.hid (A6.out.keep0 g7)
  have GG := Lib.hid (GG.out.keep0 g7)
  have GW := Lib.hid (gb_trans GW.out g7)
  clear g7 q7
  go_wp2_with fail
  refine (eqI _ _ _ _ _ _ _ [0, 1, 2, 3] (A2.out.keep0 (al _ _)) (lit_row w7 [0, 1, 2, 3] _ rfl) (by decide) (by decide)).mono ?_
  rintro e w8 ⟨rfl, q8⟩
  have g8 := gb_trans (al w7 _) (dn_gb q8 none)
  have A3 := Lib.hid (A3.out.keep0 g8)
  have A4 := Lib.hid (A4.out.keep0 g8)
  have A5 := Lib.hid (A5.out.keep0 g8)
  have A6 := Lib.hid (A6.out.keep0 g8)
  have GG := Lib.hid (GG.out.keep0 g8)
  have GW := Lib.hid (gb_trans GW.out g8)
  clear g8 q8
  go_wp2_with fail
  refine (eqI _ _ _ _ _ _ _ [0, 1, 1, 2] (A3.out.keep0 (al _ _)) (lit_row w8 [0, 1, 1, 2] _ rfl) (by decide) (by decide)).mono ?_
  rintro e w9 ⟨rfl, q9⟩
  have g9 := gb_trans (al w8 _) (dn_gb q9 none)
  have A4 := Lib.hid (A4.out.keep0 g9)
  have A5 := Lib.hid (A5.out.keep0 g9)
  have A6 := Lib.hid (A6.out.keep0 g9)
  have GG := Lib.hid (GG.out.keep0 g9)
  have GW := Lib.hid (gb_trans GW.out g9)
  clear g9 q9
  go_wp2_with fail
  refine (eqI _ _ _ _ _ _ _ [0, 1, 3] (A4.out.keep0 (al _ _)) (lit_row w9 [0, 1, 3] _ rfl) (by decide) (by decide)).mono ?_
  rintro e w10 ⟨rfl, q10⟩
  have g10 := gb_trans (al w9 _) (dn_gb q10 none)
  have A5 := Lib.hid (A5.out.keep0 g10)
  have A6 := Lib.hid (A6.out.keep0 g10)
  have GG := Lib.hid (GG.out.keep0 g10)
  have GW := Lib.hid (gb_trans GW.out g10)
  clear g10 q10
  go_wp2_with fail
  refine (eqI _ _ _ _ _ _ _ [1, 2] (A5.out.keep0 (al _ _)) (lit_row w10 [1, 2] _ rfl) (by decide) (by decide)).mono ?_
  rintro e w11 ⟨rfl, q11⟩
  have g11 := gb_trans (al w10 _) (dn_gb q11 none)
  have A6 := Lib.hid (A6.out.keep0 g11)
  have GG := Lib.hid (GG.out.keep0 g11)
  have GW := Lib.hid (gb_trans GW.out g11)
  clear g11 q11
  go_wp2_with fail
  refine (eqB _ _ _ _ _ _ _ [false, true, false, true] (A6.out.keep0 (al _ _)) (lit_bools w11 [false, true, false, true] _ rfl) (by decide) (by decide)).mono ?_
  rintro e w12 ⟨rfl, q12⟩
  have g12 := gb_trans (al w11 _) (dn_gb q12 none)
  have GG := Lib.hid (GG.out.keep0 g12)
  have GW := Lib.hid (gb_trans GW.out g12)
  clear g12 q12
  go_wp2_with fail
  refine (w_rev _ _ GG.out).mono ?_
  rintro e w13 ⟨rb, hrb, rfl, r1, g13⟩
  have GW := Lib.hid (gb_trans GW.out g13)
  have gl := gb_trans (gb_trans (gb_trans (gb_trans (al w13 (.cells #[] 3)) (al _ (.cells #[.int .i64 0] 3))) (al _ (.cells #[.int .i64 0] 3))) (al _ (.cells #[.int .i64 1, .int .i64 2] 3))) (al _ (.cells #[.slice (some ⟨w13.heap.size, 0, none⟩) 0 0, .slice (some ⟨w13.heap.size + 1, 0, none⟩) 1 1, .slice (some ⟨w13.heap.size + 1 + 1, 0, none⟩) 1 1, .slice (some ⟨w13.heap.size + 1 + 1 + 1, 0, none⟩) 2 2] 31))
  have RR := Lib.hid (r1.keep0 gl)
  have GW := Lib.hid (gb_trans GW.out gl)
  have LR := Lib.hid (litR w13 _ rfl)
  clear r1 gl hrb g13
  go_wp2_with fail
  refine (eqG _ _ _ _ _ _ _ R4 RR.out LR.out).mono ?_
  rintro e w14 ⟨rfl, q14⟩
  have GW := Lib.hid (gb_trans GW.out (dn_gb q14 none))
  clear q14 RR LR
  have L5 := Lib.hid (lit5 w14 _ rfl)
  have GW := Lib.hid (gb_trans GW.out (gb_trans (al w14 (.cells #[.int .i64 5] 3)) (al _ (.cells #[.slice (some ⟨w14.heap.size, 0, none⟩) 1 1] 31))))
  go_wp2_with fail
  refine (w_chk _ _ L5.out).mono ?_
  rintro e w15 ⟨rfl, rfl⟩
  go_wp2
  go_ret
  exact ⟨rfl, GW.out⟩
end Go.Proofs.Ytaikpjnegopelaa
