/- The laws' works and smallMatrix: the walks; no condition. -/
import Derived.Test.YtcbomfcioenliaaDsL
namespace Go.Proofs.Ytcbomfcioenliaa
open Go.RowKit
set_option linter.unusedVariables false

def HoldsT (W : World) (e : Ending) (w' : World) : Prop := e = .returned (.bool true) ∧ Below W.heap.size W w'
theorem below_of {W w' : World} (h : W.grownBy w' none) : Below W.heap.size W w' := ⟨h.os, h.tape, h.output, h.size, fun i hi => h.block i hi (by simp)⟩
theorem addr0 (b j : Nat) : ((⟨b, 0, none⟩ : Addr).add j) = ⟨b, j, none⟩ := by unfold Addr.add; split <;> simp_all
theorem eqI (w : World) (a b : Option Addr) (n c m d : Nat) (xs : List Int) (h : SlR w a n c (xs.map (Value.int .i64))) (g : SlR w b m d (xs.map (Value.int .i64))) (hn : n ≤ 9223372036854775807) (hm : m ≤ 9223372036854775807) :
    Calls Try.prog 8 #[.slice a n c, .slice b m d] w (RetD (.bool true) w) := by
  have k := reqints_any w a b n c m d xs xs h g hn hm
  rwa [decide_eq_true rfl] at k
theorem lit_row (w : World) (zs : List Int) (n : Nat) (hn : n = w.heap.size) : SlR (w.alloc (.cells (zs.map (Value.int .i64)).toArray 3)) (some ⟨n, 0, none⟩) zs.length zs.length (zs.map (Value.int .i64)) := by
  subst hn; exact slr_new w .i64 zs _
theorem sz1 (w : World) (o : Obj) (n : Nat) (h : n = w.heap.size) : n + 1 = (w.alloc o).heap.size := by rw [alloc_size, h]
theorem lit_cell (w : World) (cs : Array Value) (n j : Nat) (t : TypeId) (hn : n = w.heap.size) (u : Value) (hu : cs[j]? = some u) : (w.alloc (.cells cs t)).cell? ⟨n, j, none⟩ = some u := by
  subst hn
  rw [(IsB.new w t cs).cell j, hu]
theorem al (w : World) (o : Obj) : w.grownBy (w.alloc o) none := gb_alloc w o none
def M3 : List (List Int) := [[0, 1, 0], [0, 0, 2], [0, 0, 0]]
theorem litM (w : World) (n : Nat) (hn : n = w.heap.size) : SlG ((((w.alloc (.cells #[.int .i64 0, .int .i64 1, .int .i64 0] 3)).alloc (.cells #[.int .i64 0, .int .i64 0, .int .i64 2] 3)).alloc (.cells #[.int .i64 0, .int .i64 0, .int .i64 0] 3)).alloc
    (.cells #[.slice (some ⟨n, 0, none⟩) 3 3, .slice (some ⟨n + 1, 0, none⟩) 3 3, .slice (some ⟨n + 1 + 1, 0, none⟩) 3 3] 23)) (some ⟨n + 1 + 1 + 1, 0, none⟩) 3 3 M3 := by
  have h1 := sz1 w (.cells #[.int .i64 0, .int .i64 1, .int .i64 0] 3) n hn
  have h2 := sz1 _ (.cells #[.int .i64 0, .int .i64 0, .int .i64 2] 3) _ h1
  have h3 := sz1 _ (.cells #[.int .i64 0, .int .i64 0, .int .i64 0] 3) _ h2
  refine ⟨rfl, (fun h => by cases h), by decide, ?_⟩
  intro ad had j zs hz
  injection had with had; subst had
  rw [addr0]
  match j, hz with
  | 0, hz =>
    injection hz with hz; subst hz
    exact ⟨_, _, _, lit_cell _ _ _ 0 _ h3 _ rfl, (((lit_row w [0, 1, 0] n hn).keep0 (gb_alloc _ _ none)).keep0 (gb_alloc _ _ none)).keep0 (gb_alloc _ _ none), by decide⟩
  | 1, hz =>
    injection hz with hz; subst hz
    exact ⟨_, _, _, lit_cell _ _ _ 1 _ h3 _ rfl, ((lit_row _ [0, 0, 2] _ h1).keep0 (gb_alloc _ _ none)).keep0 (gb_alloc _ _ none), by decide⟩
  | 2, hz =>
    injection hz with hz; subst hz
    exact ⟨_, _, _, lit_cell _ _ _ 2 _ h3 _ rfl, (lit_row _ [0, 0, 0] _ h2).keep0 (gb_alloc _ _ none), by decide⟩
  | j + 3, hz => cases hz
theorem w_early (w : World) (a : Option Addr) (h : SlG w a 3 3 M3) : Calls Try.prog 9 #[.slice a 3 3] w (RetN w.heap.size [0, 0, 1] w) := by
  have k := early_any w a 3 3 M3 h (by decide)
  rw [show stL M3 = [0, 0, 1] by decide +kernel] at k
  exact k
theorem w_path (w : World) (a : Option Addr) (h : SlG w a 3 3 M3) : Calls Try.prog 13 #[.slice a 3 3] w (RetN w.heap.size [0, 2] w) := by
  have k := path_any w a 3 3 M3 h (by decide)
  rw [show pathG M3 = [0, 2] by decide +kernel] at k
  exact k
theorem w_yes (w : World) (a b : Option Addr) (h : SlG w a 3 3 M3) (hb : SlR w b 3 3 (([0, 0, 1] : List Int).map (Value.int .i64))) : Calls Try.prog 11 #[.slice a 3 3, .slice b 3 3] w (RetD (.bool true) w) := by
  have k := sat_any w a b 3 3 3 3 M3 [0, 0, 1] h hb (by decide) (by decide)
  rw [show decide (SatP M3 [0, 0, 1]) = true by decide +kernel] at k
  exact k
theorem w_no (w : World) (a b : Option Addr) (h : SlG w a 3 3 M3) (hb : SlR w b 3 3 (([1, 0, 1] : List Int).map (Value.int .i64))) : Calls Try.prog 11 #[.slice a 3 3, .slice b 3 3] w (RetD (.bool false) w) := by
  have k := sat_any w a b 3 3 3 3 M3 [1, 0, 1] h hb (by decide) (by decide)
  rw [show decide (SatP M3 [1, 0, 1]) = false by decide +kernel] at k
  exact k

set_option maxRecDepth 100000 in
set_option maxHeartbeats 4000000 in
theorem works_any (w : World) : Calls Try.prog 7 #[] w fun e w' => e = .returned (.bool true) ∧ w.grownBy w' none := by
  go_enter Try.func7, Try.ntmps7
  have GG := Lib.hid (litM w _ rfl)
  have GW := Lib.hid (gb_trans (gb_trans (gb_trans (al w (.cells #[.int .i64 0, .int .i64 1, .int .i64 0] 3)) (al _ (.cells #[.int .i64 0, .int .i64 0, .int .i64 2] 3))) (al _ (.cells #[.int .i64 0, .int .i64 0, .int .i64 0] 3))) (al _ (.cells #[.slice (some ⟨w.heap.size, 0, none⟩) 3 3, .slice (some ⟨w.heap.size + 1, 0, none⟩) 3 3, .slice (some ⟨w.heap.size + 1 + 1, 0, none⟩) 3 3] 23)))
  go_wp2_with fail
  refine (w_early _ _ GG.out).mono ?_
  rintro e w1 ⟨V, rfl, o1, g1⟩
  obtain ⟨a1, c1, rfl⟩ := o1.shape
  have A1 := Lib.hid (o1.slr rfl)
  have GG := Lib.hid (GG.out.keep0 g1)
  have GW := Lib.hid (gb_trans GW.out g1)
  clear o1 g1
  go_wp2_with fail
  refine (eqI _ _ _ _ _ _ _ [0, 0, 1] (A1.out.keep0 (al _ _)) (lit_row w1 [0, 0, 1] _ rfl) (by decide) (by decide)).mono ?_
  rintro e w2 ⟨rfl, q2⟩
  have g2 := gb_trans (al w1 _) (dn_gb q2 none)
  have GG := Lib.hid (GG.out.keep0 g2)
  have GW := Lib.hid (gb_trans GW.out g2)
  clear g2 q2
  go_wp2_with fail
  refine (w_path _ _ GG.out).mono ?_
  rintro e w3 ⟨V, rfl, o3, g3⟩
  obtain ⟨a3, c3, rfl⟩ := o3.shape
  have A3 := Lib.hid (o3.slr rfl)
  have GG := Lib.hid (GG.out.keep0 g3)
  have GW := Lib.hid (gb_trans GW.out g3)
  clear o3 g3
  go_wp2_with fail
  refine (eqI _ _ _ _ _ _ _ [0, 2] (A3.out.keep0 (al _ _)) (lit_row w3 [0, 2] _ rfl) (by decide) (by decide)).mono ?_
  rintro e w4 ⟨rfl, q4⟩
  have g4 := gb_trans (al w3 _) (dn_gb q4 none)
  have GG := Lib.hid (GG.out.keep0 g4)
  have GW := Lib.hid (gb_trans GW.out g4)
  clear g4 q4
  go_wp2_with fail
  refine (w_yes _ _ _ (GG.out.keep0 (al _ _)) (lit_row w4 [0, 0, 1] _ rfl)).mono ?_
  rintro e w5 ⟨rfl, q5⟩
  have g5 := gb_trans (al w4 _) (dn_gb q5 none)
  have GG := Lib.hid (GG.out.keep0 g5)
  have GW := Lib.hid (gb_trans GW.out g5)
  clear g5 q5
  go_wp2_with fail
  refine (w_no _ _ _ (GG.out.keep0 (al _ _)) (lit_row w5 [1, 0, 1] _ rfl)).mono ?_
  rintro e w6 ⟨rfl, q6⟩
  have g6 := gb_trans (al w5 _) (dn_gb q6 none)
  have GW := Lib.hid (gb_trans GW.out g6)
  clear g6 q6
  go_wp2
  go_ret
  exact ⟨rfl, GW.out⟩

/-- The call returns a truth value and changes nothing; true says that there are few. -/
def SmR (n : Nat) (w : World) (e : Ending) (w' : World) : Prop := ∃ b, e = .returned (.bool b) ∧ w' = w ∧ (b = true → n ≤ 14)
set_option maxRecDepth 100000 in
set_option maxHeartbeats 1000000 in
theorem small_any (w : World) (a : Option Addr) (n c : Nat) (g : List (List Int)) (h : SlG w a n c g) :
    Calls Try.prog 6 #[.slice a n c] w (SmR g.length w) := by
  have HH := Lib.hid h
  have hl := h.1
  have hm := h.2.2.1
  subst hl
  clear h
  by_cases hb : 14 < g.length
  · go_enter Try.func6, Try.ntmps6
    go_wp2
    go_ret
    exact ⟨false, rfl, rfl, fun h => by cases h⟩
  · go_enter Try.func6, Try.ntmps6
    go_wp2
    go_loopw [3] (fun s wr => ∃ k : Nat, k ≤ g.length ∧ s = .int .i64 k ∧ wr = w) (fun s _ => g.length - (intOf s).toNat)
    case atStart => exact ⟨0, Nat.zero_le _, rfl, rfl⟩
    case round =>
      obtain ⟨k, hk, rfl, rfl⟩ := hrel
      by_cases hlt : k < g.length
      · cases a with
        | none => exact absurd (HH.out.2.1 rfl).1 (by omega)
        | some ad =>
          obtain ⟨A, C, c1, r1, l1⟩ := HH.out.row k hlt
          have i1 : (k : Int) < g.length := by omega
          clear r1
          by_cases h40 : 20 < (g.getD k []).length
          · generalize (g.getD k []).length = m at *
            go_wp2
            go_ret
            exact ⟨false, rfl, rfl, fun h => by cases h⟩
          · generalize (g.getD k []).length = m at *
            go_wp2
            go_roundw
            case rel => exact ⟨k + 1, by omega, by go_num, trivial⟩
            case measure => simp [intOf]; omega
      · have i1 : ¬ (k : Int) < g.length := by omega
        go_wp2
        go_ret
        exact ⟨true, rfl, rfl, fun _ => by omega⟩
end Go.Proofs.Ytcbomfcioenliaa
