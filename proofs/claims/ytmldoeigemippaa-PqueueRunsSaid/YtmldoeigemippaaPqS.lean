/- The law Nil. -/
import Derived.Test.YtmldoeigemippaaPqR
namespace Go.Proofs.Ytmldoeigemippaa
open Go.RowKit
set_option linter.unusedVariables false

theorem low_of {W w' : World} {e : Ending} {b : Bool} (h : RetV (.bool b) W e w') : e = .returned (.bool b) ∧ Below W.heap.size W w' := ⟨h.1, (gr_gb h.2).below⟩
/-- No queue lies behind p. -/
def NP (w : World) (p : Option Addr) : Prop := ∀ W, w.grownBy W none → Calls Try.prog 20 #[.pointer p] W (RetS (.bool false) W)
theorem NP.keep0 {w w2 : World} {p : Option Addr} (h : NP w p) (g : w.grownBy w2 none) : NP w2 p := fun W g2 => h W (gb_trans g g2)
theorem np_none (w : World) : NP w none := fun W _ => made_nil W
theorem np_zero {w : World} {q : Nat} (h : IsB w q 56 #[.pointer none]) : NP w (some ⟨q, 0, none⟩) := fun W g => made_zq W q (h.keep0 g)
theorem np_list {w : World} {p : Option Addr} (h : NP w p) : Calls Try.prog 16 #[.pointer p, .int .i64 1] w fun e w' => e = .returned (.tuple #[.slice none 0 0, .bool true]) ∧ w.grownBy w' none ∨ ∃ a c, e = .returned (.tuple #[.slice a 0 c, .bool true]) ∧ w.grownBy w' none := by
  refine (list_any w p (fun _ => 0) [] 1 (none_seq w p _ h) (by decide)).mono ?_
  rintro e w' ⟨V, rfl, r, g⟩
  obtain ⟨a, c, rfl⟩ := r.shape
  exact .inr ⟨a, c, rfl, g⟩
theorem np_push {w : World} {p : Option Addr} (h : NP w p) (key x : Int) : Calls Try.prog 11 #[.pointer p, .int .i64 key, .int .i64 x] w (RetS (.int .i64 1) w) := push_no w _ key x (h w (gb_refl _ _))
theorem np_len {w : World} {p : Option Addr} (h : NP w p) : Calls Try.prog 19 #[.pointer p] w (RetS (.int .i64 0) w) := len_no w _ (h w (gb_refl _ _))
theorem np_peek {w : World} {p : Option Addr} (h : NP w p) : Calls Try.prog 15 #[.pointer p] w (RetV (.tuple #[.int .i64 0, .int .i64 0, .bool false]) w) := peek_none w _ (np_len h)
theorem np_pop {w : World} {p : Option Addr} (h : NP w p) : Calls Try.prog 13 #[.pointer p] w (RetV (.tuple #[.int .i64 0, .int .i64 0, .bool false]) w) := pop_none w _ (np_peek h)
theorem np_list2 {w : World} {p : Option Addr} (h : NP w p) : Calls Try.prog 16 #[.pointer p, .int .i64 1] w fun e w' => ∃ a c, e = .returned (.tuple #[.slice a 0 c, .bool true]) ∧ w.grownBy w' none := by
  refine (np_list h).mono ?_
  rintro e w' (⟨rfl, g⟩ | q)
  · exact ⟨_, _, rfl, g⟩
  · exact q
set_option maxRecDepth 100000 in
set_option maxHeartbeats 1000000 in
theorem nil_walk (key x : Int) (W : World) : Calls Try.prog 6 #[.int .i64 key, .int .i64 x] W (RetV (.bool true) W) := by
  go_enter Try.func6, Try.ntmps6
  go_upto_region 3 with fail
  have Z0 := np_zero (IsB.new W 56 #[.pointer none])
  have G0 := gb_alloc W (.cells #[.pointer none] 56) none
  generalize W.alloc (.cells #[.pointer none] 56) = w0 at *
  generalize W.heap.size = q at *
  go_upto_region 4 with (go_at_call 16; refine (np_list2 (np_none w0)).mono ?_; rintro e w1 ⟨a1, c1, rfl, g1⟩; have Z1 := Z0.keep0 g1; have G1 := gb_trans G0 g1; clear Z0 G0 g1)
  go_upto_region 5 with (go_at_call 16; refine (np_list2 Z1).mono ?_; rintro e w2 ⟨a2, c2, rfl, g2⟩; have Z2 := Z1.keep0 g2; have G2 := gb_trans G1 g2; clear Z1 G1 g2)
  go_upto_region 6 with (go_at_call 13; refine (np_pop (np_none w2)).mono ?_; rintro e w3 ⟨rfl, g3⟩; have Z3 := Z2.keep0 g3; have G3 := gb_trans G2 g3; clear Z2 G2 g3)
  go_upto_region 7 with (go_at_call 13; refine (np_pop Z3).mono ?_; rintro e w4 ⟨rfl, g4⟩; have Z4 := Z3.keep0 g4; have G4 := gb_trans G3 g4; clear Z3 G3 g4)
  go_upto_region 8 with (go_at_call 15; refine (np_peek (np_none w4)).mono ?_; rintro e w5 ⟨rfl, g5⟩; have Z5 := Z4.keep0 g5; have G5 := gb_trans G4 g5; clear Z4 G4 g5)
  go_upto_region 9 with (go_at_call 15; refine (np_peek Z5).mono ?_; rintro e w6 ⟨rfl, g6⟩; have Z6 := Z5.keep0 g6; have G6 := gb_trans G5 g6; clear Z5 G5 g6)
  have P1 := np_push (np_none w6) key x
  have L1 := np_len (np_none w6)
  go_wp2_with (first
    | (go_at_call 11; refine P1.mono ?_; clear P1; rintro e w7 ⟨rfl, rfl⟩; have P2 := np_push Z6 key x)
    | (go_at_call 11; refine P2.mono ?_; clear P2; rintro e w7 ⟨rfl, rfl⟩)
    | (go_at_call 19; refine L1.mono ?_; clear L1; rintro e w7 ⟨rfl, rfl⟩; have L2 := np_len Z6)
    | (go_at_call 19; refine L2.mono ?_; clear L2; rintro e w7 ⟨rfl, rfl⟩)
    | (go_at_call 7; refine (awake_any _).mono ?_; rintro e w8 ⟨rfl, g8⟩))
  go_ret
  exact ⟨rfl, gb_trans G6 g8⟩
end Go.Proofs.Ytmldoeigemippaa
