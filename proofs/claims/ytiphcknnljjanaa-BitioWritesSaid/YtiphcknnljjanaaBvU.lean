/- The examples of chapter 1 hold: the walk of awake; and the laws' own arithmetic; no condition but the ranges. -/
import Derived.Test.YtiphcknnljjanaaBvT
namespace Go.Proofs.Ytiphcknnljjanaa
open Go.RowKit

theorem ret_to {v u : Value} {W : World} {e : Ending} {w' : World} (h : v = u) (k : Ret v W e w') : Ret u W e w' := by rw [← h]; exact k
theorem i32_to {a b : Int} (h : a = b) : Value.int .u32 a = .int .u32 b := by rw [h]
theorem ib32_to {k : IntKind} {a b : Int} {c d : Bool} (h : a = b) (g : c = d) : Value.tuple #[.int k a, .bool c] = .tuple #[.int k b, .bool d] := by rw [h, g]

theorem awake_any (W : World) : Calls Try.prog 39 #[] W (Ret (.bool true) W) := by
  go_enter Try.func39, Try.ntmps39
  go_wp2_with fail
  refine (cat_yes_any 5 4 9 8 _ (by decide) (by decide) (by decide) (by decide) (by decide) (by decide) (by decide) (by decide) (by decide)).mono ?_
  rintro e w1 hr; obtain ⟨rfl, g1⟩ := ret_to (ib32_to (show catB 5 4 9 8 = 1289 by decide +kernel) (show catOk 4 8 = true by decide)) hr; clear hr
  go_wp2_with fail
  refine (plen_any 224 8 _ (by decide) (by decide)).mono ?_
  rintro e w2 hr; obtain ⟨rfl, g2⟩ := ret_to (ib32_to (show plB 224 8 = 3 by decide +kernel) (show plOk 224 8 = true by decide +kernel)) hr; clear hr
  have g2 := grown_trans g1 g2; clear g1
  go_wp2_with fail
  refine (plen_any 0 8 _ (by decide) (by decide)).mono ?_
  rintro e w3 hr; obtain ⟨rfl, g3⟩ := ret_to (ib32_to (show plB 0 8 = 0 by decide +kernel) (show plOk 0 8 = true by decide +kernel)) hr; clear hr
  have g3 := grown_trans g2 g3; clear g2
  go_wp2_with fail
  refine (plen_any 5 8 _ (by decide) (by decide)).mono ?_
  rintro e w4 hr; obtain ⟨rfl, g4⟩ := ret_to (ib32_to (show plB 5 8 = 0 by decide +kernel) (show plOk 5 8 = false by decide +kernel)) hr; clear hr
  have g4 := grown_trans g3 g4; clear g3
  go_wp2_with fail
  refine (mask_any 5 _).mono ?_
  rintro e w5 hr; obtain ⟨rfl, g5⟩ := ret_to (i32_to (show mkB 5 = 31 by decide +kernel)) hr; clear hr
  have g5 := grown_trans g4 g5; clear g4
  go_wp2_with fail
  refine (mask_any 33 _).mono ?_
  rintro e w6 hr; obtain ⟨rfl, g6⟩ := ret_to (i32_to (show mkB 33 = 0 by decide +kernel)) hr; clear hr
  have g6 := grown_trans g5 g6; clear g5
  go_wp2_with fail
  refine (add_any 30 3 5 _).mono ?_
  rintro e w7 hr; obtain ⟨rfl, g7⟩ := ret_to (i32_to (show addB 30 3 5 = 1 by decide +kernel)) hr; clear hr
  have g7 := grown_trans g6 g7; clear g6
  go_wp2_with fail
  refine (sub_any 0 1 4 _).mono ?_
  rintro e w8 hr; obtain ⟨rfl, g8⟩ := ret_to (i32_to (show subB 0 1 4 = 15 by decide +kernel)) hr; clear hr
  have g8 := grown_trans g7 g8; clear g7
  go_wp2_with fail
  refine (not_any 5 4 _ (by decide) (by decide)).mono ?_
  rintro e w9 hr; obtain ⟨rfl, g9⟩ := ret_to (i32_to (show notB 5 4 = 10 by decide +kernel)) hr; clear hr
  have g9 := grown_trans g8 g9; clear g8
  go_wp2_with fail
  refine (shl_any 3 1 2 _).mono ?_
  rintro e w10 hr; obtain ⟨rfl, g10⟩ := ret_to (i32_to (show shlB 3 1 2 = 2 by decide +kernel)) hr; clear hr
  have g10 := grown_trans g9 g10; clear g9
  go_wp2_with fail
  refine (shr_any 12 2 4 _ (by decide) (by decide)).mono ?_
  rintro e w11 hr; obtain ⟨rfl, g11⟩ := ret_to (i32_to (show shrB 12 2 4 = 3 by decide +kernel)) hr; clear hr
  have g11 := grown_trans g10 g11; clear g10
  go_wp2_with fail
  refine (slice_yes_any 43981 4 8 _ (by decide) (by decide) (by decide) (by decide) (by decide) (by decide)).mono ?_
  rintro e w12 hr; obtain ⟨rfl, g12⟩ := ret_to (i32_to (show sliceB 43981 4 8 = 188 by decide +kernel)) hr; clear hr
  have g12 := grown_trans g11 g12; clear g11
  go_wp2_with fail
  refine (pmask_any 3 8 _).mono ?_
  rintro e w13 hr; obtain ⟨rfl, g13⟩ := ret_to (i32_to (show pmB 3 8 = 224 by decide +kernel)) hr; clear hr
  have g13 := grown_trans g12 g13; clear g12
  go_wp2
  go_ret
  exact ⟨rfl, g13⟩
end Go.Proofs.Ytiphcknnljjanaa
