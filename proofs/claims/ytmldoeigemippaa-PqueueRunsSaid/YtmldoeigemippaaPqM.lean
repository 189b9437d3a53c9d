/- The reference's queue: Push, Pop. -/
import Derived.Test.YtmldoeigemippaaPqL
namespace Go.Proofs.Ytmldoeigemippaa
open Go.RowKit
set_option linter.unusedVariables false

/-- A returned queue of the reference with more. -/
def RetQ2 (cap : Int) (base : Nat) (E : Int → Int) (T : List Int) (more : List Value) (w : World) (e : Ending) (w' : World) : Prop := ∃ V, e = .returned (.tuple (rQ cap V :: more).toArray) ∧ RL w' base V E T ∧ w.grownBy w' none
set_option maxRecDepth 100000 in
set_option maxHeartbeats 4000000 in
theorem rpush_full (w : World) (base : Nat) (a : Option Addr) (n c : Nat) (cap : Int) (E : Int → Int) (T : List Int) (key x : Int) (h : RL w base (.slice a n c) E T) (hf : cap ≤ (n : Int)) : Calls Try.prog 10 #[.agg #[.int .i64 cap, .slice a n c], .int .i64 key, .int .i64 x] w (RetQ2 cap base E T [.int .i64 13] w) := by
  have HR := Lib.hid h
  have B1 := IsB.new w 30 #[.int .i64 cap, .slice a n c]
  have B2 := isb_last w (.cells #[.int .i64 cap, .slice a n c] 30) 30 #[.int .i64 0, .slice none 0 0]
  have B1 := Lib.hid (B1.alloc (.cells #[.int .i64 0, .slice none 0 0] 30))
  have G2 := Lib.hid (gb_trans (gb_alloc w (.cells #[.int .i64 cap, .slice a n c] 30) none) (gb_alloc _ (.cells #[.int .i64 0, .slice none 0 0] 30) none))
  have B2 := Lib.hid B2
  clear h
  go_enter Try.func10, Try.ntmps10
  go_wp2
  have gg := gb_trans (gb_alloc w (.cells #[.int .i64 cap, .slice a n c] 30) none) (gb_alloc _ (.cells #[.int .i64 cap, .slice a n c] 30) none)
  refine bodyPost_ret (v := .tuple #[rQ cap (.slice a n c), .int .i64 13]) (by rw [results_cell_tmp rfl]; go_simp; try rfl) rfl ⟨_, rfl, HR.out.keep0 gg, gg⟩
set_option maxRecDepth 100000 in
set_option maxHeartbeats 4000000 in
theorem rpush_ok (w : World) (base : Nat) (a : Option Addr) (n c : Nat) (cap : Int) (E : Int → Int) (T : List Int) (y : Int) (h : RL w base (.slice a n c) E T) (hl : n = T.length) (hf : ¬ cap ≤ (n : Int)) (hn : n ≤ 100000) : Calls Try.prog 10 #[.agg #[.int .i64 cap, .slice a n c], .int .i64 (kC y), .int .i64 (E (tC y))] w (RetQ2 cap w.heap.size E (T ++ [y]) [.int .i64 0] w) := by
  have HR := Lib.hid (fun w2 (g : w.grownBy w2 none) => (h.keep0 g).sr hl)
  have HL := Lib.hid hl
  have HN := Lib.hid hn
  clear h hl hn
  go_enter Try.func10, Try.ntmps10
  go_upto_region 4 with fail
  have B1 := IsB.new w 30 #[.int .i64 cap, .slice a n c]
  have B2 := isb_last w (.cells #[.int .i64 cap, .slice a n c] 30) 30 #[.int .i64 0, .slice none 0 0]
  have B1 := B1.alloc (.cells #[.int .i64 0, .slice none 0 0] 30)
  have G2 := Lib.hid (gb_trans (gb_alloc w (.cells #[.int .i64 cap, .slice a n c] 30) none) (gb_alloc _ (.cells #[.int .i64 0, .slice none 0 0] 30) none))
  generalize (w.alloc (.cells #[.int .i64 cap, .slice a n c] 30)).alloc (.cells #[.int .i64 0, .slice none 0 0] 30) = w2 at *
  obtain ⟨z, hz⟩ : ∃ z, z = w.heap.size := ⟨_, rfl⟩
  rw [← hz] at B1 B2 ⊢
  have HZ := Lib.hid hz
  have BB1 := Lib.hid B1
  have BB2 := Lib.hid B2
  have e1 := B1.cell 1
  dsimp at e1
  clear B1 B2 hz
  have l1 := Lib.hid (show ([] : List Int).length + T.length ≤ 1000000 by have := HL.out; have := HN.out; simp; omega)
  have l2 := Lib.hid (show z ≤ w2.heap.size by have := G2.out.size; have := HZ.out; omega)
  go_wp2_with (at_builtin; refine pushAllR rfl _ _ rfl z _ E [] rfl (RL.nil _ _ _) a n c T rfl (HR.out _ G2.out) l1.out l2.out ?_)
  intro V3 w3 r3 g3
  have r3 : RL w3 z V3 E T := r3
  have g3 : w2.grownBy w3 none := g3
  obtain ⟨a3, c3, rfl⟩ := r3.shape
  rw [← HL.out] at r3 ⊢
  have R3 := Lib.hid r3
  have G3 := Lib.hid (gb_trans G2.out g3)
  have f1 := (BB1.out.keep0 g3).cell 0
  dsimp at f1
  have BC1 := Lib.hid (BB1.out.keep0 g3)
  have BC2 := Lib.hid (BB2.out.keep0 g3)
  have l3 := Lib.hid (show T.length ≤ 1000000 by have := HL.out; have := HN.out; omega)
  have l4 := Lib.hid (show z ≤ (w3.alloc (.cells #[.int .i64 (kC y), .int .i64 (E (tC y))] 52)).heap.size by rw [alloc_sz]; have := G3.out.size; have := HZ.out; omega)
  clear r3 g3 e1
  go_wp2_with (at_builtin; refine pushR rfl _ _ rfl z _ E T rfl (R3.out.keep0 (gb_alloc _ _ none)) ⟨w3.heap.size, 0, none⟩ 1 y rfl (two_cell _ _ _ E y _ (IsB.new _ _ _) rfl) l3.out l4.out ?_)
  intro V4 w4 r4 g4
  obtain ⟨a4, c4, rfl⟩ := r4.shape
  rw [List.length_append, List.length_singleton, ← HL.out] at r4 ⊢
  have o1 := own_ne R3.out BC1.out (by decide)
  have o2 := own_ne R3.out BC2.out (by decide)
  have q1 := (BC1.out.alloc (.cells #[.int .i64 (kC y), .int .i64 (E (tC y))] 52)).keep g4 (Ne.symm o1)
  have q2 := (BC2.out.alloc (.cells #[.int .i64 (kC y), .int .i64 (E (tC y))] 52)).keep g4 (Ne.symm o2)
  have h1 := q1.cell 0
  have h3 := q2.free 0
  have h4 := q2.free 1
  have h5 := q2.cell 0
  have h6 := q2.cell 1
  dsimp at h1 h5 h6
  have R4 := Lib.hid r4
  have Q2 := Lib.hid ((q2.set 0 (.int .i64 cap)).set 1 (.slice a4 (n + 1) c4))
  have LW := Lib.hid (fun g (e : (Value.slice a3 n c3).ownBlock = some g) => (World.ownsRow.lt R3.out g e).1)
  have G4 := Lib.hid (gb_trans G3.out (gb_alloc w3 (.cells #[.int .i64 (kC y), .int .i64 (E (tC y))] 52) none))
  have G4b := Lib.hid g4
  have O4 := Lib.hid (own_ne r4 q2 (by decide))
  clear r4 g4 q1 q2 o1 o2
  go_wp2
  have k0 := Q2.out.cell 0
  have k1 := Q2.out.cell 1
  (try dsimp at k0)
  (try dsimp at k1)
  refine bodyPost_ret (v := .tuple #[rQ cap (.slice a4 (n + 1) c4), .int .i64 0]) (by rw [results_cell_tmp rfl]; go_simp; try rfl) rfl ⟨_, rfl, ?_, ?_⟩
  · exact World.ownsRow.kept (World.ownsRow.kept (own_low R4.out (by rw [HZ.out]; exact Nat.le_refl _)) (gb_set _ _ _ _) (.inr O4.out)) (gb_set _ _ _ _) (.inr O4.out)
  · have hz1 : w.heap.size ≤ z + 1 := by rw [← HZ.out]; exact Nat.le_succ _
    exact gb_put (gb_put (gb_lows G4.out G4b.out fun g e => by rw [← HZ.out]; exact LW.out g e) hz1) hz1
end Go.Proofs.Ytmldoeigemippaa
