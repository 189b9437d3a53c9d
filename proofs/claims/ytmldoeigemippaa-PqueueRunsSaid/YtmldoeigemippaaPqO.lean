/- The reference's queue: Pop. -/
import Derived.Test.YtmldoeigemippaaPqM
namespace Go.Proofs.Ytmldoeigemippaa
open Go.RowKit
set_option linter.unusedVariables false

theorem results_cell_3 {fn : Func} {p s t u : Tmp} {ty : TypeId} (h : fn.results = #[.cell p ty, .tmp s, .tmp t, .tmp u]) (tmps : Array Value) (P : Program) (w : World) :
    (results fn tmps).run P w = ((asAddr (tmps.getD p undef)).run P w).andThen fun a w₁ => ((loadVar ty a).run P w₁).andThen fun v w₂ => .ok (.tuple #[v, tmps.getD s undef, tmps.getD t undef, tmps.getD u undef]) w₂ := by
  simp only [results, h]
  simp [Sem.run_bind, Result.andThen]
set_option maxRecDepth 100000 in
set_option maxHeartbeats 4000000 in
theorem rpop_some (w : World) (base : Nat) (a : Option Addr) (n c : Nat) (cap : Int) (E : Int → Int) (T : List Int) (h : RL w base (.slice a n c) E T) (hl : n = T.length) (hn : n ≤ 100000) (hp : 0 < n) :
    Calls Try.prog 12 #[.agg #[.int .i64 cap, .slice a n c]] w (RetQ2 cap w.heap.size E (popT T) [.int .i64 (kC (minT T)), .int .i64 (E (tC (minT T))), .bool true] w) := by
  obtain ⟨g, d, e⟩ := h.headn hl hp
  injection e with e1 _ e3
  subst e1 e3
  have hcap : n ≤ c := by subst hl; exact own_cap h
  have hk : fsK T n < n := by have := fsK_lt T (by omega) n (by omega); omega
  have HS := Lib.hid (fun w2 (q : w.grownBy w2 none) => (h.keep0 q).sr hl)
  have HL := Lib.hid hl
  have HN := Lib.hid hn
  have FI := Lib.hid (fun w2 (q : w.grownBy w2 none) => first_any w2 base (some ⟨g, 0, none⟩) n c cap E T (h.keep0 q) hl hn)
  have C1 := Lib.hid (fun w2 (q : w.grownBy w2 none) => (h.keep0 q).at_ hl (fsK T n) hk)
  unfold minT popT
  rw [← hl]
  obtain ⟨k, hkk⟩ : ∃ k, k = fsK T n := ⟨_, rfl⟩
  rw [← hkk] at FI C1 hk ⊢
  obtain ⟨x, hx⟩ : ∃ x, x = T.getD k 0 := ⟨_, rfl⟩
  rw [← hx] at C1 ⊢
  have i0 : ((n : Int) == 0) = false := by rw [beq_eq_false_iff_ne]; omega
  have k0 : (0 : Int) ≤ (k : Int) := by omega
  have k1 : (k : Int) < n := by omega
  have k2 : (k : Int) ≤ c := by omega
  have k3 : (k : Int) + 1 ≤ n := by omega
  have k4 : k ≤ c := by omega
  have k5 : k + 1 ≤ n := by omega
  have n0 : ¬ (n : Int) = 0 := by omega
  have hw : IntKind.i64.wrap ((k : Int) + 1) = ((k + 1 : Nat) : Int) := by rw [IntKind.wrap_i64]; omega
  clear h hl hkk hx hn
  go_enter Try.func12, Try.ntmps12
  go_upto_region 3 with fail
  have B1 := IsB.new w 30 #[.int .i64 cap, .slice (some ⟨g, 0, none⟩) n c]
  have B2 := isb_last w (.cells #[.int .i64 cap, .slice (some ⟨g, 0, none⟩) n c] 30) 30 #[.int .i64 0, .slice none 0 0]
  have B1 := Lib.hid (B1.alloc (.cells #[.int .i64 0, .slice none 0 0] 30))
  have B2 := Lib.hid B2
  have G2 := Lib.hid (gb_trans (gb_alloc w (.cells #[.int .i64 cap, .slice (some ⟨g, 0, none⟩) n c] 30) none) (gb_alloc _ (.cells #[.int .i64 0, .slice none 0 0] 30) none))
  generalize (w.alloc (.cells #[.int .i64 cap, .slice (some ⟨g, 0, none⟩) n c] 30)).alloc (.cells #[.int .i64 0, .slice none 0 0] 30) = w2 at *
  obtain ⟨z, hz⟩ : ∃ z, z = w.heap.size := ⟨_, rfl⟩
  have HZ := Lib.hid hz
  rw [← hz] at B1 B2 ⊢
  clear hz
  have e0 := B1.out.cell 0
  have e1 := B1.out.cell 1
  dsimp at e0 e1
  have FI2 := Lib.hid (FI.out w2 G2.out)
  go_upto_region 6 with (go_at_call 22; refine FI2.out.mono ?_; clear FI2; rintro e w3 ⟨rfl, g3⟩; have e2 := (B1.out.keep0 g3).cell 1; dsimp at e2; obtain ⟨c1, c2⟩ := C1.out w3 (gb_trans G2.out g3); have G3 := Lib.hid (gb_trans G2.out g3); have B1 := Lib.hid (B1.out.keep0 g3); have B2 := Lib.hid (B2.out.keep0 g3); clear g3)
  have NY := Lib.hid (show z + 1 < w3.heap.size from B2.out.lt)
  have IB := IsB.new w3 52 #[.int .i64 (kC x), .int .i64 (E (tC x))]
  have G4 := Lib.hid (gb_trans G3.out (gb_alloc w3 (.cells #[.int .i64 (kC x), .int .i64 (E (tC x))] 52) none))
  have B1 := Lib.hid (B1.out.alloc (.cells #[.int .i64 (kC x), .int .i64 (E (tC x))] 52))
  have B2 := Lib.hid (B2.out.alloc (.cells #[.int .i64 (kC x), .int .i64 (E (tC x))] 52))
  have YZ := Lib.hid (show z ≤ w3.heap.size by rw [HZ.out]; exact G3.out.size)
  obtain ⟨y, hy⟩ : ∃ y, y = w3.heap.size := ⟨_, rfl⟩
  rw [← hy] at IB YZ NY ⊢
  have IB := Lib.hid IB
  generalize w3.alloc (.cells #[.int .i64 (kC x), .int .i64 (E (tC x))] 52) = w4 at *
  clear hy e0 e1 e2 c1 c2
  have YB := Lib.hid (show y < w4.heap.size from IB.out.lt)
  obtain ⟨b4, hb4⟩ : ∃ b4, b4 = w4.heap.size := ⟨_, rfl⟩
  have HB4 := Lib.hid hb4
  rw [← hb4] at YB
  clear hb4
  have e3 := B1.out.cell 1
  dsimp at e3
  have l1 := Lib.hid (show ([] : List Int).length + (T.take k).length ≤ 1000000 by have := HL.out; have := HN.out; simp; omega)
  have l2 := Lib.hid (show b4 ≤ w4.heap.size by rw [HB4.out]; exact Nat.le_refl _)
  go_wp2_with (at_builtin; refine pushAllR rfl _ _ rfl b4 _ E [] rfl (RL.nil _ _ _) (some ⟨g, 0, none⟩) k c (T.take k) rfl ((HS.out _ G4.out).pre k (Nat.le_of_lt hk)) l1.out l2.out ?_)
  intro V5 w5 r5 g5
  have r5 : RL w5 b4 V5 E (T.take k) := r5
  have g5 : w4.grownBy w5 none := g5
  obtain ⟨a5, c5, rfl⟩ := r5.shape
  have lk : (T.take k).length = k := by have := HL.out; simp; omega
  rw [lk] at r5 ⊢
  have LK := Lib.hid lk
  have R5 := Lib.hid r5
  have G5 := Lib.hid (gb_trans G4.out g5)
  have GG5 := Lib.hid g5.size
  have B1 := Lib.hid (B1.out.keep0 g5)
  have B2 := Lib.hid (B2.out.keep0 g5)
  have IB := Lib.hid (IB.out.keep0 g5)
  clear r5 g5 lk e3
  have e4 := B1.out.cell 1
  dsimp at e4
  by_cases hce : c = k + 1
  · obtain rfl : n = k + 1 := by omega
    subst hce
    have S7 := Lib.hid (show SR w5 (some ⟨g, 0, none⟩) 0 0 E (T.drop (k + 1)) by have q := (HS.out _ G5.out).cut (k + 1) k5 hcap; simpa using q)
    have l3 := Lib.hid (show (T.take k).length + (T.drop (k + 1)).length ≤ 1000000 by have := HL.out; have := HN.out; simp; omega)
    have l4 := Lib.hid (show b4 ≤ w5.heap.size by rw [HB4.out]; exact GG5.out)
    go_wp2_with (at_builtin; refine pushAllR rfl _ _ rfl b4 _ E (T.take k) rfl R5.out (some ⟨g, 0, none⟩) 0 0 (T.drop (k + 1)) rfl S7.out l3.out l4.out ?_)
    intro V6 w6 r6 g6
    have r6 : RL w6 b4 V6 E (cutP T k) := r6
    obtain ⟨a6, c6, rfl⟩ := r6.shape
    obtain ⟨m6, hm6⟩ : ∃ m6, m6 = (cutP T k).length := ⟨_, rfl⟩
    rw [← hm6] at r6 ⊢
    clear hm6
    have o1 := own_ne R5.out B1.out (by decide)
    have o2 := own_ne R5.out B2.out (by decide)
    have o3 := own_far R5.out YB.out
    have LW := Lib.hid (fun g (e : (Value.slice a5 k c5).ownBlock = some g) => (World.ownsRow.lt R5.out g e).1)
    have q1 := B1.out.keep g6 (Ne.symm o1)
    have q2 := B2.out.keep g6 (Ne.symm o2)
    have q3 := IB.out.keep g6 (Ne.symm o3)
    have q4 := q3.cell 0
    have q5 := q3.cell 1
    have h0 := q1.cell 0
    have h3 := q2.free 0
    have h4 := q2.free 1
    have h5 := q2.cell 0
    have h6 := q2.cell 1
    dsimp at h0 h5 h6 q4 q5
    have R6 := Lib.hid r6
    have Q2 := Lib.hid ((q2.set 0 (.int .i64 cap)).set 1 (.slice a6 m6 c6))
    have NY2 : y ≠ z + 1 := Nat.ne_of_gt NY.out
    have NY3 : z + 1 ≠ y := Nat.ne_of_lt NY.out
    have G6 := Lib.hid (gb_lows G5.out g6 fun g e => Nat.le_trans (by rw [HB4.out]; exact G4.out.size) (LW.out g e))
    have O6 := Lib.hid (own_ne r6 q2 (by decide))
    clear r6 g6 q1 q2 q3 o1 o2 o3 e4
    go_wp2_with fail
    go_region
    all_goals (try go_wp2)
    all_goals (
      have kk0 := Q2.out.cell 0
      have kk1 := Q2.out.cell 1
      (try dsimp at kk0)
      (try dsimp at kk1)
      have hz1 : w.heap.size ≤ z + 1 := by rw [← HZ.out]; exact Nat.le_succ _
      have hb4 : w.heap.size ≤ b4 := by have := NY.out; have := YB.out; have := HZ.out; omega
      refine bodyPost_ret (v := .tuple #[rQ cap (.slice a6 m6 c6), .int .i64 (kC x), .int .i64 (E (tC x)), .bool true]) (by rw [results_cell_3 rfl]; go_simp; try rfl) rfl ⟨_, rfl, ?_, ?_⟩
      · have q := World.ownsRow.kept (World.ownsRow.kept (own_low R6.out hb4) (gb_set w6 (z + 1) 0 (.int .i64 cap)) (.inr O6.out)) (gb_set _ (z + 1) 1 (.slice a6 m6 c6)) (.inr O6.out)
        first
          | exact own_keep0 q (gb_drew _ none)
          | exact q
      · have q := gb_put (i := 1) (u := .slice a6 m6 c6) (gb_put (i := 0) (u := .int .i64 cap) G6.out hz1) hz1
        first
          | exact gb_trans q (gb_drew _ _)
          | exact q)
  · have S7 := Lib.hid (show SR w5 (some ⟨g, (k + 1) * 2, none⟩) (n - (k + 1)) (c - (k + 1)) E (T.drop (k + 1)) by have q := (HS.out _ G5.out).cut (k + 1) k5 hcap; rwa [if_neg hce] at q)
    have l3 := Lib.hid (show (T.take k).length + (T.drop (k + 1)).length ≤ 1000000 by have := HL.out; have := HN.out; simp; omega)
    have l4 := Lib.hid (show b4 ≤ w5.heap.size by rw [HB4.out]; exact GG5.out)
    go_wp2_with (at_builtin; refine pushAllR rfl _ _ rfl b4 _ E (T.take k) rfl R5.out (some ⟨g, (k + 1) * 2, none⟩) (n - (k + 1)) (c - (k + 1)) (T.drop (k + 1)) rfl S7.out l3.out l4.out ?_)
    intro V6 w6 r6 g6
    have r6 : RL w6 b4 V6 E (cutP T k) := r6
    obtain ⟨a6, c6, rfl⟩ := r6.shape
    obtain ⟨m6, hm6⟩ : ∃ m6, m6 = (cutP T k).length := ⟨_, rfl⟩
    rw [← hm6] at r6 ⊢
    clear hm6
    have o1 := own_ne R5.out B1.out (by decide)
    have o2 := own_ne R5.out B2.out (by decide)
    have o3 := own_far R5.out YB.out
    have LW := Lib.hid (fun g (e : (Value.slice a5 k c5).ownBlock = some g) => (World.ownsRow.lt R5.out g e).1)
    have q1 := B1.out.keep g6 (Ne.symm o1)
    have q2 := B2.out.keep g6 (Ne.symm o2)
    have q3 := IB.out.keep g6 (Ne.symm o3)
    have q4 := q3.cell 0
    have q5 := q3.cell 1
    have h0 := q1.cell 0
    have h3 := q2.free 0
    have h4 := q2.free 1
    have h5 := q2.cell 0
    have h6 := q2.cell 1
    dsimp at h0 h5 h6 q4 q5
    have R6 := Lib.hid r6
    have Q2 := Lib.hid ((q2.set 0 (.int .i64 cap)).set 1 (.slice a6 m6 c6))
    have NY2 : y ≠ z + 1 := Nat.ne_of_gt NY.out
    have NY3 : z + 1 ≠ y := Nat.ne_of_lt NY.out
    have G6 := Lib.hid (gb_lows G5.out g6 fun g e => Nat.le_trans (by rw [HB4.out]; exact G4.out.size) (LW.out g e))
    have O6 := Lib.hid (own_ne r6 q2 (by decide))
    clear r6 g6 q1 q2 q3 o1 o2 o3 e4
    go_wp2_with fail
    go_region
    all_goals (try go_wp2)
    all_goals (
      have kk0 := Q2.out.cell 0
      have kk1 := Q2.out.cell 1
      (try dsimp at kk0)
      (try dsimp at kk1)
      have hz1 : w.heap.size ≤ z + 1 := by rw [← HZ.out]; exact Nat.le_succ _
      have hb4 : w.heap.size ≤ b4 := by have := NY.out; have := YB.out; have := HZ.out; omega
      refine bodyPost_ret (v := .tuple #[rQ cap (.slice a6 m6 c6), .int .i64 (kC x), .int .i64 (E (tC x)), .bool true]) (by rw [results_cell_3 rfl]; go_simp; try rfl) rfl ⟨_, rfl, ?_, ?_⟩
      · have q := World.ownsRow.kept (World.ownsRow.kept (own_low R6.out hb4) (gb_set w6 (z + 1) 0 (.int .i64 cap)) (.inr O6.out)) (gb_set _ (z + 1) 1 (.slice a6 m6 c6)) (.inr O6.out)
        first
          | exact own_keep0 q (gb_drew _ none)
          | exact q
      · have q := gb_put (i := 1) (u := .slice a6 m6 c6) (gb_put (i := 0) (u := .int .i64 cap) G6.out hz1) hz1
        first
          | exact gb_trans q (gb_drew _ _)
          | exact q)
set_option maxRecDepth 100000 in
theorem rpop_none (w : World) (base : Nat) (a : Option Addr) (c : Nat) (cap : Int) (E : Int → Int) (h : RL w base (.slice a 0 c) E []) : Calls Try.prog 12 #[.agg #[.int .i64 cap, .slice a 0 c]] w (RetQ2 cap base E [] [.int .i64 0, .int .i64 0, .bool false] w) := by
  have HR := Lib.hid h
  clear h
  go_enter Try.func12, Try.ntmps12
  go_wp2
  have gg := gb_trans (gb_alloc w (.cells #[.int .i64 cap, .slice a 0 c] 30) none) (gb_alloc _ (.cells #[.int .i64 cap, .slice a 0 c] 30) none)
  refine bodyPost_ret (v := .tuple #[rQ cap (.slice a 0 c), .int .i64 0, .int .i64 0, .bool false]) (by rw [results_cell_3 rfl]; go_simp; try rfl) rfl ⟨_, rfl, HR.out.keep0 gg, gg⟩
end Go.Proofs.Ytmldoeigemippaa
