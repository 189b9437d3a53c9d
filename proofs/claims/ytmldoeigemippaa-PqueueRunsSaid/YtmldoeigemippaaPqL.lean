/- The reference's queue: Peek, Push; the law's equal. -/
import Derived.Test.YtmldoeigemippaaPqK
namespace Go.Proofs.Ytmldoeigemippaa
open Go.RowKit
set_option linter.unusedVariables false

theorem isb_keep {w w2 : World} {b : Nat} {t : TypeId} {cs : Array Value} (k : w.grownBy w2 none) (h : IsB w b t cs) : IsB w2 b t cs := h.keep0 k
theorem gsz {w0 w : World} (h : w0.grownBy w none) : w0.heap.size ≤ w.heap.size := h.size
theorem drew_sz (w : World) : w.drew.heap.size = w.heap.size := rfl
theorem box_facts {w : World} {b : Nat} {t : TypeId} {v u : Value} (h : IsB w b t #[v, u]) : w.cell? ⟨b, 0, none⟩ = some v ∧ w.cell? ⟨b, 1, none⟩ = some u ∧ w.frozen? ⟨b, 0, none⟩ = false ∧ w.frozen? ⟨b, 1, none⟩ = false ∧ b ≠ w.heap.size ∧ w.heap.size ≠ b ∧ (∀ o, (w.alloc o).cell? ⟨b, 0, none⟩ = some v) ∧ (∀ o, (w.alloc o).cell? ⟨b, 1, none⟩ = some u) ∧ (∀ o, (w.alloc o).frozen? ⟨b, 0, none⟩ = false) ∧ (∀ o, (w.alloc o).frozen? ⟨b, 1, none⟩ = false) :=
  ⟨h.cell 0, h.cell 1, h.free 0, h.free 1, Nat.ne_of_lt h.lt, Nat.ne_of_gt h.lt, fun o => (h.alloc o).cell 0, fun o => (h.alloc o).cell 1, fun o => (h.alloc o).free 0, fun o => (h.alloc o).free 1⟩
set_option maxRecDepth 100000 in
set_option maxHeartbeats 4000000 in
theorem rpeek_some (w : World) (base : Nat) (a : Option Addr) (n c : Nat) (cap : Int) (E : Int → Int) (T : List Int) (h : RL w base (.slice a n c) E T) (hl : n = T.length) (hn : n ≤ 100000) (hp : 0 < n) : Calls Try.prog 14 #[.agg #[.int .i64 cap, .slice a n c]] w (RetV (.tuple #[.int .i64 (kC (minT T)), .int .i64 (E (tC (minT T))), .bool true]) w) := by
  obtain ⟨g, d, e⟩ := h.headn hl hp
  injection e with e1 _ e3
  subst e1 e3
  have hk : fsK T n < n := by have := fsK_lt T (by omega) n (by omega); omega
  have HR := Lib.hid h
  have HL := Lib.hid hl
  have FI := Lib.hid (fun w2 (q : w.grownBy w2 none) => first_any w2 base (some ⟨g, 0, none⟩) n c cap E T (h.keep0 q) hl hn)
  have C1 := Lib.hid (fun w2 (q : w.grownBy w2 none) => (h.keep0 q).at_ hl (fsK T n) hk)
  unfold minT
  rw [← hl]
  obtain ⟨k, hkk⟩ : ∃ k, k = fsK T n := ⟨_, rfl⟩
  rw [← hkk] at FI C1 hk ⊢
  obtain ⟨x, hx⟩ : ∃ x, x = T.getD k 0 := ⟨_, rfl⟩
  rw [← hx] at C1 ⊢
  have B1 := Lib.hid (IsB.new w 30 #[.int .i64 cap, .slice (some ⟨g, 0, none⟩) n c])
  have G1 := Lib.hid (gb_alloc w (.cells #[.int .i64 cap, .slice (some ⟨g, 0, none⟩) n c] 30) none)
  have i0 : ((n : Int) == 0) = false := by rw [beq_eq_false_iff_ne]; omega
  have k0 : (0 : Int) ≤ (k : Int) := by omega
  have k1 : (k : Int) < n := by omega
  have n0 : ¬ (n : Int) = 0 := by omega
  clear h hl hkk hx
  go_enter Try.func14, Try.ntmps14
  go_upto_region 3 with fail
  generalize w.alloc (.cells #[.int .i64 cap, .slice (some ⟨g, 0, none⟩) n c] 30) = w1 at *
  obtain ⟨z, hz⟩ : ∃ z, z = w.heap.size := ⟨_, rfl⟩
  rw [← hz] at B1 ⊢
  clear hz
  have ES : ∀ o : Obj, (w1.alloc o).heap.size = w1.heap.size + 1 := alloc_sz w1
  have KS := Lib.hid (fun (w' : World) (q0 : w1.grownBy w' none) => (⟨(B1.out.keep0 q0).cell 0, (B1.out.keep0 q0).cell 1, (C1.out w' (gb_trans G1.out q0)).1, (C1.out w' (gb_trans G1.out q0)).2, q0⟩ : (fun w' : World => w'.cell? ⟨z, 0, none⟩ = some (.int .i64 (cap : Int)) ∧ w'.cell? ⟨z, 1, none⟩ = some (.slice (some ⟨g, 0, none⟩) n c) ∧ w'.cell? ⟨g, k * 2, none⟩ = some (.int .i64 (kC x)) ∧ w'.cell? ⟨g, k * 2 + 1, none⟩ = some (.int .i64 (E (tC x))) ∧ w1.grownBy w' none) w'))
  go_region_held3 (fun w' : World => w'.cell? ⟨z, 0, none⟩ = some (.int .i64 (cap : Int)) ∧ w'.cell? ⟨z, 1, none⟩ = some (.slice (some ⟨g, 0, none⟩) n c) ∧ w'.cell? ⟨g, k * 2, none⟩ = some (.int .i64 (kC x)) ∧ w'.cell? ⟨g, k * 2 + 1, none⟩ = some (.int .i64 (E (tC x))) ∧ w1.grownBy w' none)
    (first
      | assumption
      | exact KS.out _ (by repeat' first
                                | assumption
                                | exact (And.right (And.right (And.right (And.right (by assumption)))))
                                | exact World.grownBy.refl _ _
                                | exact gb_drew _ _
                                | refine gb_trans ?_ (gb_alloc _ _ _)
                                | refine gb_trans ?_ (gb_drew _ _)
                                | refine gb_put ?_ ?_
                                | refine gsz ?_
                                | exact Nat.le_refl _
                                | refine Nat.le_succ_of_le ?_
                                | refine gb_trans ?_ (by assumption)))
    (first
      | (go_at_call 22; refine (FI.out _ (by repeat' first
                                | exact gb_trans G1.out (And.right (And.right (And.right (And.right (by assumption)))))
                                | exact gb_trans G1.out (gb_drew _ _)
                                | exact gb_trans G1.out (gb_trans (gb_drew _ _) (gb_alloc _ _ _)))).mono ?_; rintro e w' ⟨rfl, gA⟩; (try with_reducible (have gA := gb_trans (gb_drew _ none) gA)); (try with_reducible (have IA := isb_keep gA (IsB.new _ _ _); (try simp only [alloc_sz, drew_sz] at IA); obtain ⟨a1, a2, a3, a4, a5, a6, a7, a8, a9, a10⟩ := box_facts IA))))
  · have N := IsB.new w' 52 #[.int .i64 (kC x), .int .i64 (E (tC x))]
    have n0 := N.cell 0
    have n1 := N.cell 1
    (try dsimp at n0)
    (try dsimp at n1)
    have GW := Lib.hid (gb_trans (show w1.grownBy w' none from by first | exact gA | exact gb_trans (gb_drew _ _) gA | exact gb_trans (gb_trans (gb_drew _ _) (gb_alloc _ _ _)) gA | exact gb_trans (gb_alloc _ _ _) gA | exact (And.right (And.right (And.right (And.right (by assumption)))))) (gb_alloc w' (.cells #[.int .i64 (kC x), .int .i64 (E (tC x))] 52) none))
    clear N
    go_upto_region 4 with fail
    go_quiet (fail)
    go_wp2
    (try simp only [Exit.inBlock, Exit.then])
    refine bodyPost_ret (v := .tuple #[.int .i64 (kC x), .int .i64 (E (tC x)), .bool true]) (by rw [results3 rfl]; rfl) rfl ⟨rfl, gb_trans (gb_trans G1.out GW.out) (by first | exact gb_drewN _ _ _ | exact gb_refl _ _)⟩
  · have N := (IA.set 0 (.int .i64 (kC x))).set 1 (.int .i64 (E (tC x)))
    have n0 := N.cell 0
    have n1 := N.cell 1
    (try dsimp at n0)
    (try dsimp at n1)
    have GW := Lib.hid (gb_put (i := 1) (u := .int .i64 (E (tC x))) (gb_put (i := 0) (u := .int .i64 (kC x)) (show w1.grownBy w' none from by first | exact gA | exact gb_trans (gb_drew _ _) gA | exact gb_trans (gb_trans (gb_drew _ _) (gb_alloc _ _ _)) gA | exact gb_trans (gb_alloc _ _ _) gA | exact (And.right (And.right (And.right (And.right (by assumption)))))) (Nat.le_refl _)) (Nat.le_refl _))
    clear N
    go_upto_region 4 with fail
    go_quiet (fail)
    go_wp2
    (try simp only [Exit.inBlock, Exit.then])
    refine bodyPost_ret (v := .tuple #[.int .i64 (kC x), .int .i64 (E (tC x)), .bool true]) (by rw [results3 rfl]; rfl) rfl ⟨rfl, gb_trans (gb_trans G1.out GW.out) (by first | exact gb_drewN _ _ _ | exact gb_refl _ _)⟩
set_option maxRecDepth 100000 in
set_option maxHeartbeats 4000000 in
theorem equal_any (w : World) (a a2 : Option Addr) (n c c2 : Nat) (E E2 : Int → Int) (T T2 : List Int) (h : SR w a n c E T) (h2 : SR w a2 n c2 E2 T2) (he : T.flatMap (itR E) = T2.flatMap (itR E2)) (hn : n ≤ 100000) : Calls Try.prog 17 #[.slice a n c, .slice a2 n c2] w (RetV (.bool true) w) := by
  have HS := Lib.hid h
  have HS2 := Lib.hid h2
  have HE := Lib.hid (fun j (hj : j < n) => (show kC (T.getD j 0) = kC (T2.getD j 0) ∧ E (tC (T.getD j 0)) = E2 (tC (T2.getD j 0)) by
    obtain ⟨p1, p2⟩ := itR_at E T j (by rw [h.1]; exact hj)
    obtain ⟨q1, q2⟩ := itR_at E2 T2 j (by rw [h2.1]; exact hj)
    rw [he] at p1 p2
    rw [p1] at q1
    rw [p2] at q2
    injection q1 with q1
    injection q1 with _ q1
    injection q2 with q2
    injection q2 with _ q2
    exact ⟨q1, q2⟩))
  have d1 : ((n : Int) != n) = false := by simp
  clear h h2 he
  go_enter Try.func17, Try.ntmps17
  go_wp2
  go_loopw [5] (fun i wr => ∃ j : Nat, j ≤ n ∧ i = .int .i64 j ∧ w.grownBy wr none) (fun i _ => n - (intOf i).toNat)
  case atStart => exact ⟨0, Nat.zero_le _, rfl, gb_refl _ _⟩
  case round =>
    obtain ⟨j, hj, rfl, hg⟩ := hrel
    have HG := Lib.hid hg
    clear hg
    by_cases hlt : j < n
    · obtain ⟨ad, rfl⟩ := HS.out.some_ (by omega)
      obtain ⟨ad2, rfl⟩ := HS2.out.some_ (by omega)
      have i1 : (j : Int) < n := by omega
      have i0 : (0 : Int) ≤ (j : Int) := by omega
      obtain ⟨c1, c2⟩ := (HS.out.keep0 HG.out).at_ j hlt
      obtain ⟨c3, c4⟩ := (HS2.out.keep0 HG.out).at_ j hlt
      obtain ⟨e1, e2⟩ := HE.out j hlt
      rw [← e1] at c3
      rw [← e2] at c4
      have hw : IntKind.i64.wrap ((j : Int) + 1) = ((j + 1 : Nat) : Int) := by rw [IntKind.wrap_i64]; omega
      clear e1 e2
      generalize kC (T.getD j 0) = x at *
      generalize E (tC (T.getD j 0)) = y at *
      go_upto_region 6 with fail
      go_quiet (fail)
      go_wp2
      go_roundw
      case rel => exact ⟨j + 1, by omega, by first | rfl | (congr 1), gb_trans HG.out (by first | exact gb_drewN _ _ _ | exact gb_refl _ _)⟩
      case measure => simp [intOf]; omega
    · have i1 : ¬ (j : Int) < n := by omega
      go_wp2
      go_ret
      exact ⟨rfl, HG.out⟩
end Go.Proofs.Ytmldoeigemippaa
