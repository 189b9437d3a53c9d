/- The program's distances: the walks of its closure and of distances. -/
import Derived.Test.YtaikpjnegopelaaDgB
import Derived.BigRegion
namespace Go.Proofs.Ytaikpjnegopelaa
open Go.RowKit
set_option linter.unusedVariables false

theorem gb_put {W0 w : World} {g i : Nat} {u : Value} (h : W0.grownBy w none) (hg : W0.heap.size ≤ g) : W0.grownBy (w.setCell ⟨g, i, none⟩ u) none := gb_new (gb_trans (gb_any h) (gb_set _ _ _ _)) hg
def dval (S : List Int) (v : Nat) : Int := S.getD v 0 + 1
/-- The distances in memory, and the variable that the closure captures. -/
structure DJ (W : World) (db dc cb n base : Nat) (S : List Int) (w : World) : Prop where
  row : NL w base (.slice (some ⟨db, 0, none⟩) n dc) S
  len : S.length = n
  grown : W.grownBy w none
  var : IsB w cb 31 #[.slice (some ⟨db, 0, none⟩) n dc]
  low : W.heap.size ≤ base
  bnd : ∀ u, u < n → -1 ≤ S.getD u 0 ∧ S.getD u 0 + (S.count (-1) : Int) ≤ n
theorem DJ.keepR {W : World} {db dc cb n base : Nat} {S : List Int} {w w2 : World} {row : Option Nat} (h : DJ W db dc cb n base S w) (k : w.grownBy w2 row) (h1 : some db ≠ row) (h2 : some cb ≠ row) (h3 : ∀ q, row = some q → W.heap.size ≤ q) : DJ W db dc cb n base S w2 := by
  refine ⟨World.ownsRow.kept h.row k (Or.inr h1), h.len, ?_, h.var.keep k h2, h.low, h.bnd⟩
  cases row with
  | none => exact gb_trans h.grown k
  | some q => exact gb_new (gb_trans (gb_any h.grown) k) (h3 q rfl)
theorem DJ.put {W : World} {db dc cb n base : Nat} {S : List Int} {w : World} (h : DJ W db dc cb n base S w) (hne : cb ≠ db) (x v : Nat) (hx : x < n) (hv : v < n) (hx1 : S.getD x 0 = -1) (hv1 : S.getD v 0 ≠ -1) :
    DJ W db dc cb n base (S.set x (dval S v)) (w.setCell ⟨db, x, none⟩ (.int .i64 (S.getD v 0 + 1))) := by
  have bv := h.bnd v hv
  have hl : x < S.length := by rw [h.len]; exact hx
  have hc := cnt_set S x (dval S v) hl hx1 (by unfold dval; omega)
  refine ⟨h.row.put h.len.symm x _, by simp [h.len], gb_put h.grown (Nat.le_trans h.low h.row.low), h.var.set_far hne _ _, h.low, ?_⟩
  intro u hu
  by_cases e : u = x
  · subst e
    have e2 : (S.set u (dval S v)).getD u 0 = S.getD v 0 + 1 := by simp [hl, dval]
    rw [e2]; omega
  · have e2 : (S.set x (dval S v)).getD u 0 = S.getD u 0 := by simp [List.getD_eq_getElem?_getD, List.getElem?_set_ne (Ne.symm e)]
    have bu := h.bnd u hu
    rw [e2]; omega

set_option maxRecDepth 100000 in
set_option maxHeartbeats 1000000 in
theorem mark_any (W w : World) (db dc cb n base : Nat) (S : List Int) (v x : Nat) (h : DJ W db dc cb n base S w) (hne : cb ≠ db) (hv : v < n) (hx : x < n) (hn : n ≤ 100000) (hv1 : S.getD v 0 ≠ -1) :
    Calls Try.prog 44 #[.int .i64 v, .int .i64 x, .pointer (some ⟨cb, 0, none⟩)] w fun e w2 => e = .returned (.bool (decide (S.getD x 0 = -1))) ∧ w.grownBy w2 (some db) ∧ DJ W db dc cb n base (if S.getD x 0 = -1 then S.set x (dval S v) else S) w2 := by
  have cc : w.cell? ⟨cb, 0, none⟩ = some (.slice (some ⟨db, 0, none⟩) n dc) := h.var.cell 0
  have cx := h.row.at_ h.len.symm x (by rw [h.len]; exact hx)
  have cv := h.row.at_ h.len.symm v (by rw [h.len]; exact hv)
  have fx := h.row.free h.len.symm x
  have bv := h.bnd v hv
  have HJ := Lib.hid h
  have ix : (x : Int) < n := by omega
  have iv : (v : Int) < n := by omega
  have hnl := h.len
  by_cases hm : S.getD x 0 = -1
  · have HP := Lib.hid (h.put hne x v hx hv hm hv1)
    rw [decide_eq_true hm, if_pos hm]
    rw [hm] at cx
    obtain ⟨y, hy⟩ : ∃ y, y = S.getD v 0 := ⟨_, rfl⟩
    rw [← hy] at cv bv HP
    have by2 : y ≤ 100000 := by omega
    clear h hm hv1 hy
    go_enter Try.func44, Try.ntmps44
    go_wp2
    go_region
    all_goals (try go_wp2)
    all_goals go_ret
    all_goals exact ⟨rfl, gb_trans (gb_set _ _ _ _) (gb_drew _ _), HP.out.keepR (gb_drew _ none) (by simp) (by simp) (by intro q hq; cases hq)⟩
  · rw [decide_eq_false hm, if_neg hm]
    obtain ⟨y, hy⟩ : ∃ y, y = S.getD x 0 := ⟨_, rfl⟩
    rw [← hy] at cx hm
    have d1 : (y == -1) = false := by rw [beq_eq_false_iff_ne]; exact hm
    have d2 : (y != -1) = true := by simp [bne, d1]
    clear h hm hv1 hy
    go_enter Try.func44, Try.ntmps44
    go_wp2
    go_ret
    exact ⟨rfl, gb_refl _ _, HJ.out⟩
/-- What the program's distances answers. -/
def pdist (g : List (List Int)) (s goal : Int) : List Int :=
  if 0 ≤ s ∧ s < (g.length : Int) then outerB g goal dval (g.length + 1) 0 ((tab g.length fun _ => -1).set s.toNat 0) [s] else tab g.length fun _ => -1
theorem outerB_len (g : List (List Int)) (goal : Int) (val : List Int → Nat → Int) (k : Nat) : ∀ i S Q, (outerB g goal val k i S Q).length = S.length := by
  have inner : ∀ (zs : List Int) (n v : Nat) (S Q : List Int), (innerB n goal val v zs S Q).1.length = S.length := by
    intro zs n v
    induction zs with
    | nil => intro S Q; rfl
    | cons x t ih =>
      intro S Q
      rw [innerB_cons]
      split
      · split
        · split
          · simp
          · rw [ih]; simp
        · exact ih S Q
      · exact ih S Q
  induction k with
  | zero => intro i S Q; rfl
  | succ k ih =>
    intro i S Q
    show (if _ then _ else _ : List Int).length = _
    split
    · split
      · exact inner _ _ _ _ _
      · rw [ih]; exact inner _ _ _ _ _
    · rfl
theorem count_tab (n : Nat) : (tab n fun _ => (-1 : Int)).count (-1) = n := by rw [tab_const, List.count_replicate_self]

set_option maxRecDepth 100000 in
set_option maxHeartbeats 1000000 in
theorem distances_any (w : World) (a : Option Addr) (c : Nat) (g : List (List Int)) (h : SlG w a g.length c g) (hn : g.length ≤ 100000) (s goal : Int) (hs : -9223372036854775808 ≤ s ∧ s ≤ 9223372036854775807) :
    Calls Try.prog 34 #[.slice a g.length c, .int .i64 s, .int .i64 goal] w (RetN w.heap.size (pdist g s goal) w) := by
  have HH := Lib.hid h
  clear h
  have hmf : ∀ (fn : Fn) (first cap : Array Value) (w : World), (Instr.makeFunc fn first cap).run Try.prog w = .ok (.func fn first cap) w := fun _ _ _ _ => rfl
  have HF := Lib.hid (filled_any w g.length (-1) hn)
  have HI := Lib.hid (fun w => isNode_any w a g.length c s)
  by_cases hin : 0 ≤ s ∧ s < (g.length : Int)
  · obtain ⟨t, rfl⟩ : ∃ t : Nat, s = (t : Int) := ⟨s.toNat, by omega⟩
    have htn : t < g.length := by omega
    have hti : (t : Int) < g.length := by omega
    have HE := Lib.hid (show pdist g (t : Int) goal = outerB g goal dval (g.length + 1) 0 ((tab g.length fun _ => -1).set t 0) [(t : Int)] by unfold pdist; rw [if_pos hin, Int.toNat_natCast])
    simp only [decide_eq_true hin] at HI
    clear hin hs
    go_enter Try.func34, Try.ntmps34
    go_wp2_with fail
    refine HF.out.mono ?_
    rintro e w1 ⟨V, rfl, o1, g1⟩
    have O1 := Lib.hid o1
    have G1 := Lib.hid g1
    clear o1 g1
    obtain ⟨db, dc, rfl⟩ := O1.out.headn (n := g.length) (by simp [tab_len]) (by omega)
    have B2 := Lib.hid (IsB.new w1 31 #[.slice (some ⟨db, 0, none⟩) g.length dc])
    have E2 := Lib.hid (gb_alloc w1 (.cells #[.slice (some ⟨db, 0, none⟩) g.length dc] 31) none)
    have hdb := (World.ownsRow.lt O1.out db rfl).2
    go_wp2_with fail
    generalize w1.alloc (.cells #[.slice (some ⟨db, 0, none⟩) g.length dc] 31) = w2 at *
    refine (HI.out _).mono ?_
    rintro e w3 ⟨rfl, rfl⟩
    have N2 := Lib.hid (O1.out.keep0 E2.out)
    have G2 := Lib.hid (gb_trans G1.out E2.out)
    have cb0 : w3.cell? ⟨w1.heap.size, 0, none⟩ = some (.slice (some ⟨db, 0, none⟩) g.length dc) := B2.out.cell 0
    have ct := N2.out.at_ (by simp [tab_len]) t (by simp [tab_len]; exact htn)
    have ft := N2.out.free (by simp [tab_len]) t
    have hne : w1.heap.size ≠ db := by omega
    have hcnt := cnt_set (tab g.length fun _ => -1) t 0 (by simp [tab_len]; exact htn) (by rw [tab_at _ _ _ htn]) (by decide)
    rw [count_tab] at hcnt
    have D3 := Lib.hid (show DJ w db dc w1.heap.size g.length w.heap.size ((tab g.length fun _ => -1).set t 0) (w3.setCell ⟨db, t, none⟩ (.int .i64 0)) from
      ⟨N2.out.put (by simp [tab_len]) t 0, by simp [tab_len], gb_put G2.out N2.out.low, B2.out.set_far hne _ _, Nat.le_refl _, by
        intro u hu
        by_cases e : u = t
        · subst e
          have e2 : ((tab g.length fun _ => (-1 : Int)).set u 0).getD u 0 = 0 := by simp [tab_len, hu]
          rw [e2]; omega
        · have e2 : ((tab g.length fun _ => (-1 : Int)).set t 0).getD u 0 = -1 := by
            have e3 : ((tab g.length fun _ => (-1 : Int)).set t 0).getD u 0 = (tab g.length fun _ => (-1 : Int)).getD u 0 := by simp [List.getD_eq_getElem?_getD, List.getElem?_set_ne (Ne.symm e)]
            rw [e3, tab_at _ _ _ hu]
          rw [e2]; omega⟩)
    have S3 := Lib.hid (show w3.heap.size ≤ (w3.setCell ⟨db, t, none⟩ (.int .i64 0)).heap.size by simp [World.setCell])
    have H23 := Lib.hid (show w1.heap.size < w3.heap.size from B2.out.lt)
    have HS := Lib.hid (search_any w (w3.setCell ⟨db, t, none⟩ (.int .i64 0)) a c g HH.out hn t goal 44 #[.pointer (some ⟨w1.heap.size, 0, none⟩)] dval _ (DJ w db dc w1.heap.size g.length w.heap.size) db htn D3.out.len
      (by simp [tab_len, htn]) (by omega) D3.out ⟨fun S w' h => h.grown, fun S u1 u2 row hj k hq => hj.keepR k (by intro e; have := hq db e.symm; have := S3.out; have := H23.out; omega) (by intro e; have := hq w1.heap.size e.symm; have := S3.out; have := H23.out; omega) (fun q e => by have := hq q e; have := S3.out; have := H23.out; have := G1.out.size; omega), fun _ _ => by rfl, by have := S3.out; have := H23.out; omega,
        fun S u1 v x hv hx hl hv1 hj => ⟨fun _ => by have := hj.bnd v hv; unfold dval; omega, mark_any w u1 db dc w1.heap.size g.length w.heap.size S v x hj hne hv hx hn hv1⟩⟩)
    clear O1 G1 B2 E2 N2 G2
    go_wp2_with fail
    refine HS.out.mono ?_
    rintro e w5 ⟨rfl, d5⟩
    have c5 : w5.cell? ⟨w1.heap.size, 0, none⟩ = some (.slice (some ⟨db, 0, none⟩) g.length dc) := d5.var.cell 0
    have D5 := Lib.hid d5
    clear d5 HS D3 cb0 ct ft
    go_wp2
    go_ret
    rw [HE.out]
    exact ⟨_, rfl, D5.out.row, D5.out.grown⟩
  · have HE := Lib.hid (show pdist g s goal = tab g.length fun _ => -1 from if_neg hin)
    simp only [decide_eq_false hin] at HI
    clear hin hs
    go_enter Try.func34, Try.ntmps34
    go_wp2_with fail
    refine HF.out.mono ?_
    rintro e w1 ⟨V, rfl, o1, g1⟩
    have O1 := Lib.hid o1
    have G1 := Lib.hid g1
    clear o1 g1
    obtain ⟨a1, d1, rfl⟩ := O1.out.shape
    have B2 := Lib.hid (IsB.new w1 31 #[.slice a1 (tab g.length fun _ => (-1 : Int)).length d1])
    have E2 := Lib.hid (gb_alloc w1 (.cells #[.slice a1 (tab g.length fun _ => (-1 : Int)).length d1] 31) none)
    go_wp2_with fail
    generalize w1.alloc (.cells #[.slice a1 (tab g.length fun _ => (-1 : Int)).length d1] 31) = w2 at *
    refine (HI.out _).mono ?_
    rintro e w3 ⟨rfl, rfl⟩
    have c0 : w3.cell? ⟨w1.heap.size, 0, none⟩ = some (.slice a1 (tab g.length fun _ => (-1 : Int)).length d1) := B2.out.cell 0
    go_wp2
    go_ret
    rw [HE.out]
    exact ⟨_, rfl, O1.out.keep0 E2.out, gb_trans G1.out E2.out⟩
end Go.Proofs.Ytaikpjnegopelaa
