/- Cubeset: the reference's Subtract at every width, Complement, Subset, Equal. -/
import Derived.Test.YteemhabgliglmaaCsG
namespace Go.Proofs.Yteemhabgliglmaa
open Go.RowKit
set_option linter.unusedVariables false

/-- Subtract at every width. -/
def subsX (x : Int) (L M : List (Nat × Nat)) : List (Nat × Nat) × Int := if 1 ≤ x ∧ x ≤ 64 then subsL x.toNat L M else ([], 10)
set_option maxRecDepth 100000 in
theorem rsubX_any (w : World) (a b : Option Addr) (n c m d : Nat) (x : Int) (L M : List (Nat × Nat)) (h : SC w a n c L) (g : SC w b m d M) (hn : n ≤ 10000) (hm : m ≤ 10000) : Calls Try.prog 21 #[.slice a n c, .slice b m d, .int .i64 x] w (RetCE (subsX x L M).1 (subsX x L M).2 w) := by
  by_cases hw : 1 ≤ x ∧ x ≤ 64
  · obtain ⟨k, rfl⟩ : ∃ k : Nat, x = (k : Int) := ⟨x.toNat, by omega⟩
    have e : subsX (k : Int) L M = subsL k L M := by unfold subsX; rw [if_pos hw, Int.toNat_natCast]
    rw [e]
    exact rsubs_any w a b n c m d k L M h g hn hm (by omega) (by omega)
  · have e : subsX x L M = ([], 10) := by unfold subsX; rw [if_neg hw]
    rw [e]
    clear h g e
    by_cases h1 : x < 1
    · clear hw
      go_enter Try.func21, Try.ntmps21
      go_wp2
      go_ret2
      exact ⟨_, rfl, CLs.nil _ _, gb_refl _ _⟩
    · have h2 : 64 < x := by omega
      clear hw
      go_enter Try.func21, Try.ntmps21
      go_wp2
      go_ret2
      exact ⟨_, rfl, CLs.nil _ _, gb_refl _ _⟩
theorem sc_lit (w : World) (p q g : Nat) (hg : g = w.heap.size) (hp : B64 p) (hq : B64 q) : SC (w.alloc (.cells #[.int .u64 p, .int .u64 q] 49)) (some ⟨g, 0, none⟩) 1 1 [(p, q)] := by
  subst hg
  refine ⟨rfl, (fun h => by cases h), Nat.le_refl _, ?_, ?_⟩
  · intro ad ha j hj
    injection ha with ha
    subst ha
    obtain rfl : j = 0 := by omega
    have B := IsB.new w 49 #[.int .u64 p, .int .u64 q]
    rw [add_next, addr0, addr0]
    exact ⟨B.cell 0, B.cell 1⟩
  · intro x hx
    rw [List.mem_singleton] at hx
    subst hx
    exact ⟨hp, hq⟩
theorem b640 : B64 0 := by unfold B64; decide
set_option maxRecDepth 100000 in
theorem rcompl_any (w : World) (a : Option Addr) (n c : Nat) (x : Int) (L : List (Nat × Nat)) (h : SC w a n c L) (hn : n ≤ 10000) : Calls Try.prog 23 #[.slice a n c, .int .i64 x] w (RetCE (subsX x [(0, 0)] L).1 (subsX x [(0, 0)] L).2 w) := by
  have SB := Lib.hid (rsubX_any _ _ a 1 1 n c x _ L (sc_lit w 0 0 _ rfl b640 b640) (h.keep0 (gb_alloc w _ none)) (by omega) hn)
  obtain ⟨R, hR⟩ : ∃ R, R = subsX x [(0, 0)] L := ⟨_, rfl⟩
  rw [← hR] at SB ⊢
  clear h hR
  go_enter Try.func23, Try.ntmps23
  go_wp2_with fail
  refine SB.out.mono ?_
  rintro e w1 ⟨V, rfl, o1, g1⟩
  go_wp2
  go_ret2
  exact ⟨_, rfl, own_low o1 (gb_alloc w _ none).size, gb_trans (gb_alloc _ _ _) g1⟩
/-- Subset: whether nothing is left, and the error. -/
def subB (x : Int) (L M : List (Nat × Nat)) : Bool := decide ((subsX x L M).2 = 0) && decide ((subsX x L M).1 = [])
def RetBE (b : Bool) (er : Int) (w : World) (e : Ending) (w' : World) : Prop := e = .returned (.tuple #[.bool b, .int .i64 er]) ∧ w.grownBy w' none
set_option maxRecDepth 100000 in
theorem rssub_any (w : World) (a b : Option Addr) (n c m d : Nat) (x : Int) (L M : List (Nat × Nat)) (h : SC w a n c L) (g : SC w b m d M) (hn : n ≤ 10000) (hm : m ≤ 10000) : Calls Try.prog 25 #[.slice a n c, .slice b m d, .int .i64 x] w (RetBE (subB x L M) (subsX x L M).2 w) := by
  have SB := Lib.hid (rsubX_any w a b n c m d x L M h g hn hm)
  unfold subB
  generalize subsX x L M = R at *
  obtain ⟨D, er⟩ := R
  clear h g
  by_cases he : er = 0
  · subst he
    by_cases hD : D = []
    · subst hD
      go_enter Try.func25, Try.ntmps25
      go_wp2_with fail
      refine SB.out.mono ?_
      rintro e w1 ⟨V, rfl, o1, g1⟩
      obtain ⟨va, vc, rfl⟩ := o1.shape
      go_wp2
      go_ret2
      exact ⟨rfl, g1⟩
    · have hl : ¬ (D.length : Int) = 0 := by
        intro e
        exact hD (List.length_eq_zero_iff.1 (by omega))
      have hl2 : ((D.length : Int) == 0) = false := by rw [beq_eq_false_iff_ne]; exact hl
      rw [show (decide (((D, (0 : Int)).2) = 0) && decide ((D, (0 : Int)).1 = [])) = false by simp [hD]]
      clear hD
      go_enter Try.func25, Try.ntmps25
      go_wp2_with fail
      refine SB.out.mono ?_
      rintro e w1 ⟨V, rfl, o1, g1⟩
      obtain ⟨va, vc, rfl⟩ := o1.shape
      go_wp2
      go_ret2
      exact ⟨rfl, g1⟩
  · have h1 : (er == 0) = false := by rw [beq_eq_false_iff_ne]; exact he
    rw [show (decide (((D, er).2) = 0) && decide ((D, er).1 = [])) = false by simp [he]]
    go_enter Try.func25, Try.ntmps25
    go_wp2_with fail
    refine SB.out.mono ?_
    rintro e w1 ⟨V, rfl, o1, g1⟩
    obtain ⟨va, vc, rfl⟩ := o1.shape
    go_wp2
    go_ret2
    exact ⟨rfl, g1⟩
end Go.Proofs.Yteemhabgliglmaa
