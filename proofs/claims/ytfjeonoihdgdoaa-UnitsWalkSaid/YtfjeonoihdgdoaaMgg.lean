/- The texts UnK, UnL in one; no condition. -/
import Derived.Test.YtfjeonoihdgdoaaUnJ
import Derived.Test.YtfjeonoihdgdoaaCnR
import Derived.Test.YtfjeonoihdgdoaaUnE
section
/- Units: the law's sample; no condition. -/
namespace Go.Proofs.Ytfjeonoihdgdoaa
open Go.RowKit
set_option linter.unusedVariables false
def smA : CT := .cons 1 1 nil3 [] nil3 .nil nil3 .nil .nil
def smB2 : CT := .cons 1 2 nil3 [] nil3 .nil nil3 .nil .nil
def smX (b : Nat) : CV := ⟨2, 0, ⟨some ⟨b + 1, 0, none⟩, 1, 1⟩, [(1, 1, 1)], ⟨some ⟨b + 1 + 1 + 1, 0, none⟩, 1, 1⟩, smA, ⟨some ⟨b + 1 + 1 + 1 + 1, 0, none⟩, 1, 1⟩, smB2⟩
def smT (b : Nat) : CT := .cons 1 0 nil3 [] nil3 .nil nil3 .nil ((smX b).ct .nil)
theorem sm_st (w : World) (b : Nat) (b1 : IsB w (b + 1) 51 #[.int .i64 1, .int .i64 1, .int .i64 1]) (b3 : IsB w (b + 1 + 1 + 1) 63 #[.int .i64 1, .int .i64 1, .slice none 0 0, .slice none 0 0, .slice none 0 0]) (b4 : IsB w (b + 1 + 1 + 1 + 1) 63 #[.int .i64 1, .int .i64 2, .slice none 0 0, .slice none 0 0, .slice none 0 0])
    (b5 : IsB w (b + 1 + 1 + 1 + 1 + 1) 63 #[.int .i64 1, .int .i64 0, .slice none 0 0, .slice none 0 0, .slice none 0 0, .int .i64 2, .int .i64 0, .slice (some ⟨b + 1, 0, none⟩) 1 1, .slice (some ⟨b + 1 + 1 + 1, 0, none⟩) 1 1, .slice (some ⟨b + 1 + 1 + 1 + 1, 0, none⟩) 1 1]) : ST w ⟨some ⟨b + 1 + 1 + 1 + 1 + 1, 0, none⟩, 2, 2⟩ (smT b) := by
  have sA : ST w ⟨some ⟨b + 1 + 1 + 1, 0, none⟩, 1, 1⟩ smA := by
    refine ⟨rfl, (fun e => by cases e), Nat.le_refl _, fun ad e => ?_⟩
    cases e
    refine ctm_mk (x := ⟨1, 1, nil3, [], nil3, .nil, nil3, .nil⟩) ?_ (vm_leaf w 1 1) trivial
    rw [addr0c]
    exact ⟨b3.cell 0, b3.cell 1, b3.cell 2, b3.cell 3, b3.cell 4⟩
  have sB : ST w ⟨some ⟨b + 1 + 1 + 1 + 1, 0, none⟩, 1, 1⟩ smB2 := by
    refine ⟨rfl, (fun e => by cases e), Nat.le_refl _, fun ad e => ?_⟩
    cases e
    refine ctm_mk (x := ⟨1, 2, nil3, [], nil3, .nil, nil3, .nil⟩) ?_ (vm_leaf w 1 2) trivial
    rw [addr0c]
    exact ⟨b4.cell 0, b4.cell 1, b4.cell 2, b4.cell 3, b4.cell 4⟩
  have sE : SN w (some ⟨b + 1, 0, none⟩) 1 1 [(1, 1, 1)] := by
    refine ⟨rfl, (fun e => by cases e), Nat.le_refl _, fun ad e j hj => ?_, fun x hx => ?_⟩
    · cases e
      have hj0 : j = 0 := by omega
      subst hj0
      rw [addr0c]
      exact ⟨b1.cell 0, b1.cell 1, b1.cell 2⟩
    · rw [List.mem_singleton] at hx
      subst hx
      decide
  refine ⟨rfl, (fun e => by cases e), Nat.le_refl _, fun ad e => ?_⟩
  cases e
  refine ctm_mk (x := ⟨1, 0, nil3, [], nil3, .nil, nil3, .nil⟩) ?_ (vm_leaf w 1 0) ?_
  · rw [addr0c]
    exact ⟨b5.cell 0, b5.cell 1, b5.cell 2, b5.cell 3, b5.cell 4⟩
  · refine ctm_mk (x := smX b) ?_ ⟨sE, sA, sB⟩ trivial
    rw [addr0c]
    exact ⟨b5.cell 5, b5.cell 6, b5.cell 7, b5.cell 8, b5.cell 9⟩
def RetSm (w : World) (e : Ending) (w' : World) : Prop := ∃ b, e = .returned (.agg #[.string ⟨#[]⟩, .slice none 0 0, .slice none 0 0, .slice none 0 0, .slice none 0 0, .slice (some ⟨b + 1 + 1, 0, none⟩) 3 3, .slice none 0 0, .slice (some ⟨b + 1 + 1 + 1 + 1 + 1, 0, none⟩) 2 2, .slice none 0 0]) ∧ ST w' ⟨some ⟨b + 1 + 1 + 1 + 1 + 1, 0, none⟩, 2, 2⟩ (smT b) ∧ w.grownBy w' none
set_option maxRecDepth 100000 in
set_option maxHeartbeats 8000000 in
theorem sample_any (w : World) : Calls Try.prog 53 #[] w (RetSm w) := by
  have B0 := ((((((IsB.new w 31 #[.string ⟨#[]⟩, .slice none 0 0, .slice none 0 0, .slice none 0 0, .slice none 0 0, .slice (some ⟨w.heap.size + 1 + 1, 0, none⟩) 3 3, .slice none 0 0, .slice (some ⟨w.heap.size + 1 + 1 + 1 + 1 + 1, 0, none⟩) 2 2, .slice none 0 0]).alloc (.cells #[.int .i64 1, .int .i64 1, .int .i64 1] 51)).alloc (.cells #[.string ⟨#[116]⟩, .slice none 0 0, .slice none 0 0, .int .i64 0, .slice none 0 0, .int .i64 0, .string ⟨#[117]⟩, .slice none 0 0, .slice none 0 0, .int .i64 0, .slice none 0 0, .int .i64 0, .string ⟨#[118]⟩, .slice none 0 0, .slice none 0 0, .int .i64 0, .slice none 0 0, .int .i64 0] 118)).alloc (.cells #[.int .i64 1, .int .i64 1, .slice none 0 0, .slice none 0 0, .slice none 0 0] 63)).alloc (.cells #[.int .i64 1, .int .i64 2, .slice none 0 0, .slice none 0 0, .slice none 0 0] 63)).alloc (.cells #[.int .i64 1, .int .i64 0, .slice none 0 0, .slice none 0 0, .slice none 0 0, .int .i64 2, .int .i64 0, .slice (some ⟨w.heap.size + 1, 0, none⟩) 1 1, .slice (some ⟨w.heap.size + 1 + 1 + 1, 0, none⟩) 1 1, .slice (some ⟨w.heap.size + 1 + 1 + 1 + 1, 0, none⟩) 1 1] 63))
  have B1 := (((((IsB.new (w.alloc (.cells #[.string ⟨#[]⟩, .slice none 0 0, .slice none 0 0, .slice none 0 0, .slice none 0 0, .slice (some ⟨w.heap.size + 1 + 1, 0, none⟩) 3 3, .slice none 0 0, .slice (some ⟨w.heap.size + 1 + 1 + 1 + 1 + 1, 0, none⟩) 2 2, .slice none 0 0] 31)) 51 #[.int .i64 1, .int .i64 1, .int .i64 1]).alloc (.cells #[.string ⟨#[116]⟩, .slice none 0 0, .slice none 0 0, .int .i64 0, .slice none 0 0, .int .i64 0, .string ⟨#[117]⟩, .slice none 0 0, .slice none 0 0, .int .i64 0, .slice none 0 0, .int .i64 0, .string ⟨#[118]⟩, .slice none 0 0, .slice none 0 0, .int .i64 0, .slice none 0 0, .int .i64 0] 118)).alloc (.cells #[.int .i64 1, .int .i64 1, .slice none 0 0, .slice none 0 0, .slice none 0 0] 63)).alloc (.cells #[.int .i64 1, .int .i64 2, .slice none 0 0, .slice none 0 0, .slice none 0 0] 63)).alloc (.cells #[.int .i64 1, .int .i64 0, .slice none 0 0, .slice none 0 0, .slice none 0 0, .int .i64 2, .int .i64 0, .slice (some ⟨w.heap.size + 1, 0, none⟩) 1 1, .slice (some ⟨w.heap.size + 1 + 1 + 1, 0, none⟩) 1 1, .slice (some ⟨w.heap.size + 1 + 1 + 1 + 1, 0, none⟩) 1 1] 63))
  have B3 := (((IsB.new (((w.alloc (.cells #[.string ⟨#[]⟩, .slice none 0 0, .slice none 0 0, .slice none 0 0, .slice none 0 0, .slice (some ⟨w.heap.size + 1 + 1, 0, none⟩) 3 3, .slice none 0 0, .slice (some ⟨w.heap.size + 1 + 1 + 1 + 1 + 1, 0, none⟩) 2 2, .slice none 0 0] 31)).alloc (.cells #[.int .i64 1, .int .i64 1, .int .i64 1] 51)).alloc (.cells #[.string ⟨#[116]⟩, .slice none 0 0, .slice none 0 0, .int .i64 0, .slice none 0 0, .int .i64 0, .string ⟨#[117]⟩, .slice none 0 0, .slice none 0 0, .int .i64 0, .slice none 0 0, .int .i64 0, .string ⟨#[118]⟩, .slice none 0 0, .slice none 0 0, .int .i64 0, .slice none 0 0, .int .i64 0] 118)) 63 #[.int .i64 1, .int .i64 1, .slice none 0 0, .slice none 0 0, .slice none 0 0]).alloc (.cells #[.int .i64 1, .int .i64 2, .slice none 0 0, .slice none 0 0, .slice none 0 0] 63)).alloc (.cells #[.int .i64 1, .int .i64 0, .slice none 0 0, .slice none 0 0, .slice none 0 0, .int .i64 2, .int .i64 0, .slice (some ⟨w.heap.size + 1, 0, none⟩) 1 1, .slice (some ⟨w.heap.size + 1 + 1 + 1, 0, none⟩) 1 1, .slice (some ⟨w.heap.size + 1 + 1 + 1 + 1, 0, none⟩) 1 1] 63))
  have B4 := ((IsB.new ((((w.alloc (.cells #[.string ⟨#[]⟩, .slice none 0 0, .slice none 0 0, .slice none 0 0, .slice none 0 0, .slice (some ⟨w.heap.size + 1 + 1, 0, none⟩) 3 3, .slice none 0 0, .slice (some ⟨w.heap.size + 1 + 1 + 1 + 1 + 1, 0, none⟩) 2 2, .slice none 0 0] 31)).alloc (.cells #[.int .i64 1, .int .i64 1, .int .i64 1] 51)).alloc (.cells #[.string ⟨#[116]⟩, .slice none 0 0, .slice none 0 0, .int .i64 0, .slice none 0 0, .int .i64 0, .string ⟨#[117]⟩, .slice none 0 0, .slice none 0 0, .int .i64 0, .slice none 0 0, .int .i64 0, .string ⟨#[118]⟩, .slice none 0 0, .slice none 0 0, .int .i64 0, .slice none 0 0, .int .i64 0] 118)).alloc (.cells #[.int .i64 1, .int .i64 1, .slice none 0 0, .slice none 0 0, .slice none 0 0] 63)) 63 #[.int .i64 1, .int .i64 2, .slice none 0 0, .slice none 0 0, .slice none 0 0]).alloc (.cells #[.int .i64 1, .int .i64 0, .slice none 0 0, .slice none 0 0, .slice none 0 0, .int .i64 2, .int .i64 0, .slice (some ⟨w.heap.size + 1, 0, none⟩) 1 1, .slice (some ⟨w.heap.size + 1 + 1 + 1, 0, none⟩) 1 1, .slice (some ⟨w.heap.size + 1 + 1 + 1 + 1, 0, none⟩) 1 1] 63))
  have B5 := (IsB.new (((((w.alloc (.cells #[.string ⟨#[]⟩, .slice none 0 0, .slice none 0 0, .slice none 0 0, .slice none 0 0, .slice (some ⟨w.heap.size + 1 + 1, 0, none⟩) 3 3, .slice none 0 0, .slice (some ⟨w.heap.size + 1 + 1 + 1 + 1 + 1, 0, none⟩) 2 2, .slice none 0 0] 31)).alloc (.cells #[.int .i64 1, .int .i64 1, .int .i64 1] 51)).alloc (.cells #[.string ⟨#[116]⟩, .slice none 0 0, .slice none 0 0, .int .i64 0, .slice none 0 0, .int .i64 0, .string ⟨#[117]⟩, .slice none 0 0, .slice none 0 0, .int .i64 0, .slice none 0 0, .int .i64 0, .string ⟨#[118]⟩, .slice none 0 0, .slice none 0 0, .int .i64 0, .slice none 0 0, .int .i64 0] 118)).alloc (.cells #[.int .i64 1, .int .i64 1, .slice none 0 0, .slice none 0 0, .slice none 0 0] 63)).alloc (.cells #[.int .i64 1, .int .i64 2, .slice none 0 0, .slice none 0 0, .slice none 0 0] 63)) 63 #[.int .i64 1, .int .i64 0, .slice none 0 0, .slice none 0 0, .slice none 0 0, .int .i64 2, .int .i64 0, .slice (some ⟨w.heap.size + 1, 0, none⟩) 1 1, .slice (some ⟨w.heap.size + 1 + 1 + 1, 0, none⟩) 1 1, .slice (some ⟨w.heap.size + 1 + 1 + 1 + 1, 0, none⟩) 1 1])
  simp only [sz_al] at B0 B1 B3 B4 B5
  have GW := Lib.hid (show w.grownBy ((((((w.alloc (.cells #[.string ⟨#[]⟩, .slice none 0 0, .slice none 0 0, .slice none 0 0, .slice none 0 0, .slice (some ⟨w.heap.size + 1 + 1, 0, none⟩) 3 3, .slice none 0 0, .slice (some ⟨w.heap.size + 1 + 1 + 1 + 1 + 1, 0, none⟩) 2 2, .slice none 0 0] 31)).alloc (.cells #[.int .i64 1, .int .i64 1, .int .i64 1] 51)).alloc (.cells #[.string ⟨#[116]⟩, .slice none 0 0, .slice none 0 0, .int .i64 0, .slice none 0 0, .int .i64 0, .string ⟨#[117]⟩, .slice none 0 0, .slice none 0 0, .int .i64 0, .slice none 0 0, .int .i64 0, .string ⟨#[118]⟩, .slice none 0 0, .slice none 0 0, .int .i64 0, .slice none 0 0, .int .i64 0] 118)).alloc (.cells #[.int .i64 1, .int .i64 1, .slice none 0 0, .slice none 0 0, .slice none 0 0] 63)).alloc (.cells #[.int .i64 1, .int .i64 2, .slice none 0 0, .slice none 0 0, .slice none 0 0] 63)).alloc (.cells #[.int .i64 1, .int .i64 0, .slice none 0 0, .slice none 0 0, .slice none 0 0, .int .i64 2, .int .i64 0, .slice (some ⟨w.heap.size + 1, 0, none⟩) 1 1, .slice (some ⟨w.heap.size + 1 + 1 + 1, 0, none⟩) 1 1, .slice (some ⟨w.heap.size + 1 + 1 + 1 + 1, 0, none⟩) 1 1] 63)) none from gb_al (gb_al (gb_al (gb_al (gb_al (gb_al (gb_refl _ _)))))))
  have SS := Lib.hid (sm_st _ _ B1 B3 B4 B5)
  clear B1 B3 B4 B5
  go_enter Try.func53, Try.ntmps53
  go_wp2
  generalize ((((((w.alloc (.cells #[.string ⟨#[]⟩, .slice none 0 0, .slice none 0 0, .slice none 0 0, .slice none 0 0, .slice (some ⟨w.heap.size + 1 + 1, 0, none⟩) 3 3, .slice none 0 0, .slice (some ⟨w.heap.size + 1 + 1 + 1 + 1 + 1, 0, none⟩) 2 2, .slice none 0 0] 31)).alloc (.cells #[.int .i64 1, .int .i64 1, .int .i64 1] 51)).alloc (.cells #[.string ⟨#[116]⟩, .slice none 0 0, .slice none 0 0, .int .i64 0, .slice none 0 0, .int .i64 0, .string ⟨#[117]⟩, .slice none 0 0, .slice none 0 0, .int .i64 0, .slice none 0 0, .int .i64 0, .string ⟨#[118]⟩, .slice none 0 0, .slice none 0 0, .int .i64 0, .slice none 0 0, .int .i64 0] 118)).alloc (.cells #[.int .i64 1, .int .i64 1, .slice none 0 0, .slice none 0 0, .slice none 0 0] 63)).alloc (.cells #[.int .i64 1, .int .i64 2, .slice none 0 0, .slice none 0 0, .slice none 0 0] 63)).alloc (.cells #[.int .i64 1, .int .i64 0, .slice none 0 0, .slice none 0 0, .slice none 0 0, .int .i64 2, .int .i64 0, .slice (some ⟨w.heap.size + 1, 0, none⟩) 1 1, .slice (some ⟨w.heap.size + 1 + 1 + 1, 0, none⟩) 1 1, .slice (some ⟨w.heap.size + 1 + 1 + 1 + 1, 0, none⟩) 1 1] 63)) = w6 at *
  have c0 := B0.cell 0
  have c1 := B0.cell 1
  have c2 := B0.cell 2
  have c3 := B0.cell 3
  have c4 := B0.cell 4
  have c5 := B0.cell 5
  have c6 := B0.cell 6
  have c7 := B0.cell 7
  have c8 := B0.cell 8
  dsimp at c0 c1 c2 c3 c4 c5 c6 c7 c8
  refine bodyPost_ret (v := .agg #[.string ⟨#[]⟩, .slice none 0 0, .slice none 0 0, .slice none 0 0, .slice none 0 0, .slice (some ⟨w.heap.size + 1 + 1, 0, none⟩) 3 3, .slice none 0 0, .slice (some ⟨w.heap.size + 1 + 1 + 1 + 1 + 1, 0, none⟩) 2 2, .slice none 0 0]) (by rw [results_cell1 rfl]; go_simp) rfl ⟨w.heap.size, rfl, SS.out, GW.out⟩
end Go.Proofs.Ytfjeonoihdgdoaa
end
section
/- Units: the example of the chapter; no condition. -/
namespace Go.Proofs.Ytfjeonoihdgdoaa
open Go.RowKit
set_option linter.unusedVariables false
def kxS (b : Nat) : KX := ⟨none, 0, 0, ⟨#[]⟩, none, 0, 0, none, 0, 0, none, 0, 0, none, 0, 0, some ⟨b + 1 + 1, 0, none⟩, 3, 3, none, 0, 0, some ⟨b + 1 + 1 + 1 + 1 + 1, 0, none⟩, 2, 2, none, 0, 0, none, 0, 0, none, 0, 0, none, 0, 0, none, 0, 0, none, 0, 0, none, 0, 0⟩
theorem sm_bld (b : Nat) : bldP [] [] 3 (smT b) = [(0, [], []), (-1, [(1, 1, 1)], []), (1, [], [(1, true)]), (2, [], [(1, false)])] := rfl
theorem sm_cnt (b : Nat) : (smT b).cnt = 4 := rfl
theorem sm_cnd (b : Nat) : CndK (smT b) := by
  intro x hx
  have e : (smT b).pre = [⟨1, 0, nil3, [], nil3, .nil, nil3, .nil⟩, smX b, ⟨1, 1, nil3, [], nil3, .nil, nil3, .nil⟩, ⟨1, 2, nil3, [], nil3, .nil, nil3, .nil⟩] := rfl
  rw [e] at hx
  simp only [List.mem_cons, List.not_mem_nil, or_false] at hx
  rcases hx with rfl | rfl | rfl | rfl
  · exact Nat.zero_le _
  · show (1 : Nat) ≤ 10000; decide
  · exact Nat.zero_le _
  · exact Nat.zero_le _
/-- What the example's list answers. -/
structure Ex4 (w : World) (g c : Nat) (L : List Un) (c1 g2 g3 : Sl) : Prop where
  s : SUn w ⟨some ⟨g, 0, none⟩, 4, c⟩ L
  c00 : w.cell? ⟨g, 0, none⟩ = some (.int .i64 0)
  c10 : w.cell? ⟨g, 3, none⟩ = some (.int .i64 (-1))
  c11 : w.cell? ⟨g, 4, none⟩ = some (.slice c1.a 1 c1.c)
  c20 : w.cell? ⟨g, 6, none⟩ = some (.int .i64 1)
  c22 : w.cell? ⟨g, 8, none⟩ = some (.slice g2.a 1 g2.c)
  c30 : w.cell? ⟨g, 9, none⟩ = some (.int .i64 2)
  c32 : w.cell? ⟨g, 11, none⟩ = some (.slice g3.a 1 g3.c)
  g2 : SGd w g2 [(1, true)]
  g3 : SGd w g3 [(1, false)]
  few : ∀ k, k < 4 → (L.getD k uz).g.n ≤ 10000
  x23 : xcU L 2 3 = true
  x02 : xcU L 0 2 = false
  e2 : exU L [false, true, false, false] 2 = true
  e3 : exU L [false, true, false, false] 3 = false
  e0 : exU L [false, true, false, false] 0 = true
theorem ex4 {w : World} {s : Sl} {L : List Un} (hs : SUn w s L) (e : L.map uv = [(0, [], []), (-1, [(1, 1, 1)], []), (1, [], [(1, true)]), (2, [], [(1, false)])]) (ha : ∀ ad, s.a = some ad → ∃ g, ad = ⟨g, 0, none⟩) : ∃ g c c1 g2 g3, s = ⟨some ⟨g, 0, none⟩, 4, c⟩ ∧ Ex4 w g c L c1 g2 g3 := by
  have hl : L.length = 4 := by have := congrArg List.length e; simpa using this
  obtain ⟨sa, n, c⟩ := s
  have hn := hs.len
  dsimp only at hn
  rw [hl] at hn
  subst hn
  obtain ⟨ad, hsa⟩ := hs.some (show (0 : Nat) < 4 by decide)
  obtain ⟨g, rfl⟩ := ha ad hsa
  dsimp only at hsa
  subst hsa
  match L, hl with
  | [U0, U1, U2, U3], _ =>
    obtain ⟨t0, k0, N0, g0, G0⟩ := U0
    obtain ⟨t1, k1, N1, g1, G1⟩ := U1
    obtain ⟨t2, k2, N2, g2, G2⟩ := U2
    obtain ⟨t3, k3, N3, g3, G3⟩ := U3
    simp only [List.map_cons, List.map_nil, uv, List.cons.injEq, Prod.mk.injEq, and_true] at e
    obtain ⟨⟨rfl, rfl, rfl⟩, ⟨rfl, rfl, rfl⟩, ⟨rfl, rfl, rfl⟩, ⟨rfl, rfl, rfl⟩⟩ := e
    have z0 := hs.cells _ rfl 0 (show (0 : Nat) < 4 by decide)
    have z1 := hs.cells _ rfl 1 (show (1 : Nat) < 4 by decide)
    have z2 := hs.cells _ rfl 2 (show (2 : Nat) < 4 by decide)
    have z3 := hs.cells _ rfl 3 (show (3 : Nat) < 4 by decide)
    rw [addr0c] at z0 z1 z2 z3
    have m0 := hs.mem 0 (show (0 : Nat) < 4 by decide)
    have m1 := hs.mem 1 (show (1 : Nat) < 4 by decide)
    have m2 := hs.mem 2 (show (2 : Nat) < 4 by decide)
    have m3 := hs.mem 3 (show (3 : Nat) < 4 by decide)
    obtain ⟨ka, kn, kc⟩ := k1
    obtain ⟨g0a, g0n, g0c⟩ := g0
    obtain ⟨g1a, g1n, g1c⟩ := g1
    obtain ⟨g2a, g2n, g2c⟩ := g2
    obtain ⟨g3a, g3n, g3c⟩ := g3
    have l1 : kn = 1 := m1.1.len.symm
    have l0 : g0n = 0 := m0.2.len.symm
    have l1' : g1n = 0 := m1.2.len.symm
    have l2 : g2n = 1 := m2.2.len.symm
    have l3 : g3n = 1 := m3.2.len.symm
    subst l1 l0 l1' l2 l3
    refine ⟨g, c, ⟨ka, 1, kc⟩, ⟨g2a, 1, g2c⟩, ⟨g3a, 1, g3c⟩, rfl, hs, z0.1, z1.1, z1.2.1, z2.1, z2.2.2, z3.1, z3.2.2, m2.2, m3.2, ?_, rfl, rfl, rfl, rfl, rfl⟩
    intro k hk
    rcases (show k = 0 ∨ k = 1 ∨ k = 2 ∨ k = 3 by omega) with rfl | rfl | rfl | rfl
    · exact Nat.zero_le _
    · exact Nat.zero_le _
    · show (1 : Nat) ≤ 10000; decide
    · show (1 : Nat) ≤ 10000; decide
theorem Ex4.keep {w w2 : World} {g c : Nat} {L : List Un} {c1 g2 g3 : Sl} (h : Ex4 w g c L c1 g2 g3) (k : w.grownBy w2 none) : Ex4 w2 g c L c1 g2 g3 :=
  ⟨h.s.keep0 k, k.cell h.c00 (by simp), k.cell h.c10 (by simp), k.cell h.c11 (by simp), k.cell h.c20 (by simp), k.cell h.c22 (by simp), k.cell h.c30 (by simp), k.cell h.c32 (by simp), h.g2.keep0 k, h.g3.keep0 k, h.few, h.x23, h.x02, h.e2, h.e3, h.e0⟩
theorem addr_nil (ad : Addr) : ad.add 0 = ad := by unfold Addr.add; split <;> simp_all
theorem sm_bits (w : World) : SB (w.alloc (.cells #[.bool false, .bool true, .bool false, .bool false] 4)) (some ⟨w.heap.size, 0, none⟩) 4 4 [false, true, false, false] := by
  have B := IsB.new w 4 #[.bool false, .bool true, .bool false, .bool false]
  refine ⟨rfl, (fun e => by cases e), Nat.le_refl _, fun ad e j hj => ?_⟩
  cases e
  rw [addr0c]
  rcases (show j = 0 ∨ j = 1 ∨ j = 2 ∨ j = 3 by omega) with rfl | rfl | rfl | rfl
  · exact B.cell 0
  · exact B.cell 1
  · exact B.cell 2
  · exact B.cell 3
set_option maxRecDepth 100000 in
set_option maxHeartbeats 8000000 in
theorem awake_any (w : World) : Calls Try.prog 24 #[] w (RetV (.bool true) w) := by
  have SA := Lib.hid (sample_any w)
  have BU := Lib.hid (fun (w3 : World) (b : Nat) (hS : ST w3 ⟨some ⟨b + 1 + 1 + 1 + 1 + 1, 0, none⟩, 2, 2⟩ (smT b)) => build_any w3 (kxS b) [] [] (smT b) hS ⟨⟨rfl, fun _ => ⟨rfl, rfl⟩, Nat.le_refl _, fun ad e => by cases e⟩, sf_nil _⟩ (by rw [sm_cnt]; decide) (sm_cnd b) (show (3 : Nat) ≤ 1000000 by decide))
  unfold RetSm at SA
  unfold RetBu at BU
  dsimp only [kxS] at BU
  go_enter Try.func24, Try.ntmps24
  go_upto_region 2 with (first
    | (go_at_call 53; refine SA.out.mono ?_; clear SA; rintro e w3 ⟨b, rfl, st, g3⟩; have G3 := Lib.hid g3; have S3 := Lib.hid st; clear st g3)
    | (go_at_call 26; refine (BU.out _ _ S3.out).mono ?_; clear BU S3; rintro e w4 ⟨s, L, rfl, su, hL, g4, ha⟩; rw [sm_bld] at hL; obtain ⟨g, c, c1, g2, g3, rfl, x4⟩ := ex4 su hL ha; have G4 := Lib.hid (gb_trans G3.out g4); have X4 := Lib.hid x4; clear su hL g4 ha x4 G3; dsimp only))
  have z00 := X4.out.c00
  have z10 := X4.out.c10
  have z11 := X4.out.c11
  have z20 := X4.out.c20
  have z22 := X4.out.c22
  have z30 := X4.out.c30
  have z32 := X4.out.c32
  go_upto_region 5 with fail
  have G5 := Lib.hid (gb_trans G4.out (gb_alloc w4 (.cells #[.bool false, .bool true, .bool false, .bool false] 4) none))
  have X5 := Lib.hid (X4.out.keep (gb_alloc w4 (.cells #[.bool false, .bool true, .bool false, .bool false] 4) none))
  have B5 := Lib.hid (sm_bits w4)
  clear X4 G4 z00 z10 z11 z20 z30
  generalize w4.alloc (.cells #[.bool false, .bool true, .bool false, .bool false] 4) = w5 at *
  generalize w4.heap.size = p at *
  have z22 := X5.out.c22
  have z32 := X5.out.c32
  obtain ⟨a2, ha2⟩ := X5.out.g2.some (by have := X5.out.g2.len; simp at this; omega)
  obtain ⟨a3, ha3⟩ := X5.out.g3.some (by have := X5.out.g3.len; simp at this; omega)
  obtain ⟨y20, y21⟩ := X5.out.g2.cells a2 ha2 0 (by have := X5.out.g2.len; simp at this; omega)
  obtain ⟨y30, y31⟩ := X5.out.g3.cells a3 ha3 0 (by have := X5.out.g3.len; simp at this; omega)
  rw [ha2] at z22
  rw [ha3] at z32
  rw [Nat.zero_mul, addr_nil] at y20 y21 y30 y31
  rw [show ([(1, true)] : List Gd).getD 0 (0, false) = (1, true) from rfl] at y20 y21
  rw [show ([(1, false)] : List Gd).getD 0 (0, false) = (1, false) from rfl] at y30 y31
  dsimp only at y20 y21 y30 y31
  have XC := Lib.hid (fun (w6 : World) (q : w5.grownBy w6 none) (i j : Int) => uxc_any w6 ⟨some ⟨g, 0, none⟩, 4, c⟩ L (X5.out.s.keep0 q) i j X5.out.few)
  have EX := Lib.hid (fun (w6 : World) (q : w5.grownBy w6 none) (i : Int) => uex_any w6 ⟨some ⟨g, 0, none⟩, 4, c⟩ L (X5.out.s.keep0 q) ⟨some ⟨p, 0, none⟩, 4, 4⟩ [false, true, false, false] (B5.out.keep0 q) i (fun k hk => Nat.le_trans (X5.out.few k hk) (by decide)))
  have Y23 := Lib.hid X5.out.x23
  have Y02 := Lib.hid X5.out.x02
  have Y2 := Lib.hid X5.out.e2
  have Y3 := Lib.hid X5.out.e3
  have Y0 := Lib.hid X5.out.e0
  clear X5 B5
  unfold RetV at XC EX
  dsimp only at XC EX
  go_wp2_with fail
  refine (XC.out _ (gb_refl _ _) _ _).mono ?_
  rintro e w6 ⟨rfl, g6⟩
  rw [Y23.out]
  have G6 := Lib.hid g6
  clear g6 y20 y21 y30 y31 z22 z32
  go_wp2_with fail
  refine (XC.out _ G6.out _ _).mono ?_
  rintro e w7 ⟨rfl, g7⟩
  rw [Y02.out]
  have G7 := Lib.hid (gb_trans G6.out g7)
  clear g7
  go_wp2_with fail
  refine (EX.out _ G7.out _).mono ?_
  rintro e w8 ⟨rfl, g8⟩
  rw [Y2.out]
  have G8 := Lib.hid (gb_trans G7.out g8)
  clear g8
  go_wp2_with fail
  refine (EX.out _ G8.out _).mono ?_
  rintro e w9 ⟨rfl, g9⟩
  rw [Y3.out]
  have G9 := Lib.hid (gb_trans G8.out g9)
  clear g9
  go_wp2_with fail
  refine (EX.out _ G9.out _).mono ?_
  rintro e w10 ⟨rfl, g10⟩
  rw [Y0.out]
  have G10 := Lib.hid (gb_trans G9.out g10)
  clear g10
  go_wp2
  go_ret
  exact ⟨rfl, gb_trans G5.out G10.out⟩
end Go.Proofs.Ytfjeonoihdgdoaa
end
