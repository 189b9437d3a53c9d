/- Units: the law's sample; no condition. -/
import Derived.Test.YtfjeonoihdgdoaaUnJ
import Derived.Test.YtfjeonoihdgdoaaCnR
namespace Go.Proofs.Ytfjeonoihdgdoaa
open Go.RowKit
set_option linter.unusedVariables false
def smA : CT := .cons 1 1 nil3 [] nil3 .nil nil3 .nil .nil
def smB2 : CT := .cons 1 2 nil3 [] nil3 .nil nil3 .nil .nil
def smX (b : Nat) : CV := ⟨2, 0, ⟨some ⟨b + 1, 0, none⟩, 1, 1⟩, [(1, 1, 1)], ⟨some ⟨b + 1 + 1 + 1, 0, none⟩, 1, 1⟩, smA, ⟨some ⟨b + 1 + 1 + 1 + 1, 0, none⟩, 1, 1⟩, smB2⟩
def smT (b : Nat) : CT := .cons 1 0 nil3 [] nil3 .nil nil3 .nil ((smX b).ct .nil)
theorem sm_st (w : World) (b : Nat) (b1 : IsB w (b + 1) 51 #[.int .i64 1, .int .i64 1, .int .i64 1]) (b3 : IsB w (b + 1 + 1 + 1) 63 #[.int .i64 1, .int .i64 1, .slice none 0 0, .slice none 0 0, .slice none 0 0]) (b4 : IsB w (b + 1 + 1 + 1 + 1) 63 #[.int .i64 1, .int .i64 2, .slice none 0 0, .slice none 0 0, .slice none 0 0])
    (b5 : IsB w (b + 1 + 1 + 1 + 1 + 1) 63 #[.int .i64 1, .int .i64 0, .slice none 0 0, .slice none 0 0, .slice none 0 0, .int .i64 2, .int .i64 0, .slice (some ⟨b + 1, 0, none⟩) 1 1, .slice (some ⟨b + 1 + 1 + 1, 0, none⟩) 1 1, .slice (some ⟨b + 1 + 1 + 1 + 1, 0, none⟩) 1 1]) : ST w ⟨some ⟨b + 1 + 1 + 1 + 1 + 1, 0, none⟩, 2, 2⟩ (smT b) := by
  have sA : ST w ⟨some ⟨b + 1 + 1 + 1, 0, none⟩, 1, 1⟩ smA := by
    refine ⟨rfl, (fun e => by cases e), Nat.le_refl _, fun ad e => ?_⟩
    cases e
    refine ctm_mk (x := ⟨1, 1, nil3, [], nil3, .nil, nil3, .nil⟩) ?_ (vm_leaf w 1 1) trivial
    rw [addr0c]
    exact ⟨b3.cell 0, b3.cell 1, b3.cell 2, b3.cell 3, b3.cell 4⟩
  have sB : ST w ⟨some ⟨b + 1 + 1 + 1 + 1, 0, none⟩, 1, 1⟩ smB2 := by
    refine ⟨rfl, (fun e => by cases e), Nat.le_refl _, fun ad e => ?_⟩
    cases e
    refine ctm_mk (x := ⟨1, 2, nil3, [], nil3, .nil, nil3, .nil⟩) ?_ (vm_leaf w 1 2) trivial
    rw [addr0c]
    exact ⟨b4.cell 0, b4.cell 1, b4.cell 2, b4.cell 3, b4.cell 4⟩
  have sE : SN w (some ⟨b + 1, 0, none⟩) 1 1 [(1, 1, 1)] := by
    refine ⟨rfl, (fun e => by cases e), Nat.le_refl _, fun ad e j hj => ?_, fun x hx => ?_⟩
    · cases e
      have hj0 : j = 0 := by omega
      subst hj0
      rw [addr0c]
      exact ⟨b1.cell 0, b1.cell 1, b1.cell 2⟩
    · rw [List.mem_singleton] at hx
      subst hx
      decide
  refine ⟨rfl, (fun e => by cases e), Nat.le_refl _, fun ad e => ?_⟩
  cases e
  refine ctm_mk (x := ⟨1, 0, nil3, [], nil3, .nil, nil3, .nil⟩) ?_ (vm_leaf w 1 0) ?_
  · rw [addr0c]
    exact ⟨b5.cell 0, b5.cell 1, b5.cell 2, b5.cell 3, b5.cell 4⟩
  · refine ctm_mk (x := smX b) ?_ ⟨sE, sA, sB⟩ trivial
    rw [addr0c]
    exact ⟨b5.cell 5, b5.cell 6, b5.cell 7, b5.cell 8, b5.cell 9⟩
def RetSm (w : World) (e : Ending) (w' : World) : Prop := ∃ b, e = .returned (.agg #[.string ⟨#[]⟩, .slice none 0 0, .slice none 0 0, .slice none 0 0, .slice none 0 0, .slice (some ⟨b + 1 + 1, 0, none⟩) 3 3, .slice none 0 0, .slice (some ⟨b + 1 + 1 + 1 + 1 + 1, 0, none⟩) 2 2, .slice none 0 0]) ∧ ST w' ⟨some ⟨b + 1 + 1 + 1 + 1 + 1, 0, none⟩, 2, 2⟩ (smT b) ∧ w.grownBy w' none
set_option maxRecDepth 100000 in
set_option maxHeartbeats 8000000 in
theorem sample_any (w : World) : Calls Try.prog 53 #[] w (RetSm w) := by
  have B0 := ((((((IsB.new w 31 #[.string ⟨#[]⟩, .slice none 0 0, .slice none 0 0, .slice none 0 0, .slice none 0 0, .slice (some ⟨w.heap.size + 1 + 1, 0, none⟩) 3 3, .slice none 0 0, .slice (some ⟨w.heap.size + 1 + 1 + 1 + 1 + 1, 0, none⟩) 2 2, .slice none 0 0]).alloc (.cells #[.int .i64 1, .int .i64 1, .int .i64 1] 51)).alloc (.cells #[.string ⟨#[116]⟩, .slice none 0 0, .slice none 0 0, .int .i64 0, .slice none 0 0, .int .i64 0, .string ⟨#[117]⟩, .slice none 0 0, .slice none 0 0, .int .i64 0, .slice none 0 0, .int .i64 0, .string ⟨#[118]⟩, .slice none 0 0, .slice none 0 0, .int .i64 0, .slice none 0 0, .int .i64 0] 118)).alloc (.cells #[.int .i64 1, .int .i64 1, .slice none 0 0, .slice none 0 0, .slice none 0 0] 63)).alloc (.cells #[.int .i64 1, .int .i64 2, .slice none 0 0, .slice none 0 0, .slice none 0 0] 63)).alloc (.cells #[.int .i64 1, .int .i64 0, .slice none 0 0, .slice none 0 0, .slice none 0 0, .int .i64 2, .int .i64 0, .slice (some ⟨w.heap.size + 1, 0, none⟩) 1 1, .slice (some ⟨w.heap.size + 1 + 1 + 1, 0, none⟩) 1 1, .slice (some ⟨w.heap.size + 1 + 1 + 1 + 1, 0, none⟩) 1 1] 63))
  have B1 := (((((IsB.new (w.alloc (.cells #[.string ⟨#[]⟩, .slice none 0 0, .slice none 0 0, .slice none 0 0, .slice none 0 0, .slice (some ⟨w.heap.size + 1 + 1, 0, none⟩) 3 3, .slice none 0 0, .slice (some ⟨w.heap.size + 1 + 1 + 1 + 1 + 1, 0, none⟩) 2 2, .slice none 0 0] 31)) 51 #[.int .i64 1, .int .i64 1, .int .i64 1]).alloc (.cells #[.string ⟨#[116]⟩, .slice none 0 0, .slice none 0 0, .int .i64 0, .slice none 0 0, .int .i64 0, .string ⟨#[117]⟩, .slice none 0 0, .slice none 0 0, .int .i64 0, .slice none 0 0, .int .i64 0, .string ⟨#[118]⟩, .slice none 0 0, .slice none 0 0, .int .i64 0, .slice none 0 0, .int .i64 0] 118)).alloc (.cells #[.int .i64 1, .int .i64 1, .slice none 0 0, .slice none 0 0, .slice none 0 0] 63)).alloc (.cells #[.int .i64 1, .int .i64 2, .slice none 0 0, .slice none 0 0, .slice none 0 0] 63)).alloc (.cells #[.int .i64 1, .int .i64 0, .slice none 0 0, .slice none 0 0, .slice none 0 0, .int .i64 2, .int .i64 0, .slice (some ⟨w.heap.size + 1, 0, none⟩) 1 1, .slice (some ⟨w.heap.size + 1 + 1 + 1, 0, none⟩) 1 1, .slice (some ⟨w.heap.size + 1 + 1 + 1 + 1, 0, none⟩) 1 1] 63))
  have B3 := (((IsB.new (((w.alloc (.cells #[.string ⟨#[]⟩, .slice none 0 0, .slice none 0 0, .slice none 0 0, .slice none 0 0, .slice (some ⟨w.heap.size + 1 + 1, 0, none⟩) 3 3, .slice none 0 0, .slice (some ⟨w.heap.size + 1 + 1 + 1 + 1 + 1, 0, none⟩) 2 2, .slice none 0 0] 31)).alloc (.cells #[.int .i64 1, .int .i64 1, .int .i64 1] 51)).alloc (.cells #[.string ⟨#[116]⟩, .slice none 0 0, .slice none 0 0, .int .i64 0, .slice none 0 0, .int .i64 0, .string ⟨#[117]⟩, .slice none 0 0, .slice none 0 0, .int .i64 0, .slice none 0 0, .int .i64 0, .string ⟨#[118]⟩, .slice none 0 0, .slice none 0 0, .int .i64 0, .slice none 0 0, .int .i64 0] 118)) 63 #[.int .i64 1, .int .i64 1, .slice none 0 0, .slice none 0 0, .slice none 0 0]).alloc (.cells #[.int .i64 1, .int .i64 2, .slice none 0 0, .slice none 0 0, .slice none 0 0] 63)).alloc (.cells #[.int .i64 1, .int .i64 0, .slice none 0 0, .slice none 0 0, .slice none 0 0, .int .i64 2, .int .i64 0, .slice (some ⟨w.heap.size + 1, 0, none⟩) 1 1, .slice (some ⟨w.heap.size + 1 + 1 + 1, 0, none⟩) 1 1, .slice (some ⟨w.heap.size + 1 + 1 + 1 + 1, 0, none⟩) 1 1] 63))
  have B4 := ((IsB.new ((((w.alloc (.cells #[.string ⟨#[]⟩, .slice none 0 0, .slice none 0 0, .slice none 0 0, .slice none 0 0, .slice (some ⟨w.heap.size + 1 + 1, 0, none⟩) 3 3, .slice none 0 0, .slice (some ⟨w.heap.size + 1 + 1 + 1 + 1 + 1, 0, none⟩) 2 2, .slice none 0 0] 31)).alloc (.cells #[.int .i64 1, .int .i64 1, .int .i64 1] 51)).alloc (.cells #[.string ⟨#[116]⟩, .slice none 0 0, .slice none 0 0, .int .i64 0, .slice none 0 0, .int .i64 0, .string ⟨#[117]⟩, .slice none 0 0, .slice none 0 0, .int .i64 0, .slice none 0 0, .int .i64 0, .string ⟨#[118]⟩, .slice none 0 0, .slice none 0 0, .int .i64 0, .slice none 0 0, .int .i64 0] 118)).alloc (.cells #[.int .i64 1, .int .i64 1, .slice none 0 0, .slice none 0 0, .slice none 0 0] 63)) 63 #[.int .i64 1, .int .i64 2, .slice none 0 0, .slice none 0 0, .slice none 0 0]).alloc (.cells #[.int .i64 1, .int .i64 0, .slice none 0 0, .slice none 0 0, .slice none 0 0, .int .i64 2, .int .i64 0, .slice (some ⟨w.heap.size + 1, 0, none⟩) 1 1, .slice (some ⟨w.heap.size + 1 + 1 + 1, 0, none⟩) 1 1, .slice (some ⟨w.heap.size + 1 + 1 + 1 + 1, 0, none⟩) 1 1] 63))
  have B5 := (IsB.new (((((w.alloc (.cells #[.string ⟨#[]⟩, .slice none 0 0, .slice none 0 0, .slice none 0 0, .slice none 0 0, .slice (some ⟨w.heap.size + 1 + 1, 0, none⟩) 3 3, .slice none 0 0, .slice (some ⟨w.heap.size + 1 + 1 + 1 + 1 + 1, 0, none⟩) 2 2, .slice none 0 0] 31)).alloc (.cells #[.int .i64 1, .int .i64 1, .int .i64 1] 51)).alloc (.cells #[.string ⟨#[116]⟩, .slice none 0 0, .slice none 0 0, .int .i64 0, .slice none 0 0, .int .i64 0, .string ⟨#[117]⟩, .slice none 0 0, .slice none 0 0, .int .i64 0, .slice none 0 0, .int .i64 0, .string ⟨#[118]⟩, .slice none 0 0, .slice none 0 0, .int .i64 0, .slice none 0 0, .int .i64 0] 118)).alloc (.cells #[.int .i64 1, .int .i64 1, .slice none 0 0, .slice none 0 0, .slice none 0 0] 63)).alloc (.cells #[.int .i64 1, .int .i64 2, .slice none 0 0, .slice none 0 0, .slice none 0 0] 63)) 63 #[.int .i64 1, .int .i64 0, .slice none 0 0, .slice none 0 0, .slice none 0 0, .int .i64 2, .int .i64 0, .slice (some ⟨w.heap.size + 1, 0, none⟩) 1 1, .slice (some ⟨w.heap.size + 1 + 1 + 1, 0, none⟩) 1 1, .slice (some ⟨w.heap.size + 1 + 1 + 1 + 1, 0, none⟩) 1 1])
  simp only [sz_al] at B0 B1 B3 B4 B5
  have GW := Lib.hid (show w.grownBy ((((((w.alloc (.cells #[.string ⟨#[]⟩, .slice none 0 0, .slice none 0 0, .slice none 0 0, .slice none 0 0, .slice (some ⟨w.heap.size + 1 + 1, 0, none⟩) 3 3, .slice none 0 0, .slice (some ⟨w.heap.size + 1 + 1 + 1 + 1 + 1, 0, none⟩) 2 2, .slice none 0 0] 31)).alloc (.cells #[.int .i64 1, .int .i64 1, .int .i64 1] 51)).alloc (.cells #[.string ⟨#[116]⟩, .slice none 0 0, .slice none 0 0, .int .i64 0, .slice none 0 0, .int .i64 0, .string ⟨#[117]⟩, .slice none 0 0, .slice none 0 0, .int .i64 0, .slice none 0 0, .int .i64 0, .string ⟨#[118]⟩, .slice none 0 0, .slice none 0 0, .int .i64 0, .slice none 0 0, .int .i64 0] 118)).alloc (.cells #[.int .i64 1, .int .i64 1, .slice none 0 0, .slice none 0 0, .slice none 0 0] 63)).alloc (.cells #[.int .i64 1, .int .i64 2, .slice none 0 0, .slice none 0 0, .slice none 0 0] 63)).alloc (.cells #[.int .i64 1, .int .i64 0, .slice none 0 0, .slice none 0 0, .slice none 0 0, .int .i64 2, .int .i64 0, .slice (some ⟨w.heap.size + 1, 0, none⟩) 1 1, .slice (some ⟨w.heap.size + 1 + 1 + 1, 0, none⟩) 1 1, .slice (some ⟨w.heap.size + 1 + 1 + 1 + 1, 0, none⟩) 1 1] 63)) none from gb_al (gb_al (gb_al (gb_al (gb_al (gb_al (gb_refl _ _)))))))
  have SS := Lib.hid (sm_st _ _ B1 B3 B4 B5)
  clear B1 B3 B4 B5
  go_enter Try.func53, Try.ntmps53
  go_wp2
  generalize ((((((w.alloc (.cells #[.string ⟨#[]⟩, .slice none 0 0, .slice none 0 0, .slice none 0 0, .slice none 0 0, .slice (some ⟨w.heap.size + 1 + 1, 0, none⟩) 3 3, .slice none 0 0, .slice (some ⟨w.heap.size + 1 + 1 + 1 + 1 + 1, 0, none⟩) 2 2, .slice none 0 0] 31)).alloc (.cells #[.int .i64 1, .int .i64 1, .int .i64 1] 51)).alloc (.cells #[.string ⟨#[116]⟩, .slice none 0 0, .slice none 0 0, .int .i64 0, .slice none 0 0, .int .i64 0, .string ⟨#[117]⟩, .slice none 0 0, .slice none 0 0, .int .i64 0, .slice none 0 0, .int .i64 0, .string ⟨#[118]⟩, .slice none 0 0, .slice none 0 0, .int .i64 0, .slice none 0 0, .int .i64 0] 118)).alloc (.cells #[.int .i64 1, .int .i64 1, .slice none 0 0, .slice none 0 0, .slice none 0 0] 63)).alloc (.cells #[.int .i64 1, .int .i64 2, .slice none 0 0, .slice none 0 0, .slice none 0 0] 63)).alloc (.cells #[.int .i64 1, .int .i64 0, .slice none 0 0, .slice none 0 0, .slice none 0 0, .int .i64 2, .int .i64 0, .slice (some ⟨w.heap.size + 1, 0, none⟩) 1 1, .slice (some ⟨w.heap.size + 1 + 1 + 1, 0, none⟩) 1 1, .slice (some ⟨w.heap.size + 1 + 1 + 1 + 1, 0, none⟩) 1 1] 63)) = w6 at *
  have c0 := B0.cell 0
  have c1 := B0.cell 1
  have c2 := B0.cell 2
  have c3 := B0.cell 3
  have c4 := B0.cell 4
  have c5 := B0.cell 5
  have c6 := B0.cell 6
  have c7 := B0.cell 7
  have c8 := B0.cell 8
  dsimp at c0 c1 c2 c3 c4 c5 c6 c7 c8
  refine bodyPost_ret (v := .agg #[.string ⟨#[]⟩, .slice none 0 0, .slice none 0 0, .slice none 0 0, .slice none 0 0, .slice (some ⟨w.heap.size + 1 + 1, 0, none⟩) 3 3, .slice none 0 0, .slice (some ⟨w.heap.size + 1 + 1 + 1 + 1 + 1, 0, none⟩) 2 2, .slice none 0 0]) (by rw [results_cell1 rfl]; go_simp) rfl ⟨w.heap.size, rfl, SS.out, GW.out⟩
end Go.Proofs.Ytfjeonoihdgdoaa
