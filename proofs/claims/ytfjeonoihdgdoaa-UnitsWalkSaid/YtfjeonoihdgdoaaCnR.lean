/- Control: the laws' example; no condition. -/
import Derived.Test.YtfjeonoihdgdoaaMga
import Derived.Test.YtfjeonoihdgdoaaCnG
namespace Go.Proofs.Ytfjeonoihdgdoaa
open Go.RowKit
set_option linter.unusedVariables false
def nil3 : Sl := ⟨none, 0, 0⟩
def wkA : CT := .cons 1 4 nil3 [] nil3 .nil nil3 .nil .nil
def wkB : CT := .cons 3 2 nil3 [] nil3 .nil nil3 .nil (.cons 1 7 nil3 [] nil3 .nil nil3 .nil .nil)
def wkT (g : Nat) : CT := .cons 2 0 nil3 [] ⟨some ⟨g, 0, none⟩, 1, 1⟩ wkA ⟨some ⟨g + 1, 0, none⟩, 2, 2⟩ wkB .nil
theorem sn_nil0 (w : World) : SN w none 0 0 [] := ⟨rfl, fun _ => ⟨rfl, rfl⟩, Nat.le_refl _, (fun ad e => by cases e), (fun x hx => by cases hx)⟩
theorem vm_leaf (w : World) (k t : Int) : VM w ⟨k, t, nil3, [], nil3, .nil, nil3, .nil⟩ := ⟨sn_nil0 w, ST.nilv w, ST.nilv w⟩
theorem wk_st (w : World) (g : Nat) (b0 : IsB w g 63 #[.int .i64 1, .int .i64 4, .slice none 0 0, .slice none 0 0, .slice none 0 0]) (b1 : IsB w (g + 1) 63 #[.int .i64 3, .int .i64 2, .slice none 0 0, .slice none 0 0, .slice none 0 0, .int .i64 1, .int .i64 7, .slice none 0 0, .slice none 0 0, .slice none 0 0])
    (b2 : IsB w (g + 1 + 1) 63 #[.int .i64 2, .int .i64 0, .slice none 0 0, .slice (some ⟨g, 0, none⟩) 1 1, .slice (some ⟨g + 1, 0, none⟩) 2 2]) : ST w ⟨some ⟨g + 1 + 1, 0, none⟩, 1, 1⟩ (wkT g) := by
  have sA : ST w ⟨some ⟨g, 0, none⟩, 1, 1⟩ wkA := by
    refine ⟨rfl, (fun e => by cases e), Nat.le_refl _, fun ad e => ?_⟩
    cases e
    refine ctm_mk (x := ⟨1, 4, nil3, [], nil3, .nil, nil3, .nil⟩) ?_ (vm_leaf w 1 4) trivial
    rw [addr0c]
    exact ⟨b0.cell 0, b0.cell 1, b0.cell 2, b0.cell 3, b0.cell 4⟩
  have sB : ST w ⟨some ⟨g + 1, 0, none⟩, 2, 2⟩ wkB := by
    refine ⟨rfl, (fun e => by cases e), Nat.le_refl _, fun ad e => ?_⟩
    cases e
    refine ctm_mk (x := ⟨3, 2, nil3, [], nil3, .nil, nil3, .nil⟩) ?_ (vm_leaf w 3 2) (ctm_mk (x := ⟨1, 7, nil3, [], nil3, .nil, nil3, .nil⟩) ?_ (vm_leaf w 1 7) trivial)
    · rw [addr0c]
      exact ⟨b1.cell 0, b1.cell 1, b1.cell 2, b1.cell 3, b1.cell 4⟩
    · rw [addr0c]
      exact ⟨b1.cell 5, b1.cell 6, b1.cell 7, b1.cell 8, b1.cell 9⟩
  refine ⟨rfl, (fun e => by cases e), Nat.le_refl _, fun ad e => ?_⟩
  cases e
  refine ctm_mk (x := ⟨2, 0, nil3, [], ⟨some ⟨g, 0, none⟩, 1, 1⟩, wkA, ⟨some ⟨g + 1, 0, none⟩, 2, 2⟩, wkB⟩) ?_ ⟨sn_nil0 w, sA, sB⟩ trivial
  rw [addr0c]
  exact ⟨b2.cell 0, b2.cell 1, b2.cell 2, b2.cell 3, b2.cell 4⟩
theorem nl_sz2 {w : World} {base n c : Nat} {a : Option Addr} {L : List Int} (h : NL w base (.slice a n c) L) (hl : n = L.length) : SZ w a n c L := by
  subst hl
  have cp := own_cap h
  have s := h.slr rfl
  exact ⟨rfl, fun e => s.2.1 e, cp, fun ad e j hj => s.2.2 ad e j (.int .i64 (L.getD j 0)) (by simp [hj])⟩
theorem wk_ints (w : World) (t : TypeId) : SZ (w.alloc (.cells #[.int .i64 4, .int .i64 2, .int .i64 7] t)) (some ⟨w.heap.size, 0, none⟩) 3 3 [4, 2, 7] := by
  refine ⟨rfl, (fun e => by cases e), Nat.le_refl _, fun ad e j hj => ?_⟩
  cases e
  rw [addr0c, (IsB.new w t _).cell j]
  rcases (show j = 0 ∨ j = 1 ∨ j = 2 by omega) with rfl | rfl | rfl <;> rfl
/-- A program of which the control flow alone is there. -/
def kxC (s : Sl) : KX := ⟨none, 0, 0, ⟨#[]⟩, none, 0, 0, none, 0, 0, none, 0, 0, none, 0, 0, none, 0, 0, none, 0, 0, s.a, s.n, s.c, none, 0, 0, none, 0, 0, none, 0, 0, none, 0, 0, none, 0, 0, none, 0, 0, none, 0, 0⟩
theorem kxC_pr (w : World) (s : Sl) : PR w (kxC s) [] [] := ⟨⟨rfl, fun _ => ⟨rfl, rfl⟩, Nat.le_refl _, fun ad e => by cases e⟩, sf_nil _⟩
theorem wk_chk (g : Nat) : (chkC [] [] 0 (wkT g)) = (0, 3) := rfl
theorem wk_cnt (g : Nat) : (wkT g).cnt = 4 := rfl
theorem wk_nest (g : Nat) : (wkT g).nest = 2 := rfl
theorem wk_tab (g : Nat) : tabL (wkT g).pre = [4, 2, 7] := rfl
theorem wk_node (g : Nat) : nodA (wkT g).pre 3 = some ⟨1, 7, nil3, [], nil3, .nil, nil3, .nil⟩ := rfl
theorem wk_cnd (g : Nat) : Cnd (wkT g) := by
  intro x hx
  have e : (wkT g).pre = [⟨2, 0, nil3, [], ⟨some ⟨g, 0, none⟩, 1, 1⟩, wkA, ⟨some ⟨g + 1, 0, none⟩, 2, 2⟩, wkB⟩, ⟨1, 4, nil3, [], nil3, .nil, nil3, .nil⟩, ⟨3, 2, nil3, [], nil3, .nil, nil3, .nil⟩, ⟨1, 7, nil3, [], nil3, .nil, nil3, .nil⟩] := rfl
  rw [e] at hx
  simp only [List.mem_cons, List.not_mem_nil, or_false] at hx
  rcases hx with rfl | rfl | rfl | rfl <;> exact Nat.zero_le _
set_option maxRecDepth 100000 in
set_option maxHeartbeats 16000000 in
theorem works20_any (w : World) : Calls Try.prog 16 #[] w (RetV (.bool true) w) := by
  obtain ⟨w3, hw3⟩ : ∃ w3, w3 = ((w.alloc (.cells #[.int .i64 1, .int .i64 4, .slice none 0 0, .slice none 0 0, .slice none 0 0] 63)).alloc (.cells #[.int .i64 3, .int .i64 2, .slice none 0 0, .slice none 0 0, .slice none 0 0, .int .i64 1, .int .i64 7, .slice none 0 0, .slice none 0 0, .slice none 0 0] 63)).alloc (.cells #[.int .i64 2, .int .i64 0, .slice none 0 0, .slice (some ⟨w.heap.size, 0, none⟩) 1 1, .slice (some ⟨w.heap.size + 1, 0, none⟩) 2 2] 63) := ⟨_, rfl⟩
  have b0 := ((IsB.new w 63 #[.int .i64 1, .int .i64 4, .slice none 0 0, .slice none 0 0, .slice none 0 0]).alloc (.cells #[.int .i64 3, .int .i64 2, .slice none 0 0, .slice none 0 0, .slice none 0 0, .int .i64 1, .int .i64 7, .slice none 0 0, .slice none 0 0, .slice none 0 0] 63)).alloc (.cells #[.int .i64 2, .int .i64 0, .slice none 0 0, .slice (some ⟨w.heap.size, 0, none⟩) 1 1, .slice (some ⟨w.heap.size + 1, 0, none⟩) 2 2] 63)
  have b1 := (IsB.new (w.alloc (.cells #[.int .i64 1, .int .i64 4, .slice none 0 0, .slice none 0 0, .slice none 0 0] 63)) 63 #[.int .i64 3, .int .i64 2, .slice none 0 0, .slice none 0 0, .slice none 0 0, .int .i64 1, .int .i64 7, .slice none 0 0, .slice none 0 0, .slice none 0 0]).alloc (.cells #[.int .i64 2, .int .i64 0, .slice none 0 0, .slice (some ⟨w.heap.size, 0, none⟩) 1 1, .slice (some ⟨w.heap.size + 1, 0, none⟩) 2 2] 63)
  have b2 := IsB.new ((w.alloc (.cells #[.int .i64 1, .int .i64 4, .slice none 0 0, .slice none 0 0, .slice none 0 0] 63)).alloc (.cells #[.int .i64 3, .int .i64 2, .slice none 0 0, .slice none 0 0, .slice none 0 0, .int .i64 1, .int .i64 7, .slice none 0 0, .slice none 0 0, .slice none 0 0] 63)) 63 #[.int .i64 2, .int .i64 0, .slice none 0 0, .slice (some ⟨w.heap.size, 0, none⟩) 1 1, .slice (some ⟨w.heap.size + 1, 0, none⟩) 2 2]
  rw [sz_al] at b1
  rw [sz_al, sz_al] at b2
  have ST3 := Lib.hid (show ST w3 ⟨some ⟨w.heap.size + 1 + 1, 0, none⟩, 1, 1⟩ (wkT w.heap.size) by rw [hw3]; exact wk_st _ _ b0 b1 b2)
  have G3 := Lib.hid (show w.grownBy w3 none by rw [hw3]; exact gb_al (gb_al (gb_al (gb_refl _ _))))
  have W3 := Lib.hid hw3
  clear hw3 b0 b1 b2
  go_enter Try.func16, Try.ntmps16
  go_upto_region 2 with fail
  rw [← W3.out]
  clear W3
  obtain ⟨g, hg⟩ : ∃ g, g = w.heap.size := ⟨_, rfl⟩
  rw [← hg] at ST3 ⊢
  clear hg
  have KN := Lib.hid (fun (w2 : World) (q : w3.grownBy w2 none) => knode_any w2 ⟨some ⟨g + 1 + 1, 0, none⟩, 1, 1⟩ (wkT g) (ST3.out.keep0 q) (by rw [wk_cnt]; decide) (wk_cnd g) 3)
  have KK := Lib.hid (fun (w2 : World) (q : w3.grownBy w2 none) => kchk_any w2 (kxC ⟨some ⟨g + 1 + 1, 0, none⟩, 1, 1⟩) [] [] (wkT g) (ST3.out.keep0 q) (kxC_pr _ _) (by rw [wk_cnt]; decide) (Nat.zero_le _))
  have KC := Lib.hid (fun (w2 : World) (q : w3.grownBy w2 none) => count_any w2 ⟨some ⟨g + 1 + 1, 0, none⟩, 1, 1⟩ (wkT g) (ST3.out.keep0 q) (by rw [wk_cnt]; decide))
  have KE := Lib.hid (fun (w2 : World) (q : w3.grownBy w2 none) => knest_any w2 ⟨some ⟨g + 1 + 1, 0, none⟩, 1, 1⟩ (wkT g) (ST3.out.keep0 q) (by rw [wk_cnt]; decide))
  have KT := Lib.hid (fun (w2 : World) (q : w3.grownBy w2 none) => ktables_any w2 ⟨some ⟨g + 1 + 1, 0, none⟩, 1, 1⟩ (wkT g) (ST3.out.keep0 q) (by rw [wk_cnt]; decide))
  unfold RetKN at KN
  unfold RetCk at KK
  unfold RetV at KC KE
  unfold RetNL at KT
  rw [wk_node] at KN
  rw [wk_cnt] at KC
  rw [wk_nest] at KE
  rw [wk_tab] at KT
  rw [show chkC [] [] (kxC ⟨some ⟨g + 1 + 1, 0, none⟩, 1, 1⟩).n2 (wkT g) = (0, 3) from rfl] at KK
  dsimp only [kxC, Option.getD_some, Option.isSome_some] at KN KK KC KE KT
  generalize wkT g = TT at *
  go_upto_region 3 with (go_at_call 22; refine (KN.out _ (gb_refl _ _)).mono ?_; clear KN; rintro e w4 ⟨y, rfl, eqn, vm, g4⟩; obtain ⟨yk, yt, ⟨ca, cn, cc⟩, N, ⟨ta, tn, tc⟩, th, ⟨ea, en, ec⟩, el⟩ := y; have h7 := eqn.t; dsimp only at h7; subst h7; have G4 := Lib.hid g4; clear eqn vm g4; dsimp only [CV.cs, Sl.v])
  have B5 := Lib.hid (IsB.new w4 63 #[.int .i64 yk, .int .i64 7, .slice ca cn cc, .slice ta tn tc, .slice ea en ec])
  have G5 := Lib.hid (gb_trans G4.out (gb_alloc w4 (.cells #[.int .i64 yk, .int .i64 7, .slice ca cn cc, .slice ta tn tc, .slice ea en ec] 63) none))
  generalize w4.alloc (.cells #[.int .i64 yk, .int .i64 7, .slice ca cn cc, .slice ta tn tc, .slice ea en ec] 63) = w5 at *
  generalize w4.heap.size = b5 at *
  go_upto_region 4 with (go_at_call 43; refine (KK.out _ G5.out).mono ?_; clear KK; rintro e w6 ⟨rfl, g6⟩; have G6 := Lib.hid (gb_trans G5.out g6); have B6 := Lib.hid (B5.out.keep0 g6); clear g6)
  go_wp2_with (first
    | (go_at_call 21; refine (KC.out _ G6.out).mono ?_; clear KC; rintro e w7 ⟨rfl, g7⟩; have G7 := Lib.hid (gb_trans G6.out g7); have B7 := Lib.hid (B6.out.keep0 g7); clear g7)
    | (go_at_call 44; refine (KE.out _ G7.out).mono ?_; clear KE; rintro e w8 ⟨rfl, g8⟩; have G8 := Lib.hid (gb_trans G7.out g8); have B8 := Lib.hid (B7.out.keep0 g8); clear g8; have b81 := B8.out.cell 1; dsimp at b81)
    | (go_at_call 20; refine (KT.out _ G8.out).mono ?_; clear KT b81; rintro e w9 ⟨a9, c9, rfl, n9, g9⟩; have G9 := Lib.hid (gb_trans G8.out g9); have Z9 := Lib.hid ((nl_sz2 n9 rfl).keep0 (gb_alloc w9 (.cells #[.int .i64 4, .int .i64 2, .int .i64 7] 3) none)); have Y9 := Lib.hid (wk_ints w9 3); clear n9 g9)
    | (go_at_call 40; refine (eqi_any _ _ _ _ _ _ _ [4, 2, 7] [4, 2, 7] Z9.out Y9.out (by decide) (by decide)).mono ?_; rintro e w10 ⟨rfl, g10⟩; have G10 := Lib.hid (gb_trans (gb_trans G9.out (gb_alloc w9 (.cells #[.int .i64 4, .int .i64 2, .int .i64 7] 3) none)) g10); clear g10; rw [decide_eq_true rfl]))
  go_ret
  exact ⟨rfl, gb_trans G3.out G10.out⟩
end Go.Proofs.Ytfjeonoihdgdoaa
