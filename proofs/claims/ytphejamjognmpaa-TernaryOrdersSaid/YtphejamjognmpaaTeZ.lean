/- Ternary: the walk of TernaryOrders. -/
import Derived.Test.YtphejamjognmpaaTeY
import Derived.Deep.RegionHeld3
import Derived.Deep.RegionWith
namespace Go.Proofs.Ytphejamjognmpaa
open Go.RowKit
set_option linter.unusedVariables false

theorem sub_meet (v m v2 m2 : Nat) (hm : B64 m) (hm2 : B64 m2) (h : subN v m v2 m2 = true) : meetN v m v2 m2 = true := by
  rw [subN_iff _ _ _ _ hm hm2] at h
  exact (meetN_iff _ _ _ _).mpr fun i _ h2 => h.2 i h2
theorem new_old (w : World) (o : Obj) (t : TypeId) (cs : Array Value) : IsB ((w.alloc (.cells cs t)).alloc o) w.heap.size t cs := (IsB.new w t cs).alloc o
theorem isb_last2 (w : World) (o o2 : Obj) (t : TypeId) (cs : Array Value) : IsB (((w.alloc o).alloc o2).alloc (.cells cs t)) (w.heap.size + 1 + 1) t cs := by
  have h := IsB.new ((w.alloc o).alloc o2) t cs
  rwa [alloc_sz, alloc_sz] at h
set_option maxRecDepth 100000 in
set_option maxHeartbeats 20000000 in
theorem orders_ff (a b c d f h : Nat) (W : World) (ha : B64 a) (hb : B64 b) (hc : B64 c) (hd : B64 d) (hf : B64 f) (hh : B64 h) (hp : subN a b c d = false) (hmeet : meetN a b c d = false) : Calls Try.prog 7 #[.agg #[.int .u64 a, .int .u64 b], .agg #[.int .u64 c, .int .u64 d], .agg #[.int .u64 f, .int .u64 h]] W (HoldsT W) := by
  have SAA := Lib.hid (fun w => subset_any w a b a b ha hb ha hb)
  have SAB := Lib.hid (fun w => subset_any w a b c d ha hb hc hd)
  have MA := Lib.hid (fun w => min_any w a b ha hb)
  have MB := Lib.hid (fun w => min_any w c d hc hd)
  have mal : B64 (minN a b) := Nat.lt_of_le_of_lt Nat.and_le_left ha
  have mbl : B64 (minN c d) := Nat.lt_of_le_of_lt Nat.and_le_left hc
  have CBA := Lib.hid (fun w => contains_any w c d (minN a b) hc hd mal)
  have CAB := Lib.hid (fun w => contains_any w a b (minN c d) ha hb mbl)
  have IN := Lib.hid (fun w => int_any w a b c d ha hb hc hd)
  unfold RetI at IN
  unfold RetV at SAA SAB MA MB CBA CAB
  rw [sub_refl a b hb] at SAA
  rw [hp] at SAB
  rw [hmeet] at IN
  rw [apart_min a b c d hmeet] at CBA
  rw [apart_min c d a b (by rw [meet_comm]; exact hmeet)] at CAB
  rw [(int_none a b c d hmeet).1, (int_none a b c d hmeet).2] at IN
  generalize minN a b = ma at *
  generalize minN c d = mb at *
  clear mal mbl hp hmeet ha hb hc hd hf hh
  have HA1 := Lib.hid ((new_old W (.cells #[.int .u64 c, .int .u64 d] 24) 24 #[.int .u64 a, .int .u64 b]).alloc (.cells #[.int .u64 f, .int .u64 h] 24))
  have HA2 := Lib.hid ((isb_last W (.cells #[.int .u64 a, .int .u64 b] 24) 24 #[.int .u64 c, .int .u64 d]).alloc (.cells #[.int .u64 f, .int .u64 h] 24))
  have HA3 := Lib.hid (isb_last2 W (.cells #[.int .u64 a, .int .u64 b] 24) (.cells #[.int .u64 c, .int .u64 d] 24) 24 #[.int .u64 f, .int .u64 h])
  have G := Lib.hid (al3 W (.cells #[.int .u64 a, .int .u64 b] 24) (.cells #[.int .u64 c, .int .u64 d] 24) (.cells #[.int .u64 f, .int .u64 h] 24))
  go_enter Try.func7, Try.ntmps7
  go_wp2_with fail
  generalize ((W.alloc (.cells #[.int .u64 a, .int .u64 b] 24)).alloc (.cells #[.int .u64 c, .int .u64 d] 24)).alloc (.cells #[.int .u64 f, .int .u64 h] 24) = w0 at *
  refine (SAA.out _).mono ?_
  rintro e w1 ⟨rfl, g1⟩
  have HA1 := Lib.hid (HA1.out.keep0 g1)
  have HA2 := Lib.hid (HA2.out.keep0 g1)
  have HA3 := Lib.hid (HA3.out.keep0 g1)
  have G := Lib.hid (gb_trans G.out g1)
  clear g1
  obtain ⟨a1, a2⟩ := cube_cells HA1.out
  obtain ⟨b1, b2⟩ := cube_cells HA2.out
  obtain ⟨c1, c2⟩ := cube_cells HA3.out
  go_wp2_with fail
  refine (SAB.out _).mono ?_
  rintro e w2 ⟨rfl, g2⟩
  clear a1 a2 b1 b2 c1 c2
  have HA1 := Lib.hid (HA1.out.keep0 g2)
  have HA2 := Lib.hid (HA2.out.keep0 g2)
  have HA3 := Lib.hid (HA3.out.keep0 g2)
  have G := Lib.hid (gb_trans G.out g2)
  clear g2
  obtain ⟨a1, a2⟩ := cube_cells HA1.out
  obtain ⟨b1, b2⟩ := cube_cells HA2.out
  obtain ⟨c1, c2⟩ := cube_cells HA3.out
  go_upto_region 3 with fail
  go_region_with (go_at_call 16; refine (SAB.out _).mono ?_; rintro e w' ⟨rfl, g⟩)
  all_goals (
  have gS : w2.grownBy w' none := gb_trans (gb_drew _ _) g
  clear a1 a2 b1 b2 c1 c2 g
  have HA1 := Lib.hid (HA1.out.keep0 gS)
  have HA2 := Lib.hid (HA2.out.keep0 gS)
  have G := Lib.hid (gb_trans G.out gS)
  clear gS
  obtain ⟨a1, a2⟩ := cube_cells HA1.out
  obtain ⟨b1, b2⟩ := cube_cells HA2.out
  go_wp2_with fail
  clear a1 a2 b1 b2
  refine (IN.out _).mono ?_
  rintro e w5 ⟨rfl, g5⟩
  have HE1 := Lib.hid ((HA1.out.keep0 g5).alloc (.cells #[.int .u64 0, .int .u64 0] 24))
  have HE2 := Lib.hid ((HA2.out.keep0 g5).alloc (.cells #[.int .u64 0, .int .u64 0] 24))
  have HD1 := Lib.hid (IsB.new w5 24 #[.int .u64 0, .int .u64 0])
  have G := Lib.hid (gb_trans G.out (gb_trans g5 (gb_alloc w5 (.cells #[.int .u64 0, .int .u64 0] 24) none)))
  clear g5 HA1 HA2 HA3
  go_upto_region 7 with fail
  generalize w5.alloc (.cells #[.int .u64 0, .int .u64 0] 24) = w6 at *
  generalize w5.heap.size = pd at *
  have KT := Lib.hid (fun (w' : World) (q : w6.grownBy w' none) => (⟨(HD1.out.keep0 q).cell 0, (HD1.out.keep0 q).cell 1, (HE1.out.keep0 q).cell 0, (HE1.out.keep0 q).cell 1, (HE2.out.keep0 q).cell 0, (HE2.out.keep0 q).cell 1, q⟩ : (fun w' => w'.cell? ⟨pd, 0, none⟩ = some (.int .u64 (0 : Int)) ∧ w'.cell? ⟨pd, 1, none⟩ = some (.int .u64 (0 : Int)) ∧ w'.cell? ⟨W.heap.size, 0, none⟩ = some (.int .u64 (a : Int)) ∧ w'.cell? ⟨W.heap.size, 1, none⟩ = some (.int .u64 (b : Int)) ∧ w'.cell? ⟨W.heap.size + 1, 0, none⟩ = some (.int .u64 (c : Int)) ∧ w'.cell? ⟨W.heap.size + 1, 1, none⟩ = some (.int .u64 (d : Int)) ∧ w6.grownBy w' none) w'))
  go_region_held3 (fun w' => w'.cell? ⟨pd, 0, none⟩ = some (.int .u64 (0 : Int)) ∧ w'.cell? ⟨pd, 1, none⟩ = some (.int .u64 (0 : Int)) ∧ w'.cell? ⟨W.heap.size, 0, none⟩ = some (.int .u64 (a : Int)) ∧ w'.cell? ⟨W.heap.size, 1, none⟩ = some (.int .u64 (b : Int)) ∧ w'.cell? ⟨W.heap.size + 1, 0, none⟩ = some (.int .u64 (c : Int)) ∧ w'.cell? ⟨W.heap.size + 1, 1, none⟩ = some (.int .u64 (d : Int)) ∧ w6.grownBy w' none)
    (first
      | assumption
      | exact KT.out _ (by repeat' first
                                | assumption
                                | exact (And.right (And.right (And.right (And.right (And.right (And.right (by assumption)))))))
                                | exact World.grownBy.refl _ _
                                | exact gb_drew _ _
                                | refine gb_trans ?_ (gb_drew _ _)
                                | refine gb_trans ?_ (by assumption)))
    (first
      | (go_at_call_of 23 (Value.agg #[Value.int IntKind.u64 (a : Int), Value.int IntKind.u64 (b : Int)]); refine (MA.out _).mono ?_; rintro e w' ⟨rfl, g⟩)
      | (go_at_call_of 23 (Value.agg #[Value.int IntKind.u64 (c : Int), Value.int IntKind.u64 (d : Int)]); refine (MB.out _).mono ?_; rintro e w' ⟨rfl, g⟩)
      | (go_at_call_of 14 (Value.agg #[Value.int IntKind.u64 (a : Int), Value.int IntKind.u64 (b : Int)]); refine (CAB.out _).mono ?_; rintro e w' ⟨rfl, g⟩)
      | (go_at_call_of 14 (Value.agg #[Value.int IntKind.u64 (c : Int), Value.int IntKind.u64 (d : Int)]); refine (CBA.out _).mono ?_; rintro e w' ⟨rfl, g⟩)
      | (go_at_call 25; refine (awake_any _).mono ?_; rintro e w' ⟨rfl, g⟩))
  have gS : w6.grownBy w' none := (And.right (And.right (And.right (And.right (And.right (And.right (by assumption)))))))
  go_wp2
  go_ret
  exact ⟨rfl, below_of (gb_trans G.out gS)⟩)
set_option maxRecDepth 100000 in
set_option maxHeartbeats 20000000 in
theorem orders_ft (a b c d f h : Nat) (W : World) (ha : B64 a) (hb : B64 b) (hc : B64 c) (hd : B64 d) (hf : B64 f) (hh : B64 h) (hp : subN a b c d = false) (hmeet : meetN a b c d = true) : Calls Try.prog 7 #[.agg #[.int .u64 a, .int .u64 b], .agg #[.int .u64 c, .int .u64 d], .agg #[.int .u64 f, .int .u64 h]] W (HoldsT W) := by
  have SAA := Lib.hid (fun w => subset_any w a b a b ha hb ha hb)
  have SAB := Lib.hid (fun w => subset_any w a b c d ha hb hc hd)
  have MA := Lib.hid (fun w => min_any w a b ha hb)
  have MB := Lib.hid (fun w => min_any w c d hc hd)
  have mal : B64 (minN a b) := Nat.lt_of_le_of_lt Nat.and_le_left ha
  have mbl : B64 (minN c d) := Nat.lt_of_le_of_lt Nat.and_le_left hc
  have CBA := Lib.hid (fun w => contains_any w c d (minN a b) hc hd mal)
  have CAB := Lib.hid (fun w => contains_any w a b (minN c d) ha hb mbl)
  have IN := Lib.hid (fun w => int_any w a b c d ha hb hc hd)
  unfold RetI at IN
  unfold RetV at SAA SAB MA MB CBA CAB
  rw [sub_refl a b hb] at SAA
  rw [hp] at SAB
  rw [hmeet] at IN
  have il := intV_lt a b c d ha hc
  have im := intM_lt a b c d hb hd
  have i2 := int_min a b c d ha hb hc hd hmeet
  have i3 := int_sub a b c d ha hb hc hd hmeet
  have i4 := int_canon a b c d
  generalize intV a b c d = v at *
  generalize intM a b c d = m at *
  have iml : B64 (minN v m) := Nat.lt_of_le_of_lt Nat.and_le_left il
  have SDA := Lib.hid (fun w => subset_any w v m a b il im ha hb)
  have SDB := Lib.hid (fun w => subset_any w v m c d il im hc hd)
  have MD := Lib.hid (fun w => min_any w v m il im)
  have CAD := Lib.hid (fun w => contains_any w a b (minN v m) ha hb iml)
  have CBD := Lib.hid (fun w => contains_any w c d (minN v m) hc hd iml)
  unfold RetV at SDA SDB MD CAD CBD
  rw [i3.1] at SDA
  rw [i3.2] at SDB
  rw [i2.1] at CAD
  rw [i2.2] at CBD
  obtain ⟨y, hy, hyl, ey⟩ := bA v m il im
  rw [i4] at hy
  rw [hy] at ey
  have ev : ((v : Int) == v) = true := by rw [beq_iff_eq]
  generalize minN v m = md at *
  clear i2 i3 i4 hy iml hyl il im
  generalize minN a b = ma at *
  generalize minN c d = mb at *
  clear mal mbl hp hmeet ha hb hc hd hf hh
  have HA1 := Lib.hid ((new_old W (.cells #[.int .u64 c, .int .u64 d] 24) 24 #[.int .u64 a, .int .u64 b]).alloc (.cells #[.int .u64 f, .int .u64 h] 24))
  have HA2 := Lib.hid ((isb_last W (.cells #[.int .u64 a, .int .u64 b] 24) 24 #[.int .u64 c, .int .u64 d]).alloc (.cells #[.int .u64 f, .int .u64 h] 24))
  have HA3 := Lib.hid (isb_last2 W (.cells #[.int .u64 a, .int .u64 b] 24) (.cells #[.int .u64 c, .int .u64 d] 24) 24 #[.int .u64 f, .int .u64 h])
  have G := Lib.hid (al3 W (.cells #[.int .u64 a, .int .u64 b] 24) (.cells #[.int .u64 c, .int .u64 d] 24) (.cells #[.int .u64 f, .int .u64 h] 24))
  go_enter Try.func7, Try.ntmps7
  go_wp2_with fail
  generalize ((W.alloc (.cells #[.int .u64 a, .int .u64 b] 24)).alloc (.cells #[.int .u64 c, .int .u64 d] 24)).alloc (.cells #[.int .u64 f, .int .u64 h] 24) = w0 at *
  refine (SAA.out _).mono ?_
  rintro e w1 ⟨rfl, g1⟩
  have HA1 := Lib.hid (HA1.out.keep0 g1)
  have HA2 := Lib.hid (HA2.out.keep0 g1)
  have HA3 := Lib.hid (HA3.out.keep0 g1)
  have G := Lib.hid (gb_trans G.out g1)
  clear g1
  obtain ⟨a1, a2⟩ := cube_cells HA1.out
  obtain ⟨b1, b2⟩ := cube_cells HA2.out
  obtain ⟨c1, c2⟩ := cube_cells HA3.out
  go_wp2_with fail
  refine (SAB.out _).mono ?_
  rintro e w2 ⟨rfl, g2⟩
  clear a1 a2 b1 b2 c1 c2
  have HA1 := Lib.hid (HA1.out.keep0 g2)
  have HA2 := Lib.hid (HA2.out.keep0 g2)
  have HA3 := Lib.hid (HA3.out.keep0 g2)
  have G := Lib.hid (gb_trans G.out g2)
  clear g2
  obtain ⟨a1, a2⟩ := cube_cells HA1.out
  obtain ⟨b1, b2⟩ := cube_cells HA2.out
  obtain ⟨c1, c2⟩ := cube_cells HA3.out
  go_upto_region 3 with fail
  go_region_with (go_at_call 16; refine (SAB.out _).mono ?_; rintro e w' ⟨rfl, g⟩)
  all_goals (
  have gS : w2.grownBy w' none := gb_trans (gb_drew _ _) g
  clear a1 a2 b1 b2 c1 c2 g
  have HA1 := Lib.hid (HA1.out.keep0 gS)
  have HA2 := Lib.hid (HA2.out.keep0 gS)
  have G := Lib.hid (gb_trans G.out gS)
  clear gS
  obtain ⟨a1, a2⟩ := cube_cells HA1.out
  obtain ⟨b1, b2⟩ := cube_cells HA2.out
  go_wp2_with fail
  clear a1 a2 b1 b2
  refine (IN.out _).mono ?_
  rintro e w5 ⟨rfl, g5⟩
  have HE1 := Lib.hid ((HA1.out.keep0 g5).alloc (.cells #[.int .u64 v, .int .u64 m] 24))
  have HE2 := Lib.hid ((HA2.out.keep0 g5).alloc (.cells #[.int .u64 v, .int .u64 m] 24))
  have HD1 := Lib.hid (IsB.new w5 24 #[.int .u64 v, .int .u64 m])
  have G := Lib.hid (gb_trans G.out (gb_trans g5 (gb_alloc w5 (.cells #[.int .u64 v, .int .u64 m] 24) none)))
  clear g5 HA1 HA2 HA3
  go_upto_region 8 with fail
  generalize w5.alloc (.cells #[.int .u64 v, .int .u64 m] 24) = w6 at *
  generalize w5.heap.size = pd at *
  have KT := Lib.hid (fun (w' : World) (q : w6.grownBy w' none) => (⟨(HD1.out.keep0 q).cell 0, (HD1.out.keep0 q).cell 1, (HE1.out.keep0 q).cell 0, (HE1.out.keep0 q).cell 1, (HE2.out.keep0 q).cell 0, (HE2.out.keep0 q).cell 1, q⟩ : (fun w' => w'.cell? ⟨pd, 0, none⟩ = some (.int .u64 (v : Int)) ∧ w'.cell? ⟨pd, 1, none⟩ = some (.int .u64 (m : Int)) ∧ w'.cell? ⟨W.heap.size, 0, none⟩ = some (.int .u64 (a : Int)) ∧ w'.cell? ⟨W.heap.size, 1, none⟩ = some (.int .u64 (b : Int)) ∧ w'.cell? ⟨W.heap.size + 1, 0, none⟩ = some (.int .u64 (c : Int)) ∧ w'.cell? ⟨W.heap.size + 1, 1, none⟩ = some (.int .u64 (d : Int)) ∧ w6.grownBy w' none) w'))
  go_region_held3 (fun w' => w'.cell? ⟨pd, 0, none⟩ = some (.int .u64 (v : Int)) ∧ w'.cell? ⟨pd, 1, none⟩ = some (.int .u64 (m : Int)) ∧ w'.cell? ⟨W.heap.size, 0, none⟩ = some (.int .u64 (a : Int)) ∧ w'.cell? ⟨W.heap.size, 1, none⟩ = some (.int .u64 (b : Int)) ∧ w'.cell? ⟨W.heap.size + 1, 0, none⟩ = some (.int .u64 (c : Int)) ∧ w'.cell? ⟨W.heap.size + 1, 1, none⟩ = some (.int .u64 (d : Int)) ∧ w6.grownBy w' none)
    (first
      | assumption
      | exact KT.out _ (by repeat' first
                                | assumption
                                | exact (And.right (And.right (And.right (And.right (And.right (And.right (by assumption)))))))
                                | exact World.grownBy.refl _ _
                                | exact gb_drew _ _
                                | refine gb_trans ?_ (gb_drew _ _)
                                | refine gb_trans ?_ (by assumption)))
    (first
      | (go_at_call_of 16 (Value.agg #[Value.int IntKind.u64 (a : Int), Value.int IntKind.u64 (b : Int)]); refine (SDA.out _).mono ?_; rintro e w' ⟨rfl, g⟩)
      | (go_at_call_of 16 (Value.agg #[Value.int IntKind.u64 (c : Int), Value.int IntKind.u64 (d : Int)]); refine (SDB.out _).mono ?_; rintro e w' ⟨rfl, g⟩)
      | (go_at_call 23; refine (MD.out _).mono ?_; rintro e w' ⟨rfl, g⟩)
      | (go_at_call_of 14 (Value.agg #[Value.int IntKind.u64 (a : Int), Value.int IntKind.u64 (b : Int)]); refine (CAD.out _).mono ?_; rintro e w' ⟨rfl, g⟩)
      | (go_at_call_of 14 (Value.agg #[Value.int IntKind.u64 (c : Int), Value.int IntKind.u64 (d : Int)]); refine (CBD.out _).mono ?_; rintro e w' ⟨rfl, g⟩)
      | (go_at_call 25; refine (awake_any _).mono ?_; rintro e w' ⟨rfl, g⟩))
  have gS : w6.grownBy w' none := (And.right (And.right (And.right (And.right (And.right (And.right (by assumption)))))))
  go_wp2
  go_ret
  exact ⟨rfl, below_of (gb_trans G.out gS)⟩)
set_option maxRecDepth 100000 in
set_option maxHeartbeats 20000000 in
theorem orders_tf (a b c d f h : Nat) (W : World) (ha : B64 a) (hb : B64 b) (hc : B64 c) (hd : B64 d) (hf : B64 f) (hh : B64 h) (hp : subN a b c d = true) (hq : subN c d f h = false) (hmeet : meetN a b c d = true) : Calls Try.prog 7 #[.agg #[.int .u64 a, .int .u64 b], .agg #[.int .u64 c, .int .u64 d], .agg #[.int .u64 f, .int .u64 h]] W (HoldsT W) := by
  have SAA := Lib.hid (fun w => subset_any w a b a b ha hb ha hb)
  have SAB := Lib.hid (fun w => subset_any w a b c d ha hb hc hd)
  have MA := Lib.hid (fun w => min_any w a b ha hb)
  have MB := Lib.hid (fun w => min_any w c d hc hd)
  have mal : B64 (minN a b) := Nat.lt_of_le_of_lt Nat.and_le_left ha
  have mbl : B64 (minN c d) := Nat.lt_of_le_of_lt Nat.and_le_left hc
  have CBA := Lib.hid (fun w => contains_any w c d (minN a b) hc hd mal)
  have CAB := Lib.hid (fun w => contains_any w a b (minN c d) ha hb mbl)
  have IN := Lib.hid (fun w => int_any w a b c d ha hb hc hd)
  unfold RetI at IN
  unfold RetV at SAA SAB MA MB CBA CAB
  rw [sub_refl a b hb] at SAA
  rw [hp] at SAB
  rw [hmeet] at IN
  have SBC := Lib.hid (fun w => subset_any w c d f h hc hd hf hh)
  have SAC := Lib.hid (fun w => subset_any w a b f h ha hb hf hh)
  unfold RetV at SBC SAC
  rw [hq] at SBC
  rw [sub_min a b c d hb hd hp] at CBA
  have il := intV_lt a b c d ha hc
  have im := intM_lt a b c d hb hd
  have i2 := int_min a b c d ha hb hc hd hmeet
  have i3 := int_sub a b c d ha hb hc hd hmeet
  have i4 := int_canon a b c d
  generalize intV a b c d = v at *
  generalize intM a b c d = m at *
  have iml : B64 (minN v m) := Nat.lt_of_le_of_lt Nat.and_le_left il
  have SDA := Lib.hid (fun w => subset_any w v m a b il im ha hb)
  have SDB := Lib.hid (fun w => subset_any w v m c d il im hc hd)
  have MD := Lib.hid (fun w => min_any w v m il im)
  have CAD := Lib.hid (fun w => contains_any w a b (minN v m) ha hb iml)
  have CBD := Lib.hid (fun w => contains_any w c d (minN v m) hc hd iml)
  unfold RetV at SDA SDB MD CAD CBD
  rw [i3.1] at SDA
  rw [i3.2] at SDB
  rw [i2.1] at CAD
  rw [i2.2] at CBD
  obtain ⟨y, hy, hyl, ey⟩ := bA v m il im
  rw [i4] at hy
  rw [hy] at ey
  have ev : ((v : Int) == v) = true := by rw [beq_iff_eq]
  generalize minN v m = md at *
  clear i2 i3 i4 hy iml hyl il im
  generalize minN a b = ma at *
  generalize minN c d = mb at *
  clear mal mbl hp hmeet ha hb hc hd hf hh
  have HA1 := Lib.hid ((new_old W (.cells #[.int .u64 c, .int .u64 d] 24) 24 #[.int .u64 a, .int .u64 b]).alloc (.cells #[.int .u64 f, .int .u64 h] 24))
  have HA2 := Lib.hid ((isb_last W (.cells #[.int .u64 a, .int .u64 b] 24) 24 #[.int .u64 c, .int .u64 d]).alloc (.cells #[.int .u64 f, .int .u64 h] 24))
  have HA3 := Lib.hid (isb_last2 W (.cells #[.int .u64 a, .int .u64 b] 24) (.cells #[.int .u64 c, .int .u64 d] 24) 24 #[.int .u64 f, .int .u64 h])
  have G := Lib.hid (al3 W (.cells #[.int .u64 a, .int .u64 b] 24) (.cells #[.int .u64 c, .int .u64 d] 24) (.cells #[.int .u64 f, .int .u64 h] 24))
  go_enter Try.func7, Try.ntmps7
  go_wp2_with fail
  generalize ((W.alloc (.cells #[.int .u64 a, .int .u64 b] 24)).alloc (.cells #[.int .u64 c, .int .u64 d] 24)).alloc (.cells #[.int .u64 f, .int .u64 h] 24) = w0 at *
  refine (SAA.out _).mono ?_
  rintro e w1 ⟨rfl, g1⟩
  have HA1 := Lib.hid (HA1.out.keep0 g1)
  have HA2 := Lib.hid (HA2.out.keep0 g1)
  have HA3 := Lib.hid (HA3.out.keep0 g1)
  have G := Lib.hid (gb_trans G.out g1)
  clear g1
  obtain ⟨a1, a2⟩ := cube_cells HA1.out
  obtain ⟨b1, b2⟩ := cube_cells HA2.out
  obtain ⟨c1, c2⟩ := cube_cells HA3.out
  go_wp2_with fail
  refine (SAB.out _).mono ?_
  rintro e w2 ⟨rfl, g2⟩
  clear a1 a2 b1 b2 c1 c2
  have HA1 := Lib.hid (HA1.out.keep0 g2)
  have HA2 := Lib.hid (HA2.out.keep0 g2)
  have HA3 := Lib.hid (HA3.out.keep0 g2)
  have G := Lib.hid (gb_trans G.out g2)
  clear g2
  obtain ⟨a1, a2⟩ := cube_cells HA1.out
  obtain ⟨b1, b2⟩ := cube_cells HA2.out
  obtain ⟨c1, c2⟩ := cube_cells HA3.out
  go_wp2_with fail
  refine (SBC.out _).mono ?_
  rintro e w3 ⟨rfl, g3⟩
  clear a1 a2 b1 b2 c1 c2
  have HA1 := Lib.hid (HA1.out.keep0 g3)
  have HA2 := Lib.hid (HA2.out.keep0 g3)
  have HA3 := Lib.hid (HA3.out.keep0 g3)
  have G := Lib.hid (gb_trans G.out g3)
  clear g3
  go_upto_region 3 with fail
  have KS := Lib.hid (fun (w' : World) (q : w3.grownBy w' none) => (⟨(HA1.out.keep0 q).cell 0, (HA1.out.keep0 q).cell 1, (HA2.out.keep0 q).cell 0, (HA2.out.keep0 q).cell 1, q⟩ : (fun w' => w'.cell? ⟨W.heap.size, 0, none⟩ = some (.int .u64 (a : Int)) ∧ w'.cell? ⟨W.heap.size, 1, none⟩ = some (.int .u64 (b : Int)) ∧ w'.cell? ⟨W.heap.size + 1, 0, none⟩ = some (.int .u64 (c : Int)) ∧ w'.cell? ⟨W.heap.size + 1, 1, none⟩ = some (.int .u64 (d : Int)) ∧ w3.grownBy w' none) w'))
  go_region_held3 (fun w' => w'.cell? ⟨W.heap.size, 0, none⟩ = some (.int .u64 (a : Int)) ∧ w'.cell? ⟨W.heap.size, 1, none⟩ = some (.int .u64 (b : Int)) ∧ w'.cell? ⟨W.heap.size + 1, 0, none⟩ = some (.int .u64 (c : Int)) ∧ w'.cell? ⟨W.heap.size + 1, 1, none⟩ = some (.int .u64 (d : Int)) ∧ w3.grownBy w' none)
    (first
      | assumption
      | exact KS.out _ (by repeat' first
                                | assumption
                                | exact (And.right (And.right (And.right (And.right (by assumption)))))
                                | exact World.grownBy.refl _ _
                                | exact gb_drew _ _
                                | refine gb_trans ?_ (gb_drew _ _)
                                | refine gb_trans ?_ (by assumption)))
    (first
      | (go_at_call 16; refine (SAB.out _).mono ?_; rintro e w' ⟨rfl, g⟩)
      | (go_at_call 23; refine (MA.out _).mono ?_; rintro e w' ⟨rfl, g⟩)
      | (go_at_call 14; refine (CBA.out _).mono ?_; rintro e w' ⟨rfl, g⟩))
  have gS : w3.grownBy w' none := (And.right (And.right (And.right (And.right (by assumption)))))
  have HA1 := Lib.hid (HA1.out.keep0 gS)
  have HA2 := Lib.hid (HA2.out.keep0 gS)
  have G := Lib.hid (gb_trans G.out gS)
  clear gS
  obtain ⟨a1, a2⟩ := cube_cells HA1.out
  obtain ⟨b1, b2⟩ := cube_cells HA2.out
  go_wp2_with fail
  clear a1 a2 b1 b2
  refine (IN.out _).mono ?_
  rintro e w5 ⟨rfl, g5⟩
  have HE1 := Lib.hid ((HA1.out.keep0 g5).alloc (.cells #[.int .u64 v, .int .u64 m] 24))
  have HE2 := Lib.hid ((HA2.out.keep0 g5).alloc (.cells #[.int .u64 v, .int .u64 m] 24))
  have HD1 := Lib.hid (IsB.new w5 24 #[.int .u64 v, .int .u64 m])
  have G := Lib.hid (gb_trans G.out (gb_trans g5 (gb_alloc w5 (.cells #[.int .u64 v, .int .u64 m] 24) none)))
  clear g5 HA1 HA2 HA3
  go_upto_region 8 with fail
  generalize w5.alloc (.cells #[.int .u64 v, .int .u64 m] 24) = w6 at *
  generalize w5.heap.size = pd at *
  have KT := Lib.hid (fun (w' : World) (q : w6.grownBy w' none) => (⟨(HD1.out.keep0 q).cell 0, (HD1.out.keep0 q).cell 1, (HE1.out.keep0 q).cell 0, (HE1.out.keep0 q).cell 1, (HE2.out.keep0 q).cell 0, (HE2.out.keep0 q).cell 1, q⟩ : (fun w' => w'.cell? ⟨pd, 0, none⟩ = some (.int .u64 (v : Int)) ∧ w'.cell? ⟨pd, 1, none⟩ = some (.int .u64 (m : Int)) ∧ w'.cell? ⟨W.heap.size, 0, none⟩ = some (.int .u64 (a : Int)) ∧ w'.cell? ⟨W.heap.size, 1, none⟩ = some (.int .u64 (b : Int)) ∧ w'.cell? ⟨W.heap.size + 1, 0, none⟩ = some (.int .u64 (c : Int)) ∧ w'.cell? ⟨W.heap.size + 1, 1, none⟩ = some (.int .u64 (d : Int)) ∧ w6.grownBy w' none) w'))
  go_region_held3 (fun w' => w'.cell? ⟨pd, 0, none⟩ = some (.int .u64 (v : Int)) ∧ w'.cell? ⟨pd, 1, none⟩ = some (.int .u64 (m : Int)) ∧ w'.cell? ⟨W.heap.size, 0, none⟩ = some (.int .u64 (a : Int)) ∧ w'.cell? ⟨W.heap.size, 1, none⟩ = some (.int .u64 (b : Int)) ∧ w'.cell? ⟨W.heap.size + 1, 0, none⟩ = some (.int .u64 (c : Int)) ∧ w'.cell? ⟨W.heap.size + 1, 1, none⟩ = some (.int .u64 (d : Int)) ∧ w6.grownBy w' none)
    (first
      | assumption
      | exact KT.out _ (by repeat' first
                                | assumption
                                | exact (And.right (And.right (And.right (And.right (And.right (And.right (by assumption)))))))
                                | exact World.grownBy.refl _ _
                                | exact gb_drew _ _
                                | refine gb_trans ?_ (gb_drew _ _)
                                | refine gb_trans ?_ (by assumption)))
    (first
      | (go_at_call_of 16 (Value.agg #[Value.int IntKind.u64 (a : Int), Value.int IntKind.u64 (b : Int)]); refine (SDA.out _).mono ?_; rintro e w' ⟨rfl, g⟩)
      | (go_at_call_of 16 (Value.agg #[Value.int IntKind.u64 (c : Int), Value.int IntKind.u64 (d : Int)]); refine (SDB.out _).mono ?_; rintro e w' ⟨rfl, g⟩)
      | (go_at_call 23; refine (MD.out _).mono ?_; rintro e w' ⟨rfl, g⟩)
      | (go_at_call_of 14 (Value.agg #[Value.int IntKind.u64 (a : Int), Value.int IntKind.u64 (b : Int)]); refine (CAD.out _).mono ?_; rintro e w' ⟨rfl, g⟩)
      | (go_at_call_of 14 (Value.agg #[Value.int IntKind.u64 (c : Int), Value.int IntKind.u64 (d : Int)]); refine (CBD.out _).mono ?_; rintro e w' ⟨rfl, g⟩)
      | (go_at_call 25; refine (awake_any _).mono ?_; rintro e w' ⟨rfl, g⟩))
  have gS : w6.grownBy w' none := (And.right (And.right (And.right (And.right (And.right (And.right (by assumption)))))))
  go_wp2
  go_ret
  exact ⟨rfl, below_of (gb_trans G.out gS)⟩
set_option maxRecDepth 100000 in
set_option maxHeartbeats 20000000 in
theorem orders_tt (a b c d f h : Nat) (W : World) (ha : B64 a) (hb : B64 b) (hc : B64 c) (hd : B64 d) (hf : B64 f) (hh : B64 h) (hp : subN a b c d = true) (hq : subN c d f h = true) (hmeet : meetN a b c d = true) : Calls Try.prog 7 #[.agg #[.int .u64 a, .int .u64 b], .agg #[.int .u64 c, .int .u64 d], .agg #[.int .u64 f, .int .u64 h]] W (HoldsT W) := by
  have SAA := Lib.hid (fun w => subset_any w a b a b ha hb ha hb)
  have SAB := Lib.hid (fun w => subset_any w a b c d ha hb hc hd)
  have MA := Lib.hid (fun w => min_any w a b ha hb)
  have MB := Lib.hid (fun w => min_any w c d hc hd)
  have mal : B64 (minN a b) := Nat.lt_of_le_of_lt Nat.and_le_left ha
  have mbl : B64 (minN c d) := Nat.lt_of_le_of_lt Nat.and_le_left hc
  have CBA := Lib.hid (fun w => contains_any w c d (minN a b) hc hd mal)
  have CAB := Lib.hid (fun w => contains_any w a b (minN c d) ha hb mbl)
  have IN := Lib.hid (fun w => int_any w a b c d ha hb hc hd)
  unfold RetI at IN
  unfold RetV at SAA SAB MA MB CBA CAB
  rw [sub_refl a b hb] at SAA
  rw [hp] at SAB
  rw [hmeet] at IN
  have SBC := Lib.hid (fun w => subset_any w c d f h hc hd hf hh)
  have SAC := Lib.hid (fun w => subset_any w a b f h ha hb hf hh)
  unfold RetV at SBC SAC
  rw [hq] at SBC
  rw [sub_min a b c d hb hd hp] at CBA
  rw [sub_trans a b c d f h hb hd hh hp hq] at SAC
  have il := intV_lt a b c d ha hc
  have im := intM_lt a b c d hb hd
  have i2 := int_min a b c d ha hb hc hd hmeet
  have i3 := int_sub a b c d ha hb hc hd hmeet
  have i4 := int_canon a b c d
  generalize intV a b c d = v at *
  generalize intM a b c d = m at *
  have iml : B64 (minN v m) := Nat.lt_of_le_of_lt Nat.and_le_left il
  have SDA := Lib.hid (fun w => subset_any w v m a b il im ha hb)
  have SDB := Lib.hid (fun w => subset_any w v m c d il im hc hd)
  have MD := Lib.hid (fun w => min_any w v m il im)
  have CAD := Lib.hid (fun w => contains_any w a b (minN v m) ha hb iml)
  have CBD := Lib.hid (fun w => contains_any w c d (minN v m) hc hd iml)
  unfold RetV at SDA SDB MD CAD CBD
  rw [i3.1] at SDA
  rw [i3.2] at SDB
  rw [i2.1] at CAD
  rw [i2.2] at CBD
  obtain ⟨y, hy, hyl, ey⟩ := bA v m il im
  rw [i4] at hy
  rw [hy] at ey
  have ev : ((v : Int) == v) = true := by rw [beq_iff_eq]
  generalize minN v m = md at *
  clear i2 i3 i4 hy iml hyl il im
  generalize minN a b = ma at *
  generalize minN c d = mb at *
  clear mal mbl hp hmeet ha hb hc hd hf hh
  have HA1 := Lib.hid ((new_old W (.cells #[.int .u64 c, .int .u64 d] 24) 24 #[.int .u64 a, .int .u64 b]).alloc (.cells #[.int .u64 f, .int .u64 h] 24))
  have HA2 := Lib.hid ((isb_last W (.cells #[.int .u64 a, .int .u64 b] 24) 24 #[.int .u64 c, .int .u64 d]).alloc (.cells #[.int .u64 f, .int .u64 h] 24))
  have HA3 := Lib.hid (isb_last2 W (.cells #[.int .u64 a, .int .u64 b] 24) (.cells #[.int .u64 c, .int .u64 d] 24) 24 #[.int .u64 f, .int .u64 h])
  have G := Lib.hid (al3 W (.cells #[.int .u64 a, .int .u64 b] 24) (.cells #[.int .u64 c, .int .u64 d] 24) (.cells #[.int .u64 f, .int .u64 h] 24))
  go_enter Try.func7, Try.ntmps7
  go_wp2_with fail
  generalize ((W.alloc (.cells #[.int .u64 a, .int .u64 b] 24)).alloc (.cells #[.int .u64 c, .int .u64 d] 24)).alloc (.cells #[.int .u64 f, .int .u64 h] 24) = w0 at *
  refine (SAA.out _).mono ?_
  rintro e w1 ⟨rfl, g1⟩
  have HA1 := Lib.hid (HA1.out.keep0 g1)
  have HA2 := Lib.hid (HA2.out.keep0 g1)
  have HA3 := Lib.hid (HA3.out.keep0 g1)
  have G := Lib.hid (gb_trans G.out g1)
  clear g1
  obtain ⟨a1, a2⟩ := cube_cells HA1.out
  obtain ⟨b1, b2⟩ := cube_cells HA2.out
  obtain ⟨c1, c2⟩ := cube_cells HA3.out
  go_wp2_with fail
  refine (SAB.out _).mono ?_
  rintro e w2 ⟨rfl, g2⟩
  clear a1 a2 b1 b2 c1 c2
  have HA1 := Lib.hid (HA1.out.keep0 g2)
  have HA2 := Lib.hid (HA2.out.keep0 g2)
  have HA3 := Lib.hid (HA3.out.keep0 g2)
  have G := Lib.hid (gb_trans G.out g2)
  clear g2
  obtain ⟨a1, a2⟩ := cube_cells HA1.out
  obtain ⟨b1, b2⟩ := cube_cells HA2.out
  obtain ⟨c1, c2⟩ := cube_cells HA3.out
  go_wp2_with fail
  refine (SBC.out _).mono ?_
  rintro e w3 ⟨rfl, g3⟩
  clear a1 a2 b1 b2 c1 c2
  have HA1 := Lib.hid (HA1.out.keep0 g3)
  have HA2 := Lib.hid (HA2.out.keep0 g3)
  have HA3 := Lib.hid (HA3.out.keep0 g3)
  have G := Lib.hid (gb_trans G.out g3)
  clear g3
  obtain ⟨a1, a2⟩ := cube_cells HA1.out
  obtain ⟨b1, b2⟩ := cube_cells HA2.out
  obtain ⟨c1, c2⟩ := cube_cells HA3.out
  go_wp2_with fail
  refine (SAC.out _).mono ?_
  rintro e w4 ⟨rfl, g4⟩
  clear a1 a2 b1 b2 c1 c2
  have HA1 := Lib.hid (HA1.out.keep0 g4)
  have HA2 := Lib.hid (HA2.out.keep0 g4)
  have HA3 := Lib.hid (HA3.out.keep0 g4)
  have G := Lib.hid (gb_trans G.out g4)
  clear g4
  go_upto_region 3 with fail
  have KS := Lib.hid (fun (w' : World) (q : w4.grownBy w' none) => (⟨(HA1.out.keep0 q).cell 0, (HA1.out.keep0 q).cell 1, (HA2.out.keep0 q).cell 0, (HA2.out.keep0 q).cell 1, q⟩ : (fun w' => w'.cell? ⟨W.heap.size, 0, none⟩ = some (.int .u64 (a : Int)) ∧ w'.cell? ⟨W.heap.size, 1, none⟩ = some (.int .u64 (b : Int)) ∧ w'.cell? ⟨W.heap.size + 1, 0, none⟩ = some (.int .u64 (c : Int)) ∧ w'.cell? ⟨W.heap.size + 1, 1, none⟩ = some (.int .u64 (d : Int)) ∧ w4.grownBy w' none) w'))
  go_region_held3 (fun w' => w'.cell? ⟨W.heap.size, 0, none⟩ = some (.int .u64 (a : Int)) ∧ w'.cell? ⟨W.heap.size, 1, none⟩ = some (.int .u64 (b : Int)) ∧ w'.cell? ⟨W.heap.size + 1, 0, none⟩ = some (.int .u64 (c : Int)) ∧ w'.cell? ⟨W.heap.size + 1, 1, none⟩ = some (.int .u64 (d : Int)) ∧ w4.grownBy w' none)
    (first
      | assumption
      | exact KS.out _ (by repeat' first
                                | assumption
                                | exact (And.right (And.right (And.right (And.right (by assumption)))))
                                | exact World.grownBy.refl _ _
                                | exact gb_drew _ _
                                | refine gb_trans ?_ (gb_drew _ _)
                                | refine gb_trans ?_ (by assumption)))
    (first
      | (go_at_call 16; refine (SAB.out _).mono ?_; rintro e w' ⟨rfl, g⟩)
      | (go_at_call 23; refine (MA.out _).mono ?_; rintro e w' ⟨rfl, g⟩)
      | (go_at_call 14; refine (CBA.out _).mono ?_; rintro e w' ⟨rfl, g⟩))
  have gS : w4.grownBy w' none := (And.right (And.right (And.right (And.right (by assumption)))))
  have HA1 := Lib.hid (HA1.out.keep0 gS)
  have HA2 := Lib.hid (HA2.out.keep0 gS)
  have G := Lib.hid (gb_trans G.out gS)
  clear gS
  obtain ⟨a1, a2⟩ := cube_cells HA1.out
  obtain ⟨b1, b2⟩ := cube_cells HA2.out
  go_wp2_with fail
  clear a1 a2 b1 b2
  refine (IN.out _).mono ?_
  rintro e w5 ⟨rfl, g5⟩
  have HE1 := Lib.hid ((HA1.out.keep0 g5).alloc (.cells #[.int .u64 v, .int .u64 m] 24))
  have HE2 := Lib.hid ((HA2.out.keep0 g5).alloc (.cells #[.int .u64 v, .int .u64 m] 24))
  have HD1 := Lib.hid (IsB.new w5 24 #[.int .u64 v, .int .u64 m])
  have G := Lib.hid (gb_trans G.out (gb_trans g5 (gb_alloc w5 (.cells #[.int .u64 v, .int .u64 m] 24) none)))
  clear g5 HA1 HA2 HA3
  go_upto_region 8 with fail
  generalize w5.alloc (.cells #[.int .u64 v, .int .u64 m] 24) = w6 at *
  generalize w5.heap.size = pd at *
  have KT := Lib.hid (fun (w' : World) (q : w6.grownBy w' none) => (⟨(HD1.out.keep0 q).cell 0, (HD1.out.keep0 q).cell 1, (HE1.out.keep0 q).cell 0, (HE1.out.keep0 q).cell 1, (HE2.out.keep0 q).cell 0, (HE2.out.keep0 q).cell 1, q⟩ : (fun w' => w'.cell? ⟨pd, 0, none⟩ = some (.int .u64 (v : Int)) ∧ w'.cell? ⟨pd, 1, none⟩ = some (.int .u64 (m : Int)) ∧ w'.cell? ⟨W.heap.size, 0, none⟩ = some (.int .u64 (a : Int)) ∧ w'.cell? ⟨W.heap.size, 1, none⟩ = some (.int .u64 (b : Int)) ∧ w'.cell? ⟨W.heap.size + 1, 0, none⟩ = some (.int .u64 (c : Int)) ∧ w'.cell? ⟨W.heap.size + 1, 1, none⟩ = some (.int .u64 (d : Int)) ∧ w6.grownBy w' none) w'))
  go_region_held3 (fun w' => w'.cell? ⟨pd, 0, none⟩ = some (.int .u64 (v : Int)) ∧ w'.cell? ⟨pd, 1, none⟩ = some (.int .u64 (m : Int)) ∧ w'.cell? ⟨W.heap.size, 0, none⟩ = some (.int .u64 (a : Int)) ∧ w'.cell? ⟨W.heap.size, 1, none⟩ = some (.int .u64 (b : Int)) ∧ w'.cell? ⟨W.heap.size + 1, 0, none⟩ = some (.int .u64 (c : Int)) ∧ w'.cell? ⟨W.heap.size + 1, 1, none⟩ = some (.int .u64 (d : Int)) ∧ w6.grownBy w' none)
    (first
      | assumption
      | exact KT.out _ (by repeat' first
                                | assumption
                                | exact (And.right (And.right (And.right (And.right (And.right (And.right (by assumption)))))))
                                | exact World.grownBy.refl _ _
                                | exact gb_drew _ _
                                | refine gb_trans ?_ (gb_drew _ _)
                                | refine gb_trans ?_ (by assumption)))
    (first
      | (go_at_call_of 16 (Value.agg #[Value.int IntKind.u64 (a : Int), Value.int IntKind.u64 (b : Int)]); refine (SDA.out _).mono ?_; rintro e w' ⟨rfl, g⟩)
      | (go_at_call_of 16 (Value.agg #[Value.int IntKind.u64 (c : Int), Value.int IntKind.u64 (d : Int)]); refine (SDB.out _).mono ?_; rintro e w' ⟨rfl, g⟩)
      | (go_at_call 23; refine (MD.out _).mono ?_; rintro e w' ⟨rfl, g⟩)
      | (go_at_call_of 14 (Value.agg #[Value.int IntKind.u64 (a : Int), Value.int IntKind.u64 (b : Int)]); refine (CAD.out _).mono ?_; rintro e w' ⟨rfl, g⟩)
      | (go_at_call_of 14 (Value.agg #[Value.int IntKind.u64 (c : Int), Value.int IntKind.u64 (d : Int)]); refine (CBD.out _).mono ?_; rintro e w' ⟨rfl, g⟩)
      | (go_at_call 25; refine (awake_any _).mono ?_; rintro e w' ⟨rfl, g⟩))
  have gS : w6.grownBy w' none := (And.right (And.right (And.right (And.right (And.right (And.right (by assumption)))))))
  go_wp2
  go_ret
  exact ⟨rfl, below_of (gb_trans G.out gS)⟩
theorem orders_walk (a b c d f h : Nat) (W : World) (ha : B64 a) (hb : B64 b) (hc : B64 c) (hd : B64 d) (hf : B64 f) (hh : B64 h) : Calls Try.prog 7 #[.agg #[.int .u64 a, .int .u64 b], .agg #[.int .u64 c, .int .u64 d], .agg #[.int .u64 f, .int .u64 h]] W (HoldsT W) := by
  cases hp : subN a b c d
  · cases hm : meetN a b c d
    · exact orders_ff a b c d f h W ha hb hc hd hf hh hp hm
    · exact orders_ft a b c d f h W ha hb hc hd hf hh hp hm
  · have hm := sub_meet a b c d hb hd hp
    cases hq : subN c d f h
    · exact orders_tf a b c d f h W ha hb hc hd hf hh hp hq hm
    · exact orders_tt a b c d f h W ha hb hc hd hf hh hp hq hm
end Go.Proofs.Ytphejamjognmpaa
