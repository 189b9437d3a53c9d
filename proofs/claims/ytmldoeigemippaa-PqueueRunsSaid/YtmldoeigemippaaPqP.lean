/- The reference's queue: All. -/
import Derived.Test.YtmldoeigemippaaPqO
namespace Go.Proofs.Ytmldoeigemippaa
open Go.RowKit
set_option linter.unusedVariables false

/-- What Pop of the reference returns, written out. -/
def RetP (cap x y : Int) (ok : Bool) (base : Nat) (E : Int → Int) (T : List Int) (w : World) (e : Ending) (w' : World) : Prop := ∃ a c, e = .returned (.tuple #[.agg #[.int .i64 cap, .slice a T.length c], .int .i64 x, .int .i64 y, .bool ok]) ∧ RL w' base (.slice a T.length c) E T ∧ w.grownBy w' none
theorem RetP.of {cap x y : Int} {ok : Bool} {base : Nat} {E : Int → Int} {T : List Int} {w : World} {e : Ending} {w' : World} (h : RetQ2 cap base E T [.int .i64 x, .int .i64 y, .bool ok] w e w') : RetP cap x y ok base E T w e w' := by
  obtain ⟨V, rfl, r, g⟩ := h
  obtain ⟨a, c, rfl⟩ := r.shape
  exact ⟨a, c, rfl, r, g⟩
def kLen2 (w : World) (ob : Nat) : Nat := match w.cell? ⟨ob, 1, none⟩ with | some (.slice _ k _) => k | _ => 0
theorem kLen2_is {b : Nat} {a : Option Addr} {k c : Nat} {t : TypeId} {v : Value} {w : World} (h : IsB w b t #[v, .slice a k c]) : kLen2 w b = k := by
  have h2 : w.cell? ⟨b, 1, none⟩ = some (.slice a k c) := h.cell 1
  unfold kLen2
  rw [h2]
/-- A returned list of items. -/
def RetL (E : Int → Int) (T : List Int) (w : World) (e : Ending) (w' : World) : Prop := ∃ V, e = .returned V ∧ RL w' w.heap.size V E T ∧ w.grownBy w' none
set_option maxRecDepth 100000 in
set_option maxHeartbeats 4000000 in
theorem rall_any (w : World) (base : Nat) (a : Option Addr) (n c : Nat) (cap : Int) (E : Int → Int) (T : List Int) (h : RL w base (.slice a n c) E T) (hl : n = T.length) (hn : n ≤ 100000) : Calls Try.prog 18 #[.agg #[.int .i64 cap, .slice a n c]] w (RetL E (allT n T) w) := by
  have G1 := gb_alloc w (.cells #[.int .i64 cap, .slice a n c] 30) none
  have B1 := Lib.hid (IsB.new w 30 #[.int .i64 cap, .slice a n c])
  have R1 := Lib.hid (own_low (h.keep0 G1) (Nat.zero_le _) : RL _ 0 (.slice a n c) E T)
  have G1 := Lib.hid G1
  subst hl
  have HN := Lib.hid hn
  clear h hn
  go_enter Try.func18, Try.ntmps18
  go_wp2
  generalize w.alloc (.cells #[.int .i64 cap, .slice a T.length c] 30) = w1 at *
  obtain ⟨z, hz⟩ : ∃ z, z = w.heap.size := ⟨_, rfl⟩
  have HZ := Lib.hid hz
  rw [← hz] at B1 ⊢
  clear hz
  go_loopw [3] (fun V wr => ∃ (K pre : List Int) (b : Option Addr) (d : Nat), IsB wr z 30 #[.int .i64 cap, .slice b K.length d] ∧ RL wr 0 (.slice b K.length d) E K ∧ RL wr z V E pre ∧ allT T.length T = pre ++ allT K.length K ∧ pre.length + K.length ≤ 100000 ∧ w.grownBy wr none) (fun _ wr => kLen2 wr z)
  case atStart => exact ⟨T, [], a, c, B1.out, R1.out, RL.nil _ _ _, by simp, by simpa using HN.out, G1.out⟩
  case round =>
    obtain ⟨K, pre, b, d, hb, hk, hv, ha, hl, hg⟩ := hrel
    have BB := Lib.hid hb
    have HK := Lib.hid hk
    have HV := Lib.hid hv
    have HA := Lib.hid ha
    have HL := Lib.hid hl
    have HG := Lib.hid hg
    obtain ⟨av, cv, rfl⟩ := hv.shape
    have c0 := hb.cell 0
    have c1 := hb.cell 1
    dsimp at c0 c1
    clear hb hk hv ha hl hg B1 R1 G1 HN
    by_cases h0 : 0 < K.length
    · have i0 : (0 : Int) < (K.length : Int) := by omega
      have PO := Lib.hid (rpop_some wr 0 b K.length d cap E K HK.out rfl (by have := HL.out; omega) h0)
      have AL := Lib.hid (show allT T.length T = (pre ++ [minT K]) ++ allT (popT K).length (popT K) by
        rw [HA.out, popT_len K h0]
        obtain ⟨m, hm⟩ : ∃ m, K.length = m + 1 := ⟨K.length - 1, by omega⟩
        rw [hm, Nat.add_sub_cancel]
        show pre ++ (if K.length = 0 then [] else minT K :: allT m (popT K)) = _
        rw [if_neg (by omega)]
        simp)
      have PL_ := Lib.hid (popT_len K h0)
      have ML := Lib.hid (kLen2_is BB.out)
      obtain ⟨x, hx⟩ : ∃ x, x = minT K := ⟨_, rfl⟩
      rw [← hx] at PO AL
      clear hx
      obtain ⟨K2, hK2⟩ : ∃ K2, K2 = popT K := ⟨_, rfl⟩
      rw [← hK2] at PO AL PL_
      clear hK2
      go_upto_region 4 with (go_at_call 12; refine (PO.out.mono fun _ _ q => RetP.of q).mono ?_; rintro e w5 ⟨a5, d5, rfl, r5, g5⟩; have BC := Lib.hid (BB.out.keep0 g5); have R5 := Lib.hid r5; have VV := Lib.hid (HV.out.keep0 g5); have G5 := Lib.hid g5; clear r5 g5)
      have QA := (IsB.new w5 30 #[.int .i64 cap, .slice a5 K2.length d5])
      have GA := gb_alloc w5 (.cells #[.int .i64 cap, .slice a5 K2.length d5] 30) none
      have BC := BC.out.keep0 GA
      have R6 := Lib.hid (R5.out.keep0 GA)
      have VV := Lib.hid (VV.out.keep0 GA)
      have G6 := Lib.hid (gb_trans G5.out GA)
      have DJ := Lib.hid (show (Value.slice a5 K2.length d5).ownBlock = none ∨ (Value.slice a5 K2.length d5).ownBlock ≠ (Value.slice av pre.length cv).ownBlock from by
        cases e : (Value.slice a5 K2.length d5).ownBlock with
        | none => exact .inl rfl
        | some g =>
          refine .inr fun e2 => ?_
          have p1 := (World.ownsRow.lt R5.out g e).1
          have p2 := (World.ownsRow.lt HV.out g e2.symm).2
          omega)
      have ne : w5.heap.size ≠ z := Nat.ne_of_gt (by have := BC.lt; have := (IsB.lt BB.out); have := G5.out.size; omega)
      obtain ⟨y, hy⟩ : ∃ y, y = w5.heap.size := ⟨_, rfl⟩
      rw [← hy] at QA ne ⊢
      generalize w5.alloc (.cells #[.int .i64 cap, .slice a5 K2.length d5] 30) = w6 at *
      have a0 := QA.cell 0
      have a1 := QA.cell 1
      have b0 := BC.cell 0
      have b1 := BC.cell 1
      have b2 := BC.free 0
      have b3 := BC.free 1
      dsimp at a0 a1 b0 b1
      have BN := Lib.hid ((BC.set 0 (.int .i64 cap)).set 1 (.slice a5 K2.length d5))
      have O1 := own_ne R6.out BC (by decide)
      have O2 := own_ne VV.out BC (by decide)
      have R7 := Lib.hid (World.ownsRow.kept (World.ownsRow.kept R6.out (gb_set w6 z 0 (.int .i64 cap)) (.inr O1)) (gb_set _ z 1 (.slice a5 K2.length d5)) (.inr O1))
      have VV := Lib.hid (World.ownsRow.kept (World.ownsRow.kept VV.out (gb_set w6 z 0 (.int .i64 cap)) (.inr O2)) (gb_set _ z 1 (.slice a5 K2.length d5)) (.inr O2))
      have G7 := Lib.hid (gb_put (g := z) (i := 1) (u := .slice a5 K2.length d5) (gb_put (g := z) (i := 0) (u := .int .i64 cap) (gb_trans HG.out G6.out) (by rw [HZ.out]; exact Nat.le_refl _)) (by rw [HZ.out]; exact Nat.le_refl _))
      clear QA BC GA R6 hy O1 O2
      go_upto_region 5 with fail
      have c8 := BN.out.cell 0
      have l8 := Lib.hid (show w.heap.size ≤ ((w6.setCell ⟨z, 0, none⟩ (.int .i64 cap)).setCell ⟨z, 1, none⟩ (.slice a5 K2.length d5)).heap.size from G7.out.size)
      generalize (w6.setCell ⟨z, 0, none⟩ (.int .i64 cap)).setCell ⟨z, 1, none⟩ (.slice a5 K2.length d5) = w8 at *
      have l3 := Lib.hid (show pre.length ≤ 1000000 by have := HL.out; omega)
      have l4 := Lib.hid (show z ≤ (w8.alloc (.cells #[.int .i64 (kC x), .int .i64 (E (tC x))] 52)).heap.size by rw [alloc_sz, HZ.out]; exact Nat.le_succ_of_le l8.out)
      have VA := Lib.hid (show RL (w8.alloc (.cells #[.int .i64 (kC x), .int .i64 (E (tC x))] 52)) z (.slice av pre.length cv) E pre from own_keep0 VV.out (gb_alloc _ _ none))
      go_wp2_with (at_builtin; refine pushR rfl _ _ rfl z _ E pre rfl VA.out ⟨w8.heap.size, 0, none⟩ 1 x rfl (two_cell _ _ _ E x _ (IsB.new _ _ _) rfl) l3.out l4.out ?_)
      intro V9 w9 r9 g9
      obtain ⟨a9, d9, rfl⟩ := r9.shape
      have GB := gb_alloc w8 (.cells #[.int .i64 (kC x), .int .i64 (E (tC x))] 52) none
      have B9 := (BN.out.keep0 GB).keep g9 (Ne.symm (own_ne VA.out (BN.out.keep0 GB) (by decide)))
      have R9 := World.ownsRow.kept (own_keep0 R7.out GB) g9 DJ.out
      have G9 := gb_lows (gb_trans G7.out GB) g9 fun g e => by rw [← HZ.out]; exact (World.ownsRow.lt VA.out g e).1
      go_wp2
      go_roundw
      case rel => exact ⟨K2, pre ++ [x], a5, d5, B9, own_low R9 (Nat.zero_le _), r9, AL.out, by have := HL.out; have := PL_.out; simp; omega, G9⟩
      case measure => rw [kLen2_is B9, ML.out, PL_.out]; omega
    · have i0 : ¬ (0 : Int) < (K.length : Int) := by omega
      have e0 : allT K.length K = [] := by rw [show K.length = 0 by omega]; rfl
      have FIN := Lib.hid (show RL wr z (.slice av pre.length cv) E (allT T.length T) by rw [HA.out, e0, List.append_nil]; exact HV.out)
      go_wp2
      go_ret
      exact ⟨_, rfl, by rw [← HZ.out]; exact FIN.out, HG.out⟩
end Go.Proofs.Ytmldoeigemippaa
