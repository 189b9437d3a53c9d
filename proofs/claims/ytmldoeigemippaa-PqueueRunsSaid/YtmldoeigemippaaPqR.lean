/- The law's awake. -/
import Derived.Test.YtmldoeigemippaaPqQ
namespace Go.Proofs.Ytmldoeigemippaa
open Go.RowKit
set_option linter.unusedVariables false

theorem KI.low {TI : TypeId → Prop} {B n : Nat} (h : n ≤ B) : ∀ i o, i < n → ¬ KI TI B i o := fun i o hi q => by have := q.1; omega
theorem Kt.ts_gb {W w w2 : World} {TI : TypeId → Prop} (h : W.grownBy w none) (k : Kt (KI TI W.heap.size) w w2) : W.grownBy w2 none := k.from_ h (KI.low (Nat.le_refl _))
def aE : Int → Int := upd (upd (upd (upd (fun _ => 0) 0 10) (0 + 1) 11) (0 + 1 + 1) 12) (0 + 1 + 1 + 1) 13
def aT : List Int := [] ++ [codeOf 5 0] ++ [codeOf 3 (0 + 1)] ++ [codeOf 5 (0 + 1 + 1)] ++ [codeOf 3 (0 + 1 + 1 + 1)]
def aS : List Int := [codeOf 3 1, codeOf 3 3, codeOf 5 0, codeOf 5 2]
theorem aT_all : (allT aT.length aT).take 9 = aS := by decide +kernel
theorem aT_min : kC (minT aT) = 3 ∧ aE (tC (minT aT)) = 11 := by decide +kernel
theorem aT_pop : (popT aT).length = 3 := by decide +kernel
theorem aS_cells : aS.flatMap (itR aE) = [.int .i64 3, .int .i64 11, .int .i64 3, .int .i64 13, .int .i64 5, .int .i64 10, .int .i64 5, .int .i64 12] := by
  have h : aS.map kC = [3, 3, 5, 5] ∧ aS.map (fun c => aE (tC c)) = [11, 13, 10, 12] := by decide +kernel
  simp only [aS, List.map_cons, List.map_nil, List.cons.injEq, and_true] at h
  obtain ⟨⟨h1, h2, h3, h4⟩, g1, g2, g3, g4⟩ := h
  simp only [aS, List.flatMap_cons, List.flatMap_nil, itR, h1, h2, h3, h4, g1, g2, g3, g4, List.cons_append, List.nil_append]
theorem lit_sr (w : World) (t : TypeId) (b : Nat) (E : Int → Int) (T : List Int) (cs : Array Value) (h : IsB w b t cs) (hc : cs.toList = T.flatMap (itR E)) (n c : Nat) (hn : T.length = n) : SR w (some ⟨b, 0, none⟩) n c E T := by
  refine ⟨hn, (by intro e; cases e), fun ad e j u hu => ?_⟩
  injection e with e; subst e
  rw [addr0, h.cell j, ← hu, ← hc]
  simp
theorem aw_list {W w : World} {q s : Nat} {cap p : Int} (h : DQ W q s cap aE p aT w) : Calls Try.prog 16 #[.pointer (some ⟨q, 0, none⟩), .int .i64 9] w fun e w' => ∃ a c, e = .returned (.tuple #[.slice a 4 c, .bool true]) ∧ RL w' w.heap.size (.slice a 4 c) aE aS ∧ w.grownBy w' none := by
  have k := dq_list h (by decide) 9 (by decide)
  rw [aT_all] at k
  refine Calls.mono k ?_
  rintro e w' ⟨V, rfl, r, g⟩
  obtain ⟨a, c, rfl⟩ := r.shape
  exact ⟨a, c, rfl, r, g⟩
theorem aw_pop {W w : World} {q s : Nat} {cap p : Int} (h : DQ W q s cap aE p aT w) : Calls Try.prog 13 #[.pointer (some ⟨q, 0, none⟩)] w fun e w' => e = .returned (.tuple #[.int .i64 3, .int .i64 11, .bool true]) ∧ DQ W q s cap aE p (popT aT) w' ∧ Kt (KI TS W.heap.size) w w' := by
  have k := dq_pop h (by decide) (by decide)
  rwa [aT_min.1, aT_min.2] at k
theorem aw_len {W w : World} {q s : Nat} {cap p : Int} (h : DQ W q s cap aE p (popT aT) w) : Calls Try.prog 19 #[.pointer (some ⟨q, 0, none⟩)] w (RetS (.int .i64 3) w) := by
  have k := dq_len h
  rwa [aT_pop] at k
theorem TS_no {n b : Nat} {cs : Array Value} (h : KI TS n b (.cells cs 52 (0, 0))) : False := by rcases h.2 with e | e <;> exact absurd e (by decide)
set_option maxRecDepth 100000 in
set_option maxHeartbeats 1000000 in
theorem awake_any (w : World) : Calls Try.prog 7 #[] w (RetV (.bool true) w) := by
  have D0 := DQ.new w w (fun _ => 0) 4 (gb_refl _ _)
  go_enter Try.func7, Try.ntmps7
  go_upto_region 2 with (go_at_call 8; refine (new_good _ 4 (by decide) (by decide)).mono ?_; rintro e w1 ⟨rfl, rfl⟩)
  generalize (w.alloc (.cells #[.int .i64 4, .int .u64 0, .slice none 0 0] 62)).alloc (.cells #[.pointer (some ⟨w.heap.size, 0, none⟩)] 56) = w1 at *
  have N0 : NQ (w1.heap.size + 1) w1.heap.size 0 ((w1.alloc (.cells #[.int .i64 0, .int .u64 0, .slice none 0 0] 62)).alloc (.cells #[.pointer (some ⟨w1.heap.size, 0, none⟩)] 56)) := ⟨isb_last _ _ _ _, new_old _ _ _ _⟩
  have ne1 : w1.heap.size ≠ w.heap.size := by obtain ⟨V, H, h1, _⟩ := D0.ex; exact Nat.ne_of_gt h1.hq.var.lt
  have ne2 : w1.heap.size + 1 ≠ w.heap.size := by obtain ⟨V, H, h1, _⟩ := D0.ex; have := h1.hq.var.lt; omega
  have D1 := D0.keep0 (gb_trans (gb_alloc w1 (.cells #[.int .i64 0, .int .u64 0, .slice none 0 0] 62) none) (gb_alloc _ (.cells #[.pointer (some ⟨w1.heap.size, 0, none⟩)] 56) none))
  go_upto_region 3 with (go_at_call 8; refine (new_good _ 0 (by decide) (by decide)).mono ?_; rintro e w2 ⟨rfl, rfl⟩)
  generalize (w1.alloc (.cells #[.int .i64 0, .int .u64 0, .slice none 0 0] 62)).alloc (.cells #[.pointer (some ⟨w1.heap.size, 0, none⟩)] 56) = w2 at *
  have lq2 : w.heap.size ≤ w1.heap.size + 1 := Nat.le_succ_of_le D0.grown.size
  have ls2 : w.heap.size ≤ w1.heap.size := D0.grown.size
  obtain ⟨q, hq⟩ : ∃ q, q = w.heap.size + 1 := ⟨_, rfl⟩
  obtain ⟨s, hs⟩ : ∃ s, s = w.heap.size := ⟨_, rfl⟩
  obtain ⟨q2, hq2⟩ : ∃ q, q = w1.heap.size + 1 := ⟨_, rfl⟩
  obtain ⟨s2, hs2⟩ : ∃ s, s = w1.heap.size := ⟨_, rfl⟩
  rw [← hq] at D1 ⊢
  rw [← hq2] at N0 ne2 lq2 ⊢
  rw [← hs] at D1 ne1 ne2
  rw [← hs2] at N0 ne1 ls2
  clear hq hs hq2 hs2 D0
  go_upto_region 5 with fail
  have P1 := dq_push D1 5 10 (by decide) (by decide) (by decide)
  go_wp2_with (first
    | (go_at_call 11; refine P1.mono ?_; clear P1; rintro e w3 ⟨rfl, D3, -, f3⟩; have N3 := N0.kept f3 ne2 ne1; clear f3; have P2 := dq_push D3 3 11 (by decide) (by decide) (by decide))
    | (go_at_call 11; refine P2.mono ?_; clear P2; rintro e w4 ⟨rfl, D4, -, f4⟩; have N4 := N3.kept f4 ne2 ne1; clear f4; have P3 := dq_push D4 5 12 (by decide) (by decide) (by decide))
    | (go_at_call 11; refine P3.mono ?_; clear P3; rintro e w5 ⟨rfl, D5, -, f5⟩; have N5 := N4.kept f5 ne2 ne1; clear f5; have P4 := dq_push D5 3 13 (by decide) (by decide) (by decide))
    | (go_at_call 11; refine P4.mono ?_; clear P4; rintro e w6 ⟨rfl, D6, -, f6⟩; have N6 := N5.kept f6 ne2 ne1; clear f6; have P5 := dq_full D6 1 14 (by decide))
    | (go_at_call 11; refine P5.mono ?_; clear P5; rintro e w7 ⟨rfl, g7⟩; have D7 := D6.keep0 g7; have P6 := push_full w w7 q2 s2 0 0 (.slice none 0 0) (fun _ => 0) [] 1 1 ⟨N6.a.keep0 g7, ⟨N6.b.keep0 g7, rfl, PL.nil _ _ _, D7.grown, ls2, Nat.le_refl _⟩, lq2⟩ (by decide); clear g7)
    | (go_at_call 11; refine P6.mono ?_; clear P6; rintro e w8 ⟨rfl, g8⟩; have D8 := D7.keep0 g8; clear g8)
    | (go_at_call 16; refine (aw_list D8).mono ?_; rintro e w9 ⟨a9, c9, rfl, r9, g9⟩; have D9 := D8.keep0 g9; clear D8 g9)
    | (go_at_call 13; refine (aw_pop D9).mono ?_; clear D9; rintro e w10 ⟨rfl, D10, k10⟩; have r10 : RL w10 w8.heap.size (.slice a9 4 c9) aE aS := k10.row r9 (fun _ _ => TS_no); clear k10 r9)
    | (go_at_call 17; refine (equal_any _ a9 _ 4 c9 4 aE aE aS aS ((r10.keep0 (gb_alloc _ _ none)).sr rfl) (lit_sr _ _ _ aE aS _ (IsB.new _ _ _) aS_cells.symm 4 4 rfl) rfl (by decide)).mono ?_; rintro e w11 ⟨rfl, g11⟩; have D11 := D10.keep0 (gb_trans (gb_alloc _ _ none) g11); clear D10)
    | (go_at_call 19; refine (aw_len D11).mono ?_; rintro e w12 ⟨rfl, rfl⟩))
  go_ret
  exact ⟨rfl, D11.grown⟩
end Go.Proofs.Ytmldoeigemippaa
