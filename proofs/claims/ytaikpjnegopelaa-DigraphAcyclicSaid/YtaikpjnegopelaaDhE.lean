/- What lies in memory during the deep search; the walk of enter. -/
import Derived.Test.YtaikpjnegopelaaDgP
import Derived.Test.YtaikpjnegopelaaDhD
namespace Go.Proofs.Ytaikpjnegopelaa
open Go.RowKit
set_option linter.unusedVariables false

structure PM (w0 w : World) (ob eb ev fb n : Nat) (VK VO : Value) (O K F : List Int) (E : List Bool) : Prop where
  lo : w0.heap.size ≤ ob
  o1 : ob < eb
  o2 : eb < ev
  o3 : ev < fb
  vo : IsB w ob 31 #[VK]
  re : OB w eb (.slice (some ⟨eb, 0, none⟩) n n) E
  ve : IsB w ev 28 #[.slice (some ⟨eb, 0, none⟩) n n]
  rf : NL w fb (.slice (some ⟨fb, 0, none⟩) n n) F
  rk : NL w (fb + 1) VK K
  ro : NL w (fb + 1) VO O
  dis : ∀ q, VK.ownBlock = some q → VO.ownBlock ≠ some q
  grown : w0.grownBy w none
  el : n = E.length
  fl : n = F.length
theorem PM.keep {w0 w w2 : World} {ob eb ev fb n : Nat} {VK VO : Value} {O K F : List Int} {E : List Bool} (h : PM w0 w ob eb ev fb n VK VO O K F E) (k : w.grownBy w2 none) : PM w0 w2 ob eb ev fb n VK VO O K F E :=
  ⟨h.lo, h.o1, h.o2, h.o3, h.vo.keep0 k, h.re.keep0 k, h.ve.keep0 k, h.rf.keep0 k, h.rk.keep0 k, h.ro.keep0 k, h.dis, gb_trans h.grown k, h.el, h.fl⟩
theorem PM.kb {w0 w : World} {ob eb ev fb n : Nat} {VK VO : Value} {O K F : List Int} {E : List Bool} (h : PM w0 w ob eb ev fb n VK VO O K F E) {q : Nat} (e : VK.ownBlock = some q) : fb < q := (nl_lt h.rk e).1
theorem PM.ob_ {w0 w : World} {ob eb ev fb n : Nat} {VK VO : Value} {O K F : List Int} {E : List Bool} (h : PM w0 w ob eb ev fb n VK VO O K F E) {q : Nat} (e : VO.ownBlock = some q) : fb < q := (nl_lt h.ro e).1
theorem PM.setE {w0 w : World} {ob eb ev fb n : Nat} {VK VO : Value} {O K F : List Int} {E : List Bool} (h : PM w0 w ob eb ev fb n VK VO O K F E) (x : Nat) (v : Bool) : PM w0 (w.setCell ⟨eb, x, none⟩ (.bool v)) ob eb ev fb n VK VO O K F (E.set x v) := by
  have h1 := h.o1; have h2 := h.o2; have h3 := h.o3; have h4 := h.lo
  refine ⟨h.lo, h.o1, h.o2, h.o3, h.vo.set_far (by omega) x _, h.re.put h.el x v, h.ve.set_far (by omega) x _, ?_, ?_, ?_, h.dis, gb_put h.grown (by omega), by rw [List.length_set]; exact h.el, h.fl⟩
  · exact World.ownsRow.kept h.rf (gb_set w eb x _) (Or.inr (by intro e; have e2 : fb = eb := Option.some.inj e; omega))
  · exact World.ownsRow.kept h.rk (gb_set w eb x _) (blk_ne fun q hq e => by injection e with e; have := h.kb hq; omega)
  · exact World.ownsRow.kept h.ro (gb_set w eb x _) (blk_ne fun q hq e => by injection e with e; have := h.ob_ hq; omega)
theorem PM.setF {w0 w : World} {ob eb ev fb n : Nat} {VK VO : Value} {O K F : List Int} {E : List Bool} (h : PM w0 w ob eb ev fb n VK VO O K F E) (x : Nat) (v : Int) : PM w0 (w.setCell ⟨fb, x, none⟩ (.int .i64 v)) ob eb ev fb n VK VO O K (F.set x v) E := by
  have h1 := h.o1; have h2 := h.o2; have h3 := h.o3; have h4 := h.lo
  refine ⟨h.lo, h.o1, h.o2, h.o3, h.vo.set_far (by omega) x _, ?_, h.ve.set_far (by omega) x _, h.rf.put h.fl x v, ?_, ?_, h.dis, gb_put h.grown (by omega), h.el, by rw [List.length_set]; exact h.fl⟩
  · exact World.ownsRow.kept h.re (gb_set w fb x _) (Or.inr (by intro e; have e2 : eb = fb := Option.some.inj e; omega))
  · exact World.ownsRow.kept h.rk (gb_set w fb x _) (blk_ne fun q hq e => by injection e with e; have := h.kb hq; omega)
  · exact World.ownsRow.kept h.ro (gb_set w fb x _) (blk_ne fun q hq e => by injection e with e; have := h.ob_ hq; omega)
/-- Behind an append to the open ones, before it is stored. -/
theorem PM.mid {w0 w w2 : World} {ob eb ev fb n : Nat} {VK VO : Value} {O K F : List Int} {E : List Bool} (h : PM w0 w ob eb ev fb n VK VO O K F E) (k : w.grownBy w2 VK.ownBlock) : IsB w2 ob 31 #[VK] ∧ OB w2 eb (.slice (some ⟨eb, 0, none⟩) n n) E ∧ IsB w2 ev 28 #[.slice (some ⟨eb, 0, none⟩) n n] ∧ NL w2 fb (.slice (some ⟨fb, 0, none⟩) n n) F ∧ NL w2 (fb + 1) VO O ∧ w0.grownBy w2 none := by
  have h1 := h.o1; have h2 := h.o2; have h3 := h.o3; have h4 := h.lo
  refine ⟨h.vo.keep k fun e => ?_, ?_, h.ve.keep k fun e => ?_, ?_, ?_, gb_own h.grown h.rk (by omega) k⟩
  · have := h.kb e.symm; omega
  · exact World.ownsRow.kept h.re k (blk_ne fun q hq e => by have e2 : eb = q := Option.some.inj hq; have := h.kb e; omega)
  · have := h.kb e.symm; omega
  · exact World.ownsRow.kept h.rf k (blk_ne fun q hq e => by have e2 : fb = q := Option.some.inj hq; have := h.kb e; omega)
  · exact World.ownsRow.kept h.ro k (blk_ne fun q hq e => h.dis q e hq)
/-- The variable of the open ones gets another row. -/
theorem PM.setK {w0 w w2 : World} {ob eb ev fb n : Nat} {VK VO VK2 : Value} {O K K2 F : List Int} {E : List Bool} (h : PM w0 w ob eb ev fb n VK VO O K F E) (k : w.grownBy w2 VK.ownBlock) (o : NL w2 (fb + 1) VK2 K2)
    (hn : VK2.ownBlock = VK.ownBlock ∨ VK2.ownBlock = some w.heap.size) : PM w0 (w2.setCell ⟨ob, 0, none⟩ VK2) ob eb ev fb n VK2 VO O K2 F E := by
  obtain ⟨m1, m2, m3, m4, m5, m6⟩ := h.mid k
  have h1 := h.o1; have h2 := h.o2; have h3 := h.o3; have h4 := h.lo
  refine ⟨h.lo, h.o1, h.o2, h.o3, m1.set 0 _, ?_, m3.set_far (by omega) 0 _, ?_, ?_, ?_, fun q e e2 => ?_, gb_put m6 (by omega), h.el, h.fl⟩
  · exact World.ownsRow.kept m2 (gb_set w2 ob 0 _) (Or.inr (by intro e; have e2 : eb = ob := Option.some.inj e; omega))
  · exact World.ownsRow.kept m4 (gb_set w2 ob 0 _) (Or.inr (by intro e; have e2 : fb = ob := Option.some.inj e; omega))
  · exact World.ownsRow.kept o (gb_set w2 ob 0 _) (blk_ne fun q hq e => by injection e with e; have := (nl_lt o hq).1; omega)
  · exact World.ownsRow.kept m5 (gb_set w2 ob 0 _) (blk_ne fun q hq e => by injection e with e; have := h.ob_ hq; omega)
  · rcases hn with q2 | q2
    · exact h.dis q (q2 ▸ e) e2
    · rw [q2] at e
      injection e with e
      have := (nl_lt h.ro e2).2
      omega
theorem PM.outp {w0 w w2 : World} {ob eb ev fb n : Nat} {VK VO VO2 : Value} {O O2 K F : List Int} {E : List Bool} (h : PM w0 w ob eb ev fb n VK VO O K F E) (o : NL w2 (fb + 1) VO2 O2) (k : w.grownBy w2 VO.ownBlock)
    (hn : VO2.ownBlock = VO.ownBlock ∨ VO2.ownBlock = some w.heap.size) : PM w0 w2 ob eb ev fb n VK VO2 O2 K F E := by
  have h1 := h.o1; have h2 := h.o2; have h3 := h.o3; have h4 := h.lo
  refine ⟨h.lo, h.o1, h.o2, h.o3, h.vo.keep k fun e => ?_, ?_, h.ve.keep k fun e => ?_, ?_, ?_, o, fun q e e2 => ?_, gb_own h.grown h.ro (by omega) k, h.el, h.fl⟩
  · have := h.ob_ e.symm; omega
  · exact World.ownsRow.kept h.re k (blk_ne fun q hq e => by have e2 : eb = q := Option.some.inj hq; have := h.ob_ e; omega)
  · have := h.ob_ e.symm; omega
  · exact World.ownsRow.kept h.rf k (blk_ne fun q hq e => by have e2 : fb = q := Option.some.inj hq; have := h.ob_ e; omega)
  · exact World.ownsRow.kept h.rk k (blk_ne fun q hq e => h.dis q hq e)
  · rcases hn with q2 | q2
    · exact h.dis q e (q2 ▸ e2)
    · rw [q2] at e2
      injection e2 with e2
      have := (nl_lt h.rk e).2
      omega

set_option maxRecDepth 100000 in
set_option maxHeartbeats 1000000 in
theorem enter_any (w0 w : World) (ob eb ev fb n : Nat) (VK VO : Value) (O K F : List Int) (E : List Bool) (x : Nat) (h : PM w0 w ob eb ev fb n VK VO O K F E) (hx : x < n) (hK : K.length ≤ 100000) :
    Calls Try.prog 51 #[.int .i64 x, .pointer (some ⟨ev, 0, none⟩), .pointer (some ⟨ob, 0, none⟩)] w fun e w2 => e = .returned (.tuple #[]) ∧ ∃ VK2, PM w0 w2 ob eb ev fb n VK2 VO O (K ++ [(x : Int)]) F (E.set x true) := by
  have c1 : w.cell? ⟨ev, 0, none⟩ = some (.slice (some ⟨eb, 0, none⟩) n n) := h.ve.cell 0
  have f1 := h.re.free h.el x
  have ix : (x : Int) < n := by omega
  have P1 := Lib.hid (h.setE x true)
  have c2 : (w.setCell ⟨eb, x, none⟩ (.bool true)).cell? ⟨ob, 0, none⟩ = some VK := P1.out.vo.cell 0
  have cE := h.re.at_ h.el x (by have := h.el; omega)
  obtain ⟨ka, kc, rfl⟩ := h.rk.shape
  clear h
  have A1 := Lib.hid (gb_alloc (w.setCell ⟨eb, x, none⟩ (.bool true)) (.cells #[.int .i64 x] 3) none)
  have SZ := Lib.hid (show fb + 1 ≤ (w.setCell ⟨eb, x, none⟩ (.bool true)).heap.size from (nl_lt P1.out.rf (q := fb) rfl).2)
  go_enter Try.func51, Try.ntmps51
  go_wp2_with (at_builtin; refine npush_fresh rfl _ _ rfl (fb + 1) _ K rfl (P1.out.rk.keep0 A1.out) _ _ (x : Int) rfl (slr_one _ _ _ _ _ (by simp [World.setCell])) (by omega) (Nat.le_trans SZ.out A1.out.size) ?_)
  intro V4 w4 o4 g4 n4
  obtain ⟨k4, kc4, hV⟩ := o4.shape
  obtain ⟨lo, hlo⟩ : ∃ lo, lo = (K ++ [(x : Int)]).length := ⟨_, rfl⟩
  rw [← hlo] at hV
  subst hV
  clear hlo
  have P2 := Lib.hid (P1.out.keep A1.out)
  have M2 := P2.out.mid g4
  have cv : w4.cell? ⟨ob, 0, none⟩ = some (.slice ka K.length kc) := M2.1.cell 0
  have fv := M2.1.free 0
  have P3 := Lib.hid (P2.out.setK g4 o4 (by rcases n4 with e | e; exact .inl e; exact .inr (by rw [e]; simp [World.setCell, World.alloc])))
  clear o4 g4 n4 M2
  go_wp2
  go_end0
  exact ⟨rfl, _, P3.out⟩
end Go.Proofs.Ytaikpjnegopelaa
