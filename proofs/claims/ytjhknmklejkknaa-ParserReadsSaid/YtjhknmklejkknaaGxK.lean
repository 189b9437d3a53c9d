/- Several texts in one: PsD, PsE. -/
import Derived.Test.YtjhknmklejkknaaPsC
import Derived.BigQuiet
section
namespace Go.Proofs.Ytjhknmklejkknaa
open Go.RowKit
set_option linter.unusedVariables false
/-- What checkDeclaration answers. -/
def declX (bi bd bh sl : Bool) (xn cn : Nat) (wd : Int) : Int :=
  if bi = false then 6 else if bd = true then 7 else if 4 < xn ∨ 8 < cn then 12 else if bh = false ∨ (sl = true ∧ wd = 0) then 8 else if sl = false ∧ 0 < cn then 11 else 0
theorem declE_X (H : List (ByteArray × List Fld)) (M : List Fld) (S : List Pst) (i : Nat) : declE H M S i = declX (isI (S.getD i psz).nm) (dupB S i) (exOk H.length (S.getD i psz).ex) (S.getD i psz).sl (S.getD i psz).ex.length (S.getD i psz).cs.length (widE H M (S.getD i psz).h (S.getD i psz).f) := rfl
set_option maxRecDepth 100000 in
set_option maxHeartbeats 8000000 in
theorem pdecl_any (w : World) (nm v3 v4 v5 v7 v8 : Value) (ha ma sa : Option Addr) (hn hc mn mc sn sc : Nat) (H : List (ByteArray × List Fld)) (M : List Fld) (hH : SH w ha hn hc H) (hM : SF w ma mn mc M) (s0 : ByteArray) (xa ca : Option Addr) (xn xc cn cc : Nat) (sl : Bool) (h9 f9 df : Int) (ex : List Int) (hx : SI w xa xn xc ex) (b : Nat) (T : List ByteArray) (hm : MS w b T) (hsz : s0.size ≤ 9223372036854775807) (r : Int) (hr : r = declX (isI s0) (T.any fun y => eqS y s0) (exOk hn ex) sl xn cn (widE H M h9 f9)) :
    Calls Try.prog 45 #[.agg #[nm, .slice ha hn hc, .slice ma mn mc, v3, v4, v5, .slice sa sn sc, v7, v8], .agg #[.string s0, .slice xa xn xc, .bool sl, .int .i64 h9, .int .i64 f9, .slice ca cn cc, .int .i64 df], .map (some b)] w (RetV (.int .i64 r) w) := by
  have KI := Lib.hid (fun (W : World) => isI_any W s0 hsz)
  have KH := Lib.hid (fun (W : World) (q : w.grownBy W none) (h4 : xn ≤ 4) => phas_any W nm v3 v4 v5 v7 v8 ha ma sa hn hc mn mc sn sc xa xn xc ex (hx.keep0 q) (by omega))
  have KW := Lib.hid (fun (W : World) (q : w.grownBy W none) => ewid_any W nm v3 v4 v5 (.slice sa sn sc) v7 v8 ha ma hn hc mn mc H M (hH.keep0 q) (hM.keep0 q) h9 f9)
  have ML := Lib.hid (fun (W : World) (q : w.grownBy W none) (h : isI s0 = true) => (hm.keep0 q).look s0 (Nat.le_trans (isI_size h) (by unfold maxLen; omega)))
  have HR := Lib.hid hr
  unfold RetG at KI
  unfold RetV at KH KW
  have G1 := Lib.hid (gb_trans (gb_alloc w (.cells #[nm, .slice ha hn hc, .slice ma mn mc, v3, v4, v5, .slice sa sn sc, v7, v8] 31) none) (gb_alloc _ (.cells #[.string s0, .slice xa xn xc, .bool sl, .int .i64 h9, .int .i64 f9, .slice ca cn cc, .int .i64 df] 55) none))
  have B1 := (IsB.new w 31 #[nm, .slice ha hn hc, .slice ma mn mc, v3, v4, v5, .slice sa sn sc, v7, v8]).alloc (.cells #[.string s0, .slice xa xn xc, .bool sl, .int .i64 h9, .int .i64 f9, .slice ca cn cc, .int .i64 df] 55)
  have B2 := IsB.new (w.alloc (.cells #[nm, .slice ha hn hc, .slice ma mn mc, v3, v4, v5, .slice sa sn sc, v7, v8] 31)) 55 #[.string s0, .slice xa xn xc, .bool sl, .int .i64 h9, .int .i64 f9, .slice ca cn cc, .int .i64 df]
  simp only [sz_al] at B2
  replace B1 := Lib.hid B1
  replace B2 := Lib.hid B2
  clear hH hM hx hm hsz hr
  go_enter Try.func45, Try.ntmps45
  go_upto_region 1 with fail
  generalize (w.alloc (.cells #[nm, .slice ha hn hc, .slice ma mn mc, v3, v4, v5, .slice sa sn sc, v7, v8] 31)).alloc (.cells #[.string s0, .slice xa xn xc, .bool sl, .int .i64 h9, .int .i64 f9, .slice ca cn cc, .int .i64 df] 55) = w1 at *
  obtain ⟨bx, hbx⟩ : ∃ b, b = w.heap.size := ⟨_, rfl⟩
  have Lbx := Lib.hid (show w.heap.size ≤ bx by rw [hbx]; exact Nat.le_refl _)
  rw [← hbx] at B1 B2 ⊢
  clear hbx
  generalize isI s0 = bi at *
  generalize (T.any fun y => eqS y s0) = bd at *
  generalize exOk hn ex = bh at *
  generalize widE H M h9 f9 = wd at *
  have G0 := Lib.hid (gb_refl w1 none)
  have c0 := (B1.out.keep0 (gb_refl _ _)).cell 0
  have c1 := (B1.out.keep0 (gb_refl _ _)).cell 1
  have c2 := (B1.out.keep0 (gb_refl _ _)).cell 2
  have c3 := (B1.out.keep0 (gb_refl _ _)).cell 3
  have c4 := (B1.out.keep0 (gb_refl _ _)).cell 4
  have c5 := (B1.out.keep0 (gb_refl _ _)).cell 5
  have c6 := (B1.out.keep0 (gb_refl _ _)).cell 6
  have c7 := (B1.out.keep0 (gb_refl _ _)).cell 7
  have c8 := (B1.out.keep0 (gb_refl _ _)).cell 8
  dsimp at c0 c1 c2 c3 c4 c5 c6 c7 c8
  have x0 := (B2.out.keep0 (gb_refl _ _)).cell 0
  have x1 := (B2.out.keep0 (gb_refl _ _)).cell 1
  have x2 := (B2.out.keep0 (gb_refl _ _)).cell 2
  have x3 := (B2.out.keep0 (gb_refl _ _)).cell 3
  have x4 := (B2.out.keep0 (gb_refl _ _)).cell 4
  have x5 := (B2.out.keep0 (gb_refl _ _)).cell 5
  have x6 := (B2.out.keep0 (gb_refl _ _)).cell 6
  dsimp at x0 x1 x2 x3 x4 x5 x6
  go_wp2_with fail
  refine (KI.out _).mono ?_
  rintro e9 w2 ⟨rfl, g⟩
  have G2 := Lib.hid (gb_trans G0.out g)
  clear g
  clear c0 c1 c2 c3 c4 c5 c6 c7 c8 x0 x1 x2 x3 x4 x5 x6
  have c0 := (B1.out.keep0 G2.out).cell 0
  have c1 := (B1.out.keep0 G2.out).cell 1
  have c2 := (B1.out.keep0 G2.out).cell 2
  have c3 := (B1.out.keep0 G2.out).cell 3
  have c4 := (B1.out.keep0 G2.out).cell 4
  have c5 := (B1.out.keep0 G2.out).cell 5
  have c6 := (B1.out.keep0 G2.out).cell 6
  have c7 := (B1.out.keep0 G2.out).cell 7
  have c8 := (B1.out.keep0 G2.out).cell 8
  dsimp at c0 c1 c2 c3 c4 c5 c6 c7 c8
  have x0 := (B2.out.keep0 G2.out).cell 0
  have x1 := (B2.out.keep0 G2.out).cell 1
  have x2 := (B2.out.keep0 G2.out).cell 2
  have x3 := (B2.out.keep0 G2.out).cell 3
  have x4 := (B2.out.keep0 G2.out).cell 4
  have x5 := (B2.out.keep0 G2.out).cell 5
  have x6 := (B2.out.keep0 G2.out).cell 6
  dsimp at x0 x1 x2 x3 x4 x5 x6
  cases bi
  · have Z := Lib.hid (show r = 6 by rw [HR.out]; simp [declX])
    go_wp2
    go_ret
    exact ⟨by rw [Z.out] <;> rfl, gb_trans G1.out G2.out⟩
  have hrun := ML.out _ (gb_trans G1.out G2.out) rfl
  cases bd
  case true =>
    have Z := Lib.hid (show r = 7 by rw [HR.out]; simp [declX])
    go_wp2
    go_ret
    exact ⟨by rw [Z.out] <;> rfl, gb_trans G1.out G2.out⟩
  by_cases h4 : 4 < xn
  · have i4 : decide ((4 : Int) < xn) = true := decide_eq_true (by omega)
    have Z := Lib.hid (show r = 12 by rw [HR.out]; simp [declX, h4])
    go_wp2
    go_ret
    exact ⟨by rw [Z.out] <;> rfl, gb_trans G1.out G2.out⟩
  have i4 : decide ((4 : Int) < xn) = false := decide_eq_false (by omega)
  by_cases h8 : 8 < cn
  · have i8 : decide ((8 : Int) < cn) = true := decide_eq_true (by omega)
    have Z := Lib.hid (show r = 12 by rw [HR.out]; simp [declX, h8])
    go_wp2
    go_ret
    exact ⟨by rw [Z.out] <;> rfl, gb_trans G1.out G2.out⟩
  have i8 : decide ((8 : Int) < cn) = false := decide_eq_false (by omega)
  go_wp2_with fail
  refine (KH.out _ (gb_trans G1.out G2.out) (by omega)).mono ?_
  rintro e9 w3 ⟨rfl, g⟩
  have G3 := Lib.hid (gb_trans G2.out g)
  clear g
  clear c0 c1 c2 c3 c4 c5 c6 c7 c8 x0 x1 x2 x3 x4 x5 x6
  have c0 := (B1.out.keep0 G3.out).cell 0
  have c1 := (B1.out.keep0 G3.out).cell 1
  have c2 := (B1.out.keep0 G3.out).cell 2
  have c3 := (B1.out.keep0 G3.out).cell 3
  have c4 := (B1.out.keep0 G3.out).cell 4
  have c5 := (B1.out.keep0 G3.out).cell 5
  have c6 := (B1.out.keep0 G3.out).cell 6
  have c7 := (B1.out.keep0 G3.out).cell 7
  have c8 := (B1.out.keep0 G3.out).cell 8
  dsimp at c0 c1 c2 c3 c4 c5 c6 c7 c8
  have x0 := (B2.out.keep0 G3.out).cell 0
  have x1 := (B2.out.keep0 G3.out).cell 1
  have x2 := (B2.out.keep0 G3.out).cell 2
  have x3 := (B2.out.keep0 G3.out).cell 3
  have x4 := (B2.out.keep0 G3.out).cell 4
  have x5 := (B2.out.keep0 G3.out).cell 5
  have x6 := (B2.out.keep0 G3.out).cell 6
  dsimp at x0 x1 x2 x3 x4 x5 x6
  clear hrun i4 i8
  cases bh
  · have Z := Lib.hid (show r = 8 by rw [HR.out]; simp [declX, h4, h8])
    go_wp2
    go_ret
    exact ⟨by rw [Z.out] <;> rfl, gb_trans G1.out G3.out⟩
  cases sl
  · by_cases hc0 : 0 < cn
    · have i9 : decide ((0 : Int) < cn) = true := decide_eq_true (by omega)
      have Z := Lib.hid (show r = 11 by rw [HR.out]; simp [declX, h4, h8, hc0])
      go_wp2
      go_ret
      exact ⟨by rw [Z.out] <;> rfl, gb_trans G1.out G3.out⟩
    · have i9 : decide ((0 : Int) < cn) = false := decide_eq_false (by omega)
      have Z := Lib.hid (show r = 0 by rw [HR.out]; simp [declX, h4, h8, hc0])
      go_wp2
      go_ret
      exact ⟨by rw [Z.out] <;> rfl, gb_trans G1.out G3.out⟩
  · go_wp2_with fail
    refine (KW.out _ (gb_trans G1.out G3.out)).mono ?_
    rintro e9 w4 ⟨rfl, g⟩
    have G4 := Lib.hid (gb_trans G3.out g)
    clear g
    clear c0 c1 c2 c3 c4 c5 c6 c7 c8 x0 x1 x2 x3 x4 x5 x6
    have c0 := (B1.out.keep0 G4.out).cell 0
    have c1 := (B1.out.keep0 G4.out).cell 1
    have c2 := (B1.out.keep0 G4.out).cell 2
    have c3 := (B1.out.keep0 G4.out).cell 3
    have c4 := (B1.out.keep0 G4.out).cell 4
    have c5 := (B1.out.keep0 G4.out).cell 5
    have c6 := (B1.out.keep0 G4.out).cell 6
    have c7 := (B1.out.keep0 G4.out).cell 7
    have c8 := (B1.out.keep0 G4.out).cell 8
    dsimp at c0 c1 c2 c3 c4 c5 c6 c7 c8
    have x0 := (B2.out.keep0 G4.out).cell 0
    have x1 := (B2.out.keep0 G4.out).cell 1
    have x2 := (B2.out.keep0 G4.out).cell 2
    have x3 := (B2.out.keep0 G4.out).cell 3
    have x4 := (B2.out.keep0 G4.out).cell 4
    have x5 := (B2.out.keep0 G4.out).cell 5
    have x6 := (B2.out.keep0 G4.out).cell 6
    dsimp at x0 x1 x2 x3 x4 x5 x6
    by_cases hw : wd = 0
    · subst hw
      have Z := Lib.hid (show r = 8 by rw [HR.out]; simp [declX, h4, h8])
      go_wp2
      go_ret
      exact ⟨by rw [Z.out] <;> rfl, gb_trans G1.out G4.out⟩
    · have q0 : (wd == 0) = false := by simp [hw]
      have Z := Lib.hid (show r = 0 by rw [HR.out]; simp [declX, h4, h8, hw])
      go_wp2
      go_ret
      exact ⟨by rw [Z.out] <;> rfl, gb_trans G1.out G4.out⟩
end Go.Proofs.Ytjhknmklejkknaa
end
section
namespace Go.Proofs.Ytjhknmklejkknaa
open Go.RowKit
set_option linter.unusedVariables false
theorem TrC.one {H : List (ByteArray × List Fld)} {M : List Fld} {S : List Pst} {i : Nat} {a e a2 e2 : Int} (h : TrC H M S i a e) (h2 : TrC H M S i a2 e2) : a = a2 ∧ e = e2 := by
  rcases h with ⟨k, hk, b, x, q1, q2⟩ | ⟨b, x, q1, q2⟩ | ⟨b, x, q1, q2⟩
  · have := h2.bad hk b x; exact ⟨q1.trans this.1.symm, q2.trans this.2.symm⟩
  · have := h2.low b x; exact ⟨q1.trans this.1.symm, q2.trans this.2.symm⟩
  · have := h2.good b x; exact ⟨q1.trans this.1.symm, q2.trans this.2.symm⟩
theorem dup_map (S : List Pst) (i : Nat) : (((S.take i).map (·.nm)).any fun y => eqS y (S.getD i psz).nm) = dupB S i := by
  unfold dupB; rw [List.any_map]; rfl
theorem gb_map {W w w2 : World} {b : Nat} (h : W.grownBy w none) (k : w.grownBy w2 (some b)) (hb : W.heap.size ≤ b) : W.grownBy w2 none := by
  refine ⟨k.os.trans h.os, k.tape.trans h.tape, k.output.trans h.output, Nat.le_trans h.size k.size, fun i hi _ => ?_⟩
  rw [k.block i (by have := h.size; omega) (fun e => by injection e with e; omega)]
  exact h.block i hi (by simp)
theorem ret_iii {k k2 k3 : IntKind} {a b c d x y : Int} (h : a = b) (g : c = d) (q : x = y) : Ending.returned (.tuple #[.int k a, .int k2 c, .int k3 x]) = .returned (.tuple #[.int k b, .int k2 d, .int k3 y]) := by rw [h, g, q]
set_option maxRecDepth 100000 in
set_option maxHeartbeats 8000000 in
theorem pcheck_any (w : World) (nm v3 v4 v5 v7 v8 : Value) (ha ma sa : Option Addr) (hn hc mn mc sn sc : Nat) (H : List (ByteArray × List Fld)) (M : List Fld) (S : List Pst) (hH : SH w ha hn hc H) (hM : SF w ma mn mc M) (hS : SPs w sa sn sc S) (hnz : ∀ i, (S.getD i psz).nm.size ≤ 9223372036854775807) (a b e : Int) (hr : PkC H M S a b e) :
    Calls Try.prog 14 #[.agg #[nm, .slice ha hn hc, .slice ma mn mc, v3, v4, v5, .slice sa sn sc, v7, v8]] w (RetV (.tuple #[.int .i64 a, .int .i64 b, .int .i64 e]) w) := by
  have LS := Lib.hid hS.len
  have LH := Lib.hid hH.len
  have HR := Lib.hid hr
  have HS := Lib.hid hS
  have NZ := Lib.hid hnz
  have KD := Lib.hid (fun (W : World) (q : w.grownBy W none) => pdecl_any W nm v3 v4 v5 v7 v8 ha ma sa hn hc mn mc sn sc H M (hH.keep0 q) (hM.keep0 q))
  have KT := Lib.hid (fun (W : World) (q : w.grownBy W none) => ptrans_any W nm v3 v4 v5 v7 v8 ha ma sa hn hc mn mc sn sc H M S (hH.keep0 q) (hM.keep0 q) (hS.keep0SPs q))
  have G1 := Lib.hid (gb_alloc w (.cells #[nm, .slice ha hn hc, .slice ma mn mc, v3, v4, v5, .slice sa sn sc, v7, v8] 31) none)
  have B1 := IsB.new w 31 #[nm, .slice ha hn hc, .slice ma mn mc, v3, v4, v5, .slice sa sn sc, v7, v8]
  replace B1 := Lib.hid B1
  clear hH hM hS hr hnz
  have hmm := @run_makeMap Try.prog
  go_enter Try.func14, Try.ntmps14
  go_upto_region 1 with fail
  generalize w.alloc (.cells #[nm, .slice ha hn hc, .slice ma mn mc, v3, v4, v5, .slice sa sn sc, v7, v8] 31) = w1 at *
  obtain ⟨bx, hbx⟩ : ∃ b, b = w.heap.size := ⟨_, rfl⟩
  have Lbx := Lib.hid (show w.heap.size ≤ bx by rw [hbx]; exact Nat.le_refl _)
  rw [← hbx] at B1 ⊢
  clear hbx
  have c0 := (B1.out.keep0 (gb_refl _ _)).cell 0
  have c1 := (B1.out.keep0 (gb_refl _ _)).cell 1
  have c2 := (B1.out.keep0 (gb_refl _ _)).cell 2
  have c3 := (B1.out.keep0 (gb_refl _ _)).cell 3
  have c4 := (B1.out.keep0 (gb_refl _ _)).cell 4
  have c5 := (B1.out.keep0 (gb_refl _ _)).cell 5
  have c6 := (B1.out.keep0 (gb_refl _ _)).cell 6
  have c7 := (B1.out.keep0 (gb_refl _ _)).cell 7
  have c8 := (B1.out.keep0 (gb_refl _ _)).cell 8
  dsimp at c0 c1 c2 c3 c4 c5 c6 c7 c8
  by_cases h0 : sn = 0
  · have q0 : ((sn : Int) == 0) = true := by simp [h0]
    have E := Lib.hid (HR.out.zero (by rw [LS.out]; exact h0))
    go_wp2
    go_ret3
    exact ⟨ret_iii E.out.1.symm E.out.2.1.symm E.out.2.2.symm, G1.out⟩
  have q0 : ((sn : Int) == 0) = false := by simp [h0]
  by_cases h1 : 12 < sn
  · have i1 : (12 : Int) < sn := by omega
    have E := Lib.hid (HR.out.many (by rw [LS.out]; exact h1))
    go_wp2
    go_ret3
    exact ⟨ret_iii E.out.1.symm E.out.2.1.symm E.out.2.2.symm, G1.out⟩
  have i1 : ¬ (12 : Int) < sn := by omega
  obtain ⟨sd, hsd⟩ := HS.out.some (by omega)
  subst hsd
  have P0 := Lib.hid (show 0 < S.length by rw [LS.out]; omega)
  have P1 := Lib.hid (show S.length ≤ 12 by rw [LS.out]; omega)
  obtain ⟨bm, hbm⟩ : ∃ b, b = w1.heap.size := ⟨_, rfl⟩
  obtain ⟨w3, hw3⟩ : ∃ w3, w3 = w1.alloc (.map #[] 0) := ⟨_, rfl⟩
  have M3 := Lib.hid (show MS w3 bm ((S.take 0).map (·.nm)) by rw [hw3, hbm]; exact MS.new w1)
  have G3 := Lib.hid (show w1.grownBy w3 none by rw [hw3]; exact gb_alloc _ _ _)
  have LB := Lib.hid (show w1.heap.size ≤ bm by rw [hbm]; exact Nat.le_refl _)
  go_upto_region 6 with fail
  rw [← hw3, ← hbm]
  clear hw3 hbm q0 i1
  clear c0 c1 c2 c3 c4 c5 c6 c7 c8
  have c0 := (B1.out.keep0 G3.out).cell 0
  have c1 := (B1.out.keep0 G3.out).cell 1
  have c2 := (B1.out.keep0 G3.out).cell 2
  have c3 := (B1.out.keep0 G3.out).cell 3
  have c4 := (B1.out.keep0 G3.out).cell 4
  have c5 := (B1.out.keep0 G3.out).cell 5
  have c6 := (B1.out.keep0 G3.out).cell 6
  have c7 := (B1.out.keep0 G3.out).cell 7
  have c8 := (B1.out.keep0 G3.out).cell 8
  dsimp at c0 c1 c2 c3 c4 c5 c6 c7 c8
  go_wp2
  clear c0 c1 c2 c3 c4 c5 c6 c7 c8
  go_loopw [22] (fun i9 wr => ∃ j : Nat, j ≤ sn ∧ i9 = .int .i64 j ∧ (∀ x, x < j → stOk H M S x) ∧ MS wr bm ((S.take j).map (·.nm)) ∧ w1.grownBy wr none) (fun i9 _ => sn - (intOf i9).toNat)
  case atStart => exact ⟨0, Nat.zero_le _, rfl, fun x hx => absurd hx (Nat.not_lt_zero _), M3.out, G3.out⟩
  case round =>
    obtain ⟨j, hj, rfl, ht, hm, hg⟩ := hrel
    have HT := Lib.hid ht
    have HG := Lib.hid hg
    have HM := Lib.hid hm
    clear ht hg hm M3 G3
    by_cases hlt : j < sn
    · have hl : j < S.length := by rw [LS.out]; exact hlt
      have j1 : (j : Int) < sn := by omega
      have j0 : (0 : Int) ≤ (j : Int) := by omega
      have hw : IntKind.i64.wrap ((j : Int) + 1) = ((j + 1 : Nat) : Int) := by have := P1.out; rw [IntKind.wrap_i64]; omega
      obtain ⟨z0, ⟨xa, xn, xc, z1, zx⟩, z2, z3, z4, ⟨ca, cn, cc, z5, zc⟩, z6⟩ := (HS.out.keep0SPs (gb_trans G1.out HG.out)).cells sd rfl j hlt
      have DX := Lib.hid (declE_X H M S j)
      rw [LH.out, zc.len, zx.len, ← dup_map] at DX
      have AT := Lib.hid (fun x => HR.out.at_ P0.out P1.out hl HT.out x)
      have TK := Lib.hid (show (S.take (j + 1)).map (·.nm) = (S.take j).map (·.nm) ++ [(S.getD j psz).nm] by rw [take_one S psz j hl, List.map_append]; rfl)
      have TL := Lib.hid (show ((S.take j).map (·.nm)).length < 100000 by rw [List.length_map, List.length_take]; have := P1.out; omega)
      have SO := Lib.hid (show stOk H M S j ↔ declE H M S j = 0 ∧ (∀ k, k < (S.getD j psz).cs.length → caseE H M S j k = 0) ∧ nxB S.length j (S.getD j psz).df = true from Iff.rfl)
      have NXT := Lib.hid (show stOk H M S j → ∀ x, x < j + 1 → stOk H M S x from fun q x hx => by
        rcases (show x < j ∨ x = j by omega) with r | rfl
        · exact HT.out x r
        · exact q)
      obtain ⟨sub, et, htr⟩ := trC_ex H M S j
      have TR := Lib.hid htr
      have TROK := Lib.hid htr.ok
      have ZX := Lib.hid zx
      have ZC := Lib.hid zc.len
      have NJ := Lib.hid (NZ.out j)
      have KT2 := Lib.hid (fun (W : World) (q : w.grownBy W none) (h8 : (S.getD j psz).cs.length ≤ 100000) => KT.out W q j hlt h8 sub et htr)
      unfold RetV at KT2
      have KD2 := Lib.hid (fun (W : World) (q : w.grownBy W none) (q2 : wr.grownBy W none) => KD.out W q (S.getD j psz).nm xa ca xn xc cn cc (S.getD j psz).sl (S.getD j psz).h (S.getD j psz).f (S.getD j psz).df _ (zx.keep0 q2) bm _ (HM.out.keep0 q2) NJ.out _ rfl)
      rw [← DX.out] at KD2
      unfold RetV at KD2
      have C8 := Lib.hid (show declE H M S j = 0 → cn ≤ 8 from fun q => by
        rw [DX.out] at q
        unfold declX at q
        split at q
        · cases q
        split at q
        · cases q
        split at q
        · cases q
        omega)
      generalize declE H M S j = rd at *
      have LCS := Lib.hid (show (S.getD j psz).cs.length = cn from zc.len)
      generalize (S.getD j psz).nm = s0 at *
      generalize (S.getD j psz).sl = sl at *
      generalize (S.getD j psz).h = h9 at *
      generalize (S.getD j psz).f = f9 at *
      generalize (S.getD j psz).df = df at *
      generalize (S.getD j psz).cs = cs at *
      generalize (S.getD j psz).ex = ex at *
      have GB := Lib.hid (gb_alloc wr (.cells #[.string s0, .slice xa xn xc, .bool sl, .int .i64 h9, .int .i64 f9, .slice ca cn cc, .int .i64 df] 55) none)
      have B2 := Lib.hid (IsB.new wr 55 #[.string s0, .slice xa xn xc, .bool sl, .int .i64 h9, .int .i64 f9, .slice ca cn cc, .int .i64 df])
      clear DX zx zc htr hl
      have c0 := (B1.out.keep0 HG.out).cell 0
      have c1 := (B1.out.keep0 HG.out).cell 1
      have c2 := (B1.out.keep0 HG.out).cell 2
      have c3 := (B1.out.keep0 HG.out).cell 3
      have c4 := (B1.out.keep0 HG.out).cell 4
      have c5 := (B1.out.keep0 HG.out).cell 5
      have c6 := (B1.out.keep0 HG.out).cell 6
      have c7 := (B1.out.keep0 HG.out).cell 7
      have c8 := (B1.out.keep0 HG.out).cell 8
      dsimp at c0 c1 c2 c3 c4 c5 c6 c7 c8
      go_upto_region 9 with fail
      generalize wr.alloc (.cells #[.string s0, .slice xa xn xc, .bool sl, .int .i64 h9, .int .i64 f9, .slice ca cn cc, .int .i64 df] 55) = w5 at *
      generalize wr.heap.size = b7 at *
      have G5 := Lib.hid (gb_trans HG.out GB.out)
      clear z0 z1 z2 z3 z4 z5 z6
      clear c0 c1 c2 c3 c4 c5 c6 c7 c8
      have c0 := (B1.out.keep0 G5.out).cell 0
      have c1 := (B1.out.keep0 G5.out).cell 1
      have c2 := (B1.out.keep0 G5.out).cell 2
      have c3 := (B1.out.keep0 G5.out).cell 3
      have c4 := (B1.out.keep0 G5.out).cell 4
      have c5 := (B1.out.keep0 G5.out).cell 5
      have c6 := (B1.out.keep0 G5.out).cell 6
      have c7 := (B1.out.keep0 G5.out).cell 7
      have c8 := (B1.out.keep0 G5.out).cell 8
      dsimp at c0 c1 c2 c3 c4 c5 c6 c7 c8
      have x0 := (B2.out.keep0 (gb_refl _ _)).cell 0
      have x1 := (B2.out.keep0 (gb_refl _ _)).cell 1
      have x2 := (B2.out.keep0 (gb_refl _ _)).cell 2
      have x3 := (B2.out.keep0 (gb_refl _ _)).cell 3
      have x4 := (B2.out.keep0 (gb_refl _ _)).cell 4
      have x5 := (B2.out.keep0 (gb_refl _ _)).cell 5
      have x6 := (B2.out.keep0 (gb_refl _ _)).cell 6
      dsimp at x0 x1 x2 x3 x4 x5 x6
      go_wp2_with fail
      refine (KD2.out _ (gb_trans G1.out G5.out) GB.out).mono ?_
      rintro e9 w6 ⟨rfl, g⟩
      have G6 := Lib.hid (gb_trans G5.out g)
      have GC := Lib.hid (gb_trans GB.out g)
      have B3 := Lib.hid (B2.out.keep0 g)
      clear g
      clear c0 c1 c2 c3 c4 c5 c6 c7 c8 x0 x1 x2 x3 x4 x5 x6
      by_cases hrd : rd = 0
      case neg =>
        have q0 : (rd != 0) = true := by simp [hrd]
        have E := Lib.hid (show a = j ∧ b = -1 ∧ e = rd by
          have q := AT.out (fun q => hrd (SO.out.1 q).1)
          rcases q.2 with r | r
          · exact ⟨q.1, r.2.1, r.2.2⟩
          · exact absurd r.1 hrd)
        clear hrd
        go_wp2
        go_ret3
        exact ⟨ret_iii E.out.1.symm E.out.2.1.symm E.out.2.2.symm, gb_trans G1.out G6.out⟩
      have q0 : (rd != 0) = false := by simp [hrd]
      have CN8 := Lib.hid (C8.out hrd)
      have c0 := (B1.out.keep0 G6.out).cell 0
      have c1 := (B1.out.keep0 G6.out).cell 1
      have c2 := (B1.out.keep0 G6.out).cell 2
      have c3 := (B1.out.keep0 G6.out).cell 3
      have c4 := (B1.out.keep0 G6.out).cell 4
      have c5 := (B1.out.keep0 G6.out).cell 5
      have c6 := (B1.out.keep0 G6.out).cell 6
      have c7 := (B1.out.keep0 G6.out).cell 7
      have c8 := (B1.out.keep0 G6.out).cell 8
      dsimp at c0 c1 c2 c3 c4 c5 c6 c7 c8
      have x0 := (B3.out.keep0 (gb_refl _ _)).cell 0
      have x1 := (B3.out.keep0 (gb_refl _ _)).cell 1
      have x2 := (B3.out.keep0 (gb_refl _ _)).cell 2
      have x3 := (B3.out.keep0 (gb_refl _ _)).cell 3
      have x4 := (B3.out.keep0 (gb_refl _ _)).cell 4
      have x5 := (B3.out.keep0 (gb_refl _ _)).cell 5
      have x6 := (B3.out.keep0 (gb_refl _ _)).cell 6
      dsimp at x0 x1 x2 x3 x4 x5 x6
      go_wp2_with fail
      refine (KT2.out _ (gb_trans G1.out G6.out) (by rw [LCS.out]; have := CN8.out; omega)).mono ?_
      rintro e9 w7 ⟨rfl, g⟩
      have G7 := Lib.hid (gb_trans G6.out g)
      have GD := Lib.hid (gb_trans GC.out g)
      have B4 := Lib.hid (B3.out.keep0 g)
      clear g q0
      clear c0 c1 c2 c3 c4 c5 c6 c7 c8 x0 x1 x2 x3 x4 x5 x6
      by_cases het : et = 0
      case neg =>
        have q0 : (et != 0) = true := by simp [het]
        have E := Lib.hid (show a = j ∧ b = sub ∧ e = et by
          have q := AT.out (fun q => het (TROK.out.2 (SO.out.1 q).2))
          rcases q.2 with r | r
          · exact absurd hrd r.1
          · have u := r.2.one TR.out
            exact ⟨q.1, u.1, u.2⟩)
        clear het hrd
        go_wp2
        go_ret3
        exact ⟨ret_iii E.out.1.symm E.out.2.1.symm E.out.2.2.symm, gb_trans G1.out G7.out⟩
      have q0 : (et != 0) = false := by simp [het]
      have OKJ := Lib.hid (NXT.out (SO.out.2 ⟨hrd, TROK.out.1 het⟩))
      clear het hrd
      have M7 := Lib.hid (HM.out.keep0 GD.out)
      obtain ⟨w8, hrun, m8, g8⟩ := M7.out.put s0 (Nat.le_trans NJ.out (by unfold maxLen; omega)) TL.out
      have M8 := Lib.hid (show MS w8 bm ((S.take (j + 1)).map (·.nm)) by rw [TK.out]; exact m8)
      have G8 := Lib.hid (gb_map G7.out g8 LB.out)
      clear m8 g8
      have x0 := (B4.out.keep0 (gb_refl _ _)).cell 0
      have x1 := (B4.out.keep0 (gb_refl _ _)).cell 1
      have x2 := (B4.out.keep0 (gb_refl _ _)).cell 2
      have x3 := (B4.out.keep0 (gb_refl _ _)).cell 3
      have x4 := (B4.out.keep0 (gb_refl _ _)).cell 4
      have x5 := (B4.out.keep0 (gb_refl _ _)).cell 5
      have x6 := (B4.out.keep0 (gb_refl _ _)).cell 6
      dsimp at x0 x1 x2 x3 x4 x5 x6
      go_wp2
      go_roundw
      case rel => exact ⟨j + 1, by omega, by go_num, OKJ.out, M8.out, G8.out⟩
      case measure => simp [intOf]; omega
    · have hje : j = sn := by omega
      have j1 : ¬ (j : Int) < sn := by omega
      have E := Lib.hid (HR.out.good P0.out P1.out (by rw [LS.out, ← hje]; exact HT.out))
      go_wp2
      go_ret3
      exact ⟨ret_iii E.out.1.symm E.out.2.1.symm E.out.2.2.symm, gb_trans G1.out HG.out⟩
end Go.Proofs.Ytjhknmklejkknaa
end
