/- The walk of the reference's descend. -/
import Derived.Test.YtaikpjnegopelaaGrF
namespace Go.Proofs.Ytaikpjnegopelaa
open Go.RowKit
set_option linter.unusedVariables false

def okW (g : List (List Int)) (d : List Int) (k : Int) (v x : Nat) : Bool := decide (d.getD x 0 = k) && gEdge g v x
def firstF (g : List (List Int)) (d : List Int) (k : Int) (v : Nat) : Nat → Nat → Nat
  | 0, x => x
  | f + 1, x => if okW g d k v x then x else firstF g d k v f (x + 1)
def desF (g : List (List Int)) (d : List Int) : Nat → Nat → List Int
  | 0, v => []
  | k + 1, v => (firstF g d k v (g.length - 1) 0 : Int) :: desF g d k (firstF g d k v (g.length - 1) 0)
/-- The reference's path from v. -/
def des (g : List (List Int)) (d : List Int) (v : Nat) : List Int := (v : Int) :: desF g d (d.getD v 0).toNat v
theorem firstF_le (g : List (List Int)) (d : List Int) (k : Int) (v f : Nat) : ∀ x, firstF g d k v f x ≤ x + f := by
  induction f with
  | zero => intro x; exact Nat.le_refl _
  | succ f ih => intro x; unfold firstF; split
                 · omega
                 · have := ih (x + 1); omega
theorem desF_len (g : List (List Int)) (d : List Int) (k : Nat) : ∀ v, (desF g d k v).length = k := by
  induction k with
  | zero => intro v; rfl
  | succ k ih => intro v; unfold desF; simp [ih]

set_option maxRecDepth 100000 in
set_option maxHeartbeats 1000000 in
theorem rdes_any (w : World) (a b : Option Addr) (n c m q : Nat) (g : List (List Int)) (d : List Int) (v : Nat) (h : SlG w a n c g) (hd : SlR w b m q (d.map (Value.int .i64))) (hn : n ≤ 100000) (hv : v < n) (hm : m = n) (hk : d.getD v 0 ≤ 400000) (hk0 : -9223372036854775808 ≤ d.getD v 0) :
    Calls Try.prog 37 #[.slice a n c, .slice b m q, .int .i64 v] w (RetN w.heap.size (des g d v) w) := by
  have HH := Lib.hid h
  have HD := Lib.hid hd
  have hl := h.1
  have hdl := hd.len'
  subst hl; subst hm
  clear h hd
  cases b with
  | none => exact absurd (HD.out.2.1 rfl).1 (by omega)
  | some bd =>
    have c1 := (HD.out.alloc (.cells #[.int .i64 v] 3)).cellAt v (by omega)
    have HS := Lib.hid (show des g d v = [(v : Int)] ++ desF g d (d.getD v 0).toNat v from rfl)
    have HKb := Lib.hid (show (d.getD v 0).toNat ≤ 400000 by omega)
    have N1 := Lib.hid (show NL (w.alloc (.cells #[.int .i64 v] 3)) w.heap.size (.slice (some ⟨w.heap.size, 0, none⟩) 1 1) [(v : Int)] from
      ⟨rfl, Or.inr ⟨w.heap.size, 1, #[.int .i64 v], rfl, Nat.le_refl _, IsB.new w _ _, Nat.le_refl _, by decide, rfl, rfl⟩⟩)
    generalize des g d v = D at *
    generalize d.getD v 0 = dv at *
    have ivn : (v : Int) < g.length := by omega
    go_enter Try.func37, Try.ntmps37
    go_wp2
    go_loopw [2, 7, 8] (fun i V k wr => ∃ (v : Nat) (L : List Int) (kk : Int), v < g.length ∧ i = .int .i64 v ∧ k = .int .i64 kk ∧ kk ≤ 400000 ∧ -9223372036854775808 ≤ kk ∧ NL wr w.heap.size V L ∧ L.length + kk.toNat ≤ 400001 ∧ D = L ++ desF g d kk.toNat v ∧ w.grownBy wr none) (fun _ _ k _ => (intOf k).toNat)
    case atStart => exact ⟨v, _, dv, hv, rfl, rfl, hk, hk0, N1.out, by have := HKb.out; simp; omega, HS.out, gb_alloc _ _ _⟩
    case round =>
      obtain ⟨v, L, kk, hv, rfl, rfl, hk1, hk2, q1, q2, q3, q4⟩ := hrel
      clear N1 HS c1 ivn
      have N1 := Lib.hid q1
      have HS := Lib.hid q3
      have GG := Lib.hid q4
      have HH3 := Lib.hid (HH.out.keep0 q4)
      have HD3 := Lib.hid (HD.out.keep0 q4)
      clear q1 q3 q4
      by_cases hpos : 0 < kk
      · obtain ⟨k, rfl⟩ : ∃ k : Nat, kk = (k : Int) + 1 := ⟨(kk - 1).toNat, by omega⟩
        obtain ⟨W, hW⟩ : ∃ W, W = firstF g d k v (g.length - 1) 0 := ⟨_, rfl⟩
        have HW := Lib.hid (show firstF g d k v (g.length - 1) 0 = W from hW.symm)
        have HWn : W < g.length := by rw [hW]; have := firstF_le g d k v (g.length - 1) 0; omega
        have HS2 := Lib.hid (show D = L ++ [(W : Int)] ++ desF g d k W by
          have := HS.out
          rw [show ((k : Int) + 1).toNat = k + 1 by omega] at this
          rw [this, hW]; simp [desF])
        have LN := Lib.hid q2
        clear HS q2 hW
        go_wp2
        go_loopw [9] (fun i wr2 => ∃ x f : Nat, x + f = g.length - 1 ∧ i = .int .i64 x ∧ firstF g d k v f x = W ∧ wr2 = wr) (fun i _ => g.length - (intOf i).toNat)
        case atStart => exact ⟨0, _, Nat.zero_add _, rfl, HW.out, rfl⟩
        case round =>
          obtain ⟨x, f, hx, rfl, hf, rfl⟩ := hrel
          by_cases hxt : x < g.length - 1
          · obtain ⟨f, rfl⟩ : ∃ f2, f = f2 + 1 := ⟨f - 1, by omega⟩
            have i3 : (x : Int) < (g.length : Int) - 1 := by omega
            have i4 : (x : Int) < (g.length : Int) := by omega
            have c2 := HD3.out.cellAt x (by omega)
            rw [firstF] at hf
            by_cases e1 : d.getD x 0 = k
            · rw [e1] at c2
              by_cases e2 : gEdge g v x = true
              · have HE := Lib.hid e2
                have hok : okW g d k v x = true := by unfold okW; rw [e2, decide_eq_true e1]; rfl
                rw [if_pos hok] at hf
                subst hf
                clear hok e2 e1 HW
                go_wp2_with fail
                refine (redge_any _ _ _ _ g v x HH3.out (by omega) (by omega)).mono ?_
                rintro e w1 ⟨rfl, rfl⟩
                rw [HE.out]
                go_wp2_with (at_builtin; refine npush_any rfl _ _ rfl w.heap.size _ L rfl (N1.out.keep0 (gb_alloc _ _ _)) _ _ _ [_] rfl (slr_one _ _ _ _ _ rfl) (by have := LN.out; simp; omega) (by have := GG.out.size; simp; omega) ?_)
                intro V2 w2 o2 g2
                have G2 := Lib.hid (gb_own (gb_trans GG.out (gb_alloc _ _ _)) (N1.out.keep0 (gb_alloc _ _ _)) (Nat.le_refl _) g2)
                have O2 := Lib.hid o2
                clear o2 g2
                go_wp2
                go_roundw
                case rel => exact ⟨x, _, k, HWn, rfl, by go_num, by omega, by omega, O2.out, by have := LN.out; simp; omega, by rw [Int.toNat_natCast]; exact HS2.out, G2.out⟩
                case measure => simp [intOf] <;> omega
              · have HE := Lib.hid (show gEdge g v x = false by simpa using e2)
                have hok : ¬ okW g d k v x = true := by unfold okW; rw [HE.out]; simp
                rw [if_neg hok] at hf
                have HF := Lib.hid hf
                clear hok e2 e1 hf
                go_wp2_with fail
                refine (redge_any _ _ _ _ g v x HH3.out (by omega) (by omega)).mono ?_
                rintro e w1 ⟨rfl, rfl⟩
                rw [HE.out]
                go_wp2
                go_roundw
                case rel => exact ⟨x + 1, f, by omega, by go_num, HF.out, trivial⟩
                case measure => simp [intOf]; omega
            · have hok : ¬ okW g d k v x = true := by unfold okW; rw [decide_eq_false e1]; simp
              rw [if_neg hok] at hf
              have HF := Lib.hid hf
              clear hok hf
              generalize d.getD x 0 = z at *
              go_wp2
              go_roundw
              case rel => exact ⟨x + 1, f, by omega, by go_num, HF.out, trivial⟩
              case measure => simp [intOf]; omega
          · have hf0 : f = 0 := by omega
            subst hf0
            have hfx : x = W := hf
            subst hfx
            have i3 : ¬ (x : Int) < (g.length : Int) - 1 := by omega
            clear hf HW
            go_wp2_with (at_builtin; refine npush_any rfl _ _ rfl w.heap.size _ L rfl (N1.out.keep0 (gb_alloc _ _ _)) _ _ _ [_] rfl (slr_one _ _ _ _ _ rfl) (by have := LN.out; simp; omega) (by have := GG.out.size; simp; omega) ?_)
            intro V2 w2 o2 g2
            have G2 := Lib.hid (gb_own (gb_trans GG.out (gb_alloc _ _ _)) (N1.out.keep0 (gb_alloc _ _ _)) (Nat.le_refl _) g2)
            have O2 := Lib.hid o2
            clear o2 g2
            go_wp2
            go_roundw
            case rel => exact ⟨x, _, k, HWn, rfl, by go_num, by omega, by omega, O2.out, by have := LN.out; simp; omega, by rw [Int.toNat_natCast]; exact HS2.out, G2.out⟩
            case measure => simp [intOf] <;> omega
      · have HE := Lib.hid (show D = L by
          have := HS.out
          rw [show kk.toNat = 0 by omega] at this
          simpa [desF] using this)
        go_wp2
        go_ret
        exact ⟨_, rfl, by rw [HE.out]; exact N1.out, GG.out⟩
end Go.Proofs.Ytaikpjnegopelaa
