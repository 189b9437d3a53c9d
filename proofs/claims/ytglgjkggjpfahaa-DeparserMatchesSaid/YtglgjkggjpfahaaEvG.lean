/- Env: EqualFunc, Equal, the shape, Check; no condition but sizes. -/
import Derived.Test.YtglgjkggjpfahaaEvF
import Derived.Test.YtglgjkggjpfahaaEvD
namespace Go.Proofs.Ytglgjkggjpfahaa
open Go.RowKit
set_option linter.unusedVariables false
set_option maxRecDepth 100000 in
set_option maxHeartbeats 2000000 in
theorem eqff_any (w : World) (a b : Option Addr) (n c m d : Nat) (L : List (List Fld)) (M : List (List Int)) (h : SFF w a n c L) (g : SR w b m d M) (hn : n ≤ 1000000) (f : Nat) (P : List Fld → List Int → Bool)
    (hcf : ∀ (args : Array Value) (w : World), (callFunc f args).run Try.prog w = .ok (.enter f args) w)
    (hstep : ∀ (j : Nat) (W : World) (fa ga : Option Addr) (fn fc gn gc : Nat), j < n → w.grownBy W none → SF W fa fn fc (L.getD j []) → SU W ga gn gc (M.getD j []) → Calls Try.prog f #[.slice fa fn fc, .slice ga gn gc] W (RetV (.bool (P (L.getD j []) (M.getD j []))) W))
    (bo : Bool) (hbo : bo = true ↔ L.length = M.length ∧ ∀ j, j < L.length → P (L.getD j []) (M.getD j []) = true) :
    Calls Try.prog 136 #[.slice a n c, .slice b m d, .func (.func f) #[] #[]] w (RetV (.bool bo) w) := by
  have H1 := Lib.hid h
  have H2 := Lib.hid g
  have HS := Lib.hid hstep
  have HB := Lib.hid hbo
  have hx := h.len
  have hy := g.len
  clear h g hstep hbo
  by_cases hl : n = m
  · subst hl
    have HX := Lib.hid hx
    have HY := Lib.hid hy
    clear hx hy
    have d0 : ((n : Int) != n) = false := by simp
    go_enter Try.func136, Try.ntmps136
    go_wp2
    go_loopw [17] (fun i wr => ∃ j : Nat, j ≤ n ∧ i = .int .i64 j ∧ (∀ i, i < j → P (L.getD i []) (M.getD i []) = true) ∧ w.grownBy wr none) (fun i _ => n - (intOf i).toNat)
    case atStart => exact ⟨0, Nat.zero_le _, rfl, (fun i hi => absurd hi (Nat.not_lt_zero _)), gb_refl _ _⟩
    case round =>
      obtain ⟨j, hj, rfl, ht, hg⟩ := hrel
      have HT := Lib.hid ht
      have HG := Lib.hid hg
      clear ht hg
      by_cases hlt : j < n
      · obtain ⟨ad, rfl⟩ := H1.out.some (by omega)
        obtain ⟨bd, rfl⟩ := H2.out.some (by omega)
        obtain ⟨fa, fn, fc, c1, s1⟩ := (H1.out.keep0 HG.out).cells ad rfl j hlt
        obtain ⟨ga, gn, gc, c2, s2⟩ := (H2.out.keep0 HG.out).cells bd rfl j hlt
        have CO := Lib.hid (HS.out j wr fa ga fn fc gn gc hlt HG.out s1 s2)
        unfold RetV at CO
        have i1 : (j : Int) < n := by omega
        have i0 : (0 : Int) ≤ (j : Int) := by omega
        have hw : IntKind.i64.wrap ((j : Int) + 1) = ((j + 1 : Nat) : Int) := by rw [IntKind.wrap_i64]; omega
        clear s1 s2
        cases hp : P (L.getD j []) (M.getD j []) with
        | true =>
          rw [hp] at CO
          have HT2 := Lib.hid (show ∀ i, i < j + 1 → P (L.getD i []) (M.getD i []) = true from fun i hi => by
            rcases (show i < j ∨ i = j by omega) with q | rfl
            · exact HT.out i q
            · exact hp)
          clear hp
          go_wp2_with (refine CO.out.mono ?_; clear CO; rintro e w3 ⟨rfl, g3⟩; have G3 := Lib.hid (gb_trans HG.out g3); clear g3)
          go_roundw
          case rel => exact ⟨j + 1, by omega, by first | rfl | (congr 1), HT2.out, G3.out⟩
          case measure => simp [intOf]; omega
        | false =>
          rw [hp] at CO
          have BF := Lib.hid (show bo = false from bool_no HB.out fun q => by have := q.2 j (by rw [HX.out]; exact hlt); rw [hp] at this; cases this)
          clear hp
          go_wp2_with (refine CO.out.mono ?_; clear CO; rintro e w3 ⟨rfl, g3⟩; have G3 := Lib.hid (gb_trans HG.out g3); clear g3)
          go_ret
          exact ⟨by rw [BF.out] <;> rfl, G3.out⟩
      · have i1 : ¬ (j : Int) < n := by omega
        obtain rfl : j = n := by omega
        have BT := Lib.hid (show bo = true from HB.out.2 ⟨by rw [HX.out, HY.out], fun i hi => HT.out i (by rw [HX.out] at hi; exact hi)⟩)
        go_wp2
        go_ret
        exact ⟨by rw [BT.out] <;> rfl, HG.out⟩
  · have BF := Lib.hid (show bo = false from bool_no HB.out fun q => hl (by rw [← hx, ← hy]; exact q.1))
    have hne : ((n : Int) != m) = true := by rw [bne_iff_ne]; omega
    have hne2 : ¬ (n : Int) = (m : Int) := by omega
    clear hx hy hl
    go_enter Try.func136, Try.ntmps136
    go_wp2
    go_ret
    exact ⟨by rw [BF.out] <;> rfl, gb_refl _ _⟩
set_option maxRecDepth 100000 in
theorem hs1_any (w : World) (a b : Option Addr) (n c m d : Nat) : Calls Try.prog 135 #[.slice a n c, .slice b m d] w (RetV (.bool (decide ((n : Int) = m))) w) := by
  by_cases hl : (n : Int) = m
  · have HD := Lib.hid (decide_eq_true hl)
    have d1 : ((n : Int) == m) = true := by rw [beq_iff_eq]; exact hl
    clear hl
    go_enter Try.func135, Try.ntmps135
    go_wp2
    go_ret
    exact ⟨by rw [HD.out] <;> rfl, gb_refl _ _⟩
  · have HD := Lib.hid (decide_eq_false hl)
    have d1 : ((n : Int) == m) = false := by rw [beq_eq_false_iff_ne]; exact hl
    clear hl
    go_enter Try.func135, Try.ntmps135
    go_wp2
    go_ret
    exact ⟨by rw [HD.out] <;> rfl, gb_refl _ _⟩
set_option maxRecDepth 100000 in
theorem iz1_any (w : World) (v : Int) : Calls Try.prog 140 #[.int .u32 v] w (RetV (.bool (v != 0)) w) := by
  by_cases h : v = 0
  · subst h
    go_enter Try.func140, Try.ntmps140
    go_wp2
    go_ret
    exact ⟨rfl, gb_refl _ _⟩
  · have HD := Lib.hid (show (v != 0) = true by rw [bne_iff_ne]; exact h)
    have d1 : (v == 0) = false := by rw [beq_eq_false_iff_ne]; exact h
    go_enter Try.func140, Try.ntmps140
    go_wp2
    go_ret
    exact ⟨by rw [HD.out] <;> rfl, gb_refl _ _⟩
end Go.Proofs.Ytglgjkggjpfahaa
