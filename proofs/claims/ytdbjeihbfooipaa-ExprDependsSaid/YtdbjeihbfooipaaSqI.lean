/- Expr: Fields: the library sorts and compacts; no condition but that the nodes are few. -/
import Derived.Test.YtdbjeihbfooipaaSqH
import Derived.Test.YtdbjeihbfooipaaSqE
import Derived.Test.YtdbjeihbfooipaaExK
namespace Go.Proofs.Ytdbjeihbfooipaa
open Go.RowKit
set_option linter.unusedVariables false
theorem rl_fl {w : World} {base : Nat} {V : Value} {M : List (Int × Int)} (h : RL w base V M) : FL w base V M := h
theorem fl_rl {w : World} {base : Nat} {V : Value} {M : List (Int × Int)} (h : FL w base V M) : RL w base V M := h
theorem ksortR_any (w : World) (base : Nat) (b : Option Addr) (m d : Nat) (M : List (Int × Int)) (hm : M.length = m) (ho : FL w base (.slice b m d) M) (h1 : m ≤ 1000) :
    Calls Try.prog 61 #[.slice b m d, .func (.func 62) #[] #[]] w fun e w' => e = .returned (.tuple #[]) ∧ ∃ L : List (Int × Int), L.length = m ∧ (∀ x, x ∈ L ↔ x ∈ M) ∧ (∀ i j, i < j → j < L.length → ¬ ltR (L.getD j rz) (L.getD i rz)) ∧ FL w' base (.slice b m d) L ∧ w.grownBy w' (Value.slice b m d).ownBlock := by
  subst hm
  by_cases h0 : M.length ≤ 1
  · refine (sortF_any w b M.length d (.func (.func 62) #[] #[]) h0).mono ?_
    rintro e w' ⟨rfl, rfl⟩
    refine ⟨rfl, M, rfl, fun _ => Iff.rfl, fun i j h h' => by omega, ho, ?_⟩
    cases (Value.slice b M.length d).ownBlock <;> exact gb_refl _ _
  · obtain ⟨g, c, hv⟩ := own_head ho (by omega)
    injection hv with hv _ hc
    subst hv hc
    refine (ksortR_one w base g d M ho h1 (by omega)).mono ?_
    rintro e w' ⟨rfl, L, l1, l2, l3, l4, l5⟩
    exact ⟨rfl, L, l1, l2, l3, by rw [l1] at l4; exact l4, l5⟩
theorem squ_short (L : List (Int × Int)) (h : L.length ≤ 1) : squP rz L L.length = L := by
  match L, h with
  | [], _ => rfl
  | [x], _ => rfl
theorem kcompR_all (w : World) (base : Nat) (b : Option Addr) (m d : Nat) (L : List (Int × Int)) (hm : L.length = m) (ho : FL w base (.slice b m d) L) (h1 : m ≤ 1000) :
    Calls Try.prog 63 #[.slice b m d] w fun e w' => e = .returned (.slice b (squP rz L L.length).length d) ∧ FL w' base (.slice b (squP rz L L.length).length d) (squP rz L L.length) ∧ w.grownBy w' (Value.slice b m d).ownBlock := by
  subst hm
  by_cases h0 : L.length ≤ 1
  · refine (compF_any w b L.length d h0).mono ?_
    rintro e w' ⟨rfl, rfl⟩
    rw [squ_short L h0]
    refine ⟨rfl, ho, ?_⟩
    cases (Value.slice b L.length d).ownBlock <;> exact gb_refl _ _
  · obtain ⟨g, c, hv⟩ := own_head ho (by omega)
    injection hv with hv _ hc
    subst hv hc
    refine (kcompR_any w base g d L.length L rfl ho (by omega) h1 _ rfl).mono ?_
    rintro e w' ⟨rfl, l4, l5⟩
    exact ⟨rfl, l4, l5⟩
/-- The fields that an expression reads, each once, in order. -/
def aF (N : List Nd) : List (Int × Int) := allA ltR (refsL N)
def RetFX (L : List (Int × Int)) (w : World) (e : Ending) (w' : World) : Prop := ∃ a c, e = .returned (.slice a L.length c) ∧ FL w' w.heap.size (.slice a L.length c) L ∧ w.grownBy w' none
set_option maxRecDepth 100000 in
set_option maxHeartbeats 4000000 in
theorem kfields_any (w : World) (a : Option Addr) (n c : Nat) (N : List Nd) (hN : SN w a n c N) (hn : n ≤ 1000) : Calls Try.prog 16 #[.slice a n c] w (RetFX (aF N) w) := by
  have HN := Lib.hid hN
  have NL := Lib.hid hN.len
  have ncap := hN.cap
  clear hN
  go_enter Try.func16, Try.ntmps16
  go_wp2
  go_loopw [3, 8] (fun s3 s8 wr => ∃ (j : Nat) (M : List (Int × Int)), j ≤ n ∧ s8 = .int .i64 j ∧ M = refsL (N.take j) ∧ RL wr w.heap.size s3 M ∧ w.grownBy wr none) (fun _ s8 _ => n - (intOf s8).toNat)
  case atStart => exact ⟨0, [], Nat.zero_le _, rfl, rfl, RL.nil _ _, gb_refl _ _⟩
  case round =>
    obtain ⟨j, M, hj, rfl, hM, ho, hg⟩ := hrel
    obtain ⟨va, vc, rfl⟩ := ho.shape
    have ml : M.length ≤ 1000 := by rw [hM]; exact Nat.le_trans (refs_len N j) (by omega)
    have HM := Lib.hid hM
    have HO := Lib.hid ho
    have HG := Lib.hid hg
    clear hM ho hg
    by_cases hlt : j < n
    · have i1 : (j : Int) < n := by omega
      have i0 : (0 : Int) ≤ (j : Int) := by omega
      obtain ⟨ad, rfl⟩ := HN.out.some (by omega)
      obtain ⟨c0, c1, c2⟩ := (HN.out.keep0 HG.out).cells ad rfl j hlt
      obtain ⟨x, hx⟩ : ∃ x, x = N.getD j nz := ⟨_, rfl⟩
      rw [← hx] at c0 c1 c2
      obtain ⟨xo, xn, xw⟩ := x
      have HX := Lib.hid hx.symm
      clear hx
      dsimp only at c0 c1 c2
      by_cases h2 : xo = 2
      · subst h2
        have HY := Lib.hid (show M ++ [(xn, xw)] = refsL (N.take (j + 1)) by rw [refs_yes N j (by rw [NL.out]; exact hlt) xn xw HX.out, HM.out])
        have GA := Lib.hid (gb_al (o := .cells #[.int .i64 2, .int .i64 xn, .int .i64 xw] 61) HG.out)
        have OA := Lib.hid (HO.out.keep0 (gb_alloc wr (.cells #[.int .i64 2, .int .i64 xn, .int .i64 xw] 61) none))
        have FR := Lib.hid (fun w => fref_any w 2 xn xw)
        unfold RetV at FR
        go_wp2_with fail
        refine (FR.out _).mono ?_
        rintro e w3 ⟨rfl, g3⟩
        have GB := Lib.hid (gb_al (o := .cells #[.int .i64 xn, .int .i64 xw] 48) (gb_trans GA.out g3))
        have OB := Lib.hid ((OA.out.keep0 g3).keep0 (gb_alloc w3 (.cells #[.int .i64 xn, .int .i64 xw] 48) none))
        have TB := Lib.hid (ref_cell _ _ _ (xn, xw) _ (IsB.new w3 48 #[.int .i64 xn, .int .i64 xw]) rfl)
        clear g3
        go_wp2_with (at_builtin; refine pushRef rfl _ _ rfl w.heap.size _ M rfl OB.out _ _ (xn, xw) rfl TB.out (by omega) GB.out.size ?_)
        intro V9 w9 o9 g9
        have O9 := Lib.hid (show RL w9 w.heap.size V9 (refsL (N.take (j + 1))) by rw [← HY.out]; exact o9)
        have G9 := Lib.hid (gb_own GB.out OB.out (Nat.le_refl _) g9)
        clear o9 g9
        go_wp2
        go_roundw
        case rel => exact ⟨j + 1, _, by omega, by go_num, rfl, O9.out, G9.out⟩
        case measure => simp [intOf]; omega
      · have e1 : (xo == 2) = false := by rw [beq_eq_false_iff_ne]; exact h2
        have e2 : decide (xo = 2) = false := decide_eq_false h2
        have HY := Lib.hid (show M = refsL (N.take (j + 1)) by rw [refs_no N j (by rw [NL.out]; exact hlt) xo xn xw HX.out h2, HM.out])
        go_wp2
        go_roundw
        case rel => exact ⟨j + 1, M, by omega, by go_num, HY.out, by first | exact HO.out.keep0 (gb_al (gb_refl _ _)) | exact HO.out, by first | exact gb_al HG.out | exact HG.out⟩
        case measure => simp [intOf]; omega
    · have hje : j = n := by omega
      have MM := Lib.hid (show M = refsL N by rw [HM.out, List.take_of_length_le (by rw [NL.out]; omega)])
      have KS := Lib.hid (ksortR_any wr w.heap.size va M.length vc M rfl (rl_fl HO.out) ml)
      have LM := Lib.hid (rfl : M.length = M.length)
      have ML := Lib.hid ml
      generalize hml : M.length = ml' at KS ml ⊢
      have i1 : ¬ (j : Int) < n := by omega
      go_wp2_with fail
      refine KS.out.mono ?_
      rintro e w1 ⟨rfl, L, l1, l2, l3, l4, l5⟩
      have KC := Lib.hid (kcompR_all w1 w.heap.size va ml' vc L l1 l4 ml)
      have EQ := Lib.hid (show squP rz L L.length = aF N by unfold aF; rw [← MM.out]; exact squ_all toR rz M L l2 l3)
      have HO1 := Lib.hid (show FL wr w.heap.size (.slice va ml' vc) M by rw [← hml]; exact HO.out)
      have G1 := Lib.hid (gb_own HG.out HO1.out (Nat.le_refl _) l5)
      have L4 := Lib.hid l4
      rw [EQ.out] at KC
      clear l1 l2 l3 l4 l5 hml
      go_wp2_with fail
      refine KC.out.mono ?_
      rintro e w2 ⟨rfl, l6, l7⟩
      have G2 := Lib.hid (gb_own G1.out L4.out (Nat.le_refl _) l7)
      have L6 := Lib.hid l6
      clear l6 l7
      go_wp2
      go_ret
      exact ⟨va, vc, rfl, L6.out, G2.out⟩
end Go.Proofs.Ytdbjeihbfooipaa
