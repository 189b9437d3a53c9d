/- The law LexerTokenizes: the walks of equal and of the law; no condition. -/
import Derived.Test.YtmbdpiffdiiggaaLxW
namespace Go.Proofs.Ytmbdpiffdiiggaa
open Go.RowKit
set_option linter.unusedVariables false

set_option maxRecDepth 100000 in
set_option maxHeartbeats 1000000 in
theorem equal_any (w : World) (b1 b2 c1 c2 : Nat) (a1 a2 : Option Addr) (M : List Tok) (h1 : TL w b1 34 (.slice a1 M.length c1) M) (h2 : TL w b2 60 (.slice a2 M.length c2) M) (hl : M.length ≤ 1000000) :
    Calls Try.prog 18 #[.slice a1 M.length c1, .slice a2 M.length c2] w (RetQ (.bool true) w none fun _ => True) := by
  have O1 := Lib.hid h1
  have O2 := Lib.hid h2
  clear h1 h2
  go_enter Try.func18, Try.ntmps18
  go_wp2
  go_loopw [5] (fun i wr => ∃ k : Nat, k ≤ M.length ∧ i = .int .i64 k ∧ w.grownBy wr none) (fun i _ => M.length - (intOf i).toNat)
  case atStart => exact ⟨0, Nat.zero_le _, rfl, gb_refl _ _⟩
  case round =>
    obtain ⟨k, hk, rfl, hg⟩ := hrel
    have HG := Lib.hid hg
    clear hg
    by_cases hlt : k < M.length
    · have hi : (k : Int) < M.length := by omega
      obtain ⟨g1, d1, hh1⟩ := TL.head O1.out (by omega)
      cases hh1
      obtain ⟨g2, d2, hh2⟩ := TL.head O2.out (by omega)
      cases hh2
      have q1 := TL.cellsR (O1.out.keep0 HG.out) k hlt
      have q2 := TL.cellsR (O2.out.keep0 HG.out) k hlt
      obtain ⟨⟨tk, tt, tv, tl⟩, hT⟩ : ∃ t, t = M.getD k noTok := ⟨_, rfl⟩
      rw [← hT] at q1 q2
      simp only at q1 q2
      obtain ⟨u, hu⟩ : ∃ u, u = strOf tt := ⟨_, rfl⟩
      rw [← hu] at q1 q2
      have qu : (u.toList == u.toList) = true := by rw [beq_iff_eq]
      clear hu hT
      obtain ⟨x0, x1, x2, x3⟩ := q1
      obtain ⟨y0, y1, y2, y3⟩ := q2
      go_wp2
      go_quiet (fail)
      go_wp2
      go_roundw
      case rel => exact ⟨k + 1, by omega, by go_num, gb_trans HG.out (gb_drewN _ _ _)⟩
      case measure => simp [intOf]; omega
    · have hke : k = M.length := by omega
      subst hke
      go_wp2
      go_ret
      exact ⟨rfl, HG.out, trivial⟩
theorem tokF_len (f : Nat) : ∀ (line : Int) (acc : List Tok) (L : List Int), acc.length ≤ 4096 → (tokF f line acc L).1.length ≤ 4096 := by
  induction f with
  | zero => intro line acc L _; simp [tokF]
  | succ f ih =>
    intro line acc L h
    rw [tokF_step]
    split
    · exact h
    · split
      · simp
      · split
        · simp
        · refine ih _ _ _ ?_
          rename_i h4 _
          rw [List.length_append, List.length_singleton]
          omega
theorem tokR_len (L : List Int) : (tokR L).1.length ≤ 4096 := by
  unfold tokR
  split
  · simp
  · exact tokF_len _ _ _ _ (by simp)

set_option maxRecDepth 100000 in
set_option maxHeartbeats 1000000 in
theorem tokenizes_walk (s : ByteArray) (W : World) : Calls Try.prog 3 #[.string s] W (HoldsT W) := by
  have es := bytesI_str s
  have hr := bytesI_range s
  have hl := bytesI_len s
  generalize bytesI s = L at *
  by_cases hc : s.size ≤ 3000
  · have i0 : ¬ (3000 : Int) < s.size := by omega
    have H1 := Lib.hid (fun w => tokenize_all w L hr)
    have H2 := Lib.hid (fun w => rtokenize_any w L hr (by omega))
    have hlen := tokR_len L
    rw [es] at H1 H2
    obtain ⟨M, ln, er, hm⟩ : ∃ M ln er, tokR L = (M, ln, er) := ⟨_, _, _, rfl⟩
    rw [hm] at H1 H2 hlen
    simp only at hlen
    clear hm hr es
    go_enter Try.func3, Try.ntmps3
    go_wp2_with fail
    refine (H1.out _).mono ?_
    rintro e w1 ⟨V1, rfl, o1, g1⟩
    obtain ⟨a1, c1, rfl⟩ := o1.shape
    have O1 := Lib.hid o1
    have G1 := Lib.hid g1
    clear o1 g1
    go_wp2_with fail
    refine (H2.out _).mono ?_
    rintro e w2 ⟨V2, rfl, o2, g2⟩
    obtain ⟨a2, c2, rfl⟩ := o2.shape
    have O2 := Lib.hid o2
    replace O1 := Lib.hid (O1.out.keep0 g2)
    have G2 := Lib.hid (gb_trans G1.out g2)
    clear o2 g2 G1
    go_wp2_with fail
    refine (equal_any _ _ _ _ _ _ _ M O1.out O2.out (by omega)).mono ?_
    rintro e w3 ⟨rfl, g3, _⟩
    have G3 := Lib.hid (gb_trans G2.out g3)
    clear g3 O1 O2 G2
    go_wp2_with fail
    refine (works_any _).mono ?_
    rintro e w7 ⟨rfl, g7, _⟩
    have G7 := Lib.hid (gb_trans G3.out g7)
    clear g7
    go_wp2
    go_ret
    exact ⟨rfl, gb_below0 G7.out⟩
  · have i0 : (3000 : Int) < s.size := by omega
    go_enter Try.func3, Try.ntmps3
    go_wp2_with fail
    refine (works_any _).mono ?_
    rintro e w7 ⟨rfl, g7, _⟩
    have G7 := Lib.hid g7
    clear g7
    go_wp2
    go_ret
    exact ⟨rfl, gb_below0 G7.out⟩
end Go.Proofs.Ytmbdpiffdiiggaa
