/- Cubeset: the reference's Equal and Min. -/
import Derived.Test.YteemhabgliglmaaCsH
namespace Go.Proofs.Yteemhabgliglmaa
open Go.RowKit
set_option linter.unusedVariables false

/-- Equal: the error of the first test counts; else that of the second. -/
def eqE (x : Int) (L M : List (Nat × Nat)) : Int := if (subsX x L M).2 ≠ 0 then (subsX x L M).2 else (subsX x M L).2
def eqB (x : Int) (L M : List (Nat × Nat)) : Bool := if (subsX x L M).2 ≠ 0 then false else subB x L M && subB x M L
set_option maxRecDepth 100000 in
theorem req_any (w : World) (a b : Option Addr) (n c m d : Nat) (x : Int) (L M : List (Nat × Nat)) (h : SC w a n c L) (g : SC w b m d M) (hn : n ≤ 10000) (hm : m ≤ 10000) : Calls Try.prog 29 #[.slice a n c, .slice b m d, .int .i64 x] w (RetBE (eqB x L M) (eqE x L M) w) := by
  have S1 := Lib.hid (rssub_any w a b n c m d x L M h g hn hm)
  have S2 := Lib.hid (fun (w2 : World) (k : w.grownBy w2 none) => rssub_any w2 b a m d n c x M L (g.keep0 k) (h.keep0 k) hm hn)
  unfold RetBE at S1 S2
  unfold eqB eqE
  generalize subB x L M = p at *
  generalize subB x M L = q at *
  generalize (subsX x L M).2 = e1 at *
  generalize (subsX x M L).2 = e2 at *
  clear h g
  by_cases he : e1 = 0
  · subst he
    rw [if_neg (by simp), if_neg (by simp)]
    cases p
    · go_enter Try.func29, Try.ntmps29
      go_wp2_with fail
      refine S1.out.mono ?_
      rintro e w1 ⟨rfl, g1⟩
      go_wp2_with fail
      refine (S2.out w1 g1).mono ?_
      rintro e w2 ⟨rfl, g2⟩
      go_wp2
      go_ret2
      exact ⟨rfl, gb_trans g1 g2⟩
    · go_enter Try.func29, Try.ntmps29
      go_wp2_with fail
      refine S1.out.mono ?_
      rintro e w1 ⟨rfl, g1⟩
      go_wp2_with fail
      refine (S2.out w1 g1).mono ?_
      rintro e w2 ⟨rfl, g2⟩
      go_wp2
      go_ret2
      exact ⟨by first | rfl | simp, gb_trans g1 g2⟩
  · rw [if_pos he, if_pos he]
    have h1 : (e1 != 0) = true := by rw [bne_iff_ne]; exact he
    go_enter Try.func29, Try.ntmps29
    go_wp2_with fail
    refine S1.out.mono ?_
    rintro e w1 ⟨rfl, g1⟩
    go_wp2
    go_ret2
    exact ⟨rfl, g1⟩
end Go.Proofs.Yteemhabgliglmaa
