/- The law's path, where it is one: the walk. -/
import Derived.Test.YtaikpjnegopelaaGrB
import Derived.IntWalk
namespace Go.Proofs.Ytaikpjnegopelaa
open Go.RowKit
set_option linter.unusedVariables false

/-- The list is a path of the graph. -/
def PathOf (g : List (List Int)) (l : List Int) : Prop := (∀ i, i < l.length → 0 ≤ l.getD i 0 ∧ l.getD i 0 < (g.length : Int)) ∧ ∀ i, i + 1 < l.length → gEdge g (l.getD i 0) (l.getD (i + 1) 0) = true

set_option maxRecDepth 100000 in
set_option maxHeartbeats 1000000 in
theorem path_yes (w : World) (a b : Option Addr) (n c m d : Nat) (g : List (List Int)) (l : List Int) (h : SlG w a n c g) (k : SlR w b m d (l.map (Value.int .i64))) (hm : m ≤ 9223372036854775807) (hp : PathOf g l) :
    Calls Try.prog 31 #[.slice a n c, .slice b m d] w (RetD (.bool true) w) := by
  have HH := Lib.hid h
  have HK := Lib.hid k
  have HP := Lib.hid hp
  have hl := h.1
  have hn := h.2.2.1
  have hk := k.len'
  subst hl hk
  clear h k hp
  go_enter Try.func31, Try.ntmps31
  go_wp2
  go_loopw [5] (fun s wr => ∃ i : Nat, i ≤ l.length ∧ s = .int .i64 i ∧ ∃ q, wr = w.drewN q) (fun s _ => l.length - (intOf s).toNat)
  case atStart => exact ⟨0, Nat.zero_le _, rfl, dn_zero _⟩
  case round =>
    obtain ⟨i, hi, rfl, hq⟩ := hrel
    have HQ := Lib.hid hq
    have HH1 := Lib.hid (HH.out.keep0 (dn_gb hq none))
    have HK1 := Lib.hid (HK.out.keep0 (dn_gb hq none))
    clear hq
    by_cases hlt : i < l.length
    · cases b with
      | none => exact absurd (HK.out.2.1 rfl).1 (by omega)
      | some bd =>
        have c1 := HK1.out.cellAt i hlt
        obtain ⟨r1, r2⟩ := HP.out.1 i hlt
        have i1 : (i : Int) < l.length := by omega
        have d1 : decide (l.getD i 0 < 0) = false := decide_eq_false (by omega)
        have d2 : decide ((g.length : Int) ≤ l.getD i 0) = false := decide_eq_false (by omega)
        by_cases hz : i = 0
        · subst hz
          have c0 : wr.cell? bd = some (.int .i64 (l.getD 0 0)) := by simpa [Addr.add] using c1
          have d3 : decide ((0 : Int) < ((0 : Nat) : Int)) = false := by decide
          clear c1
          generalize l.getD 0 0 = z at *
          go_wp2
          go_quiet (fail)
          go_wp2
          go_roundw
          case rel => exact ⟨1, by omega, by go_num, dn_more HQ.out _⟩
          case measure => simp [intOf]; omega
        · obtain ⟨p, hp⟩ : ∃ p, i = p + 1 := ⟨i - 1, by omega⟩
          have c2 := HK1.out.cellAt p (by omega)
          obtain ⟨s1, s2⟩ := HP.out.1 p (by omega)
          have HE := Lib.hid fun q : Nat => (show gEdge g (l.getD p 0) (l.getD i 0) = true by rw [hp]; exact HP.out.2 p (by omega)) ▸ redge_any (wr.drewN q) a g.length c g (l.getD p 0) (l.getD i 0) (HH1.out.keep0 (gb_drewN _ _ _)) (by omega) (by omega)
          have d3 : decide ((0 : Int) < (i : Int)) = true := decide_eq_true (by omega)
          have d4 : decide (0 < i) = true := decide_eq_true (by omega)
          have IL := Lib.hid hi
          have IP := Lib.hid hp
          have w1 : IntKind.i64.wrap ((i : Int) - 1) = (i : Int) - 1 := IntWalk.i64_in _ (by omega)
          have w2 : (0 : Int) ≤ (i : Int) - 1 := by omega
          have w3 : (i : Int) - 1 < (l.length : Int) := by omega
          have w4 : ((i : Int) - 1).toNat = p := by omega
          clear hp hz
          generalize l.getD p 0 = z2 at *
          generalize l.getD i 0 = z at *
          go_wp2
          go_quiet ((go_at_call 32; exact Calls.quiet_of_same (HE.out _)))
          clear w1 w2 w3 w4
          go_wp2
          go_roundw
          case rel => exact ⟨i + 1, by omega, by go_num, dn_more HQ.out _⟩
          case measure => simp [intOf]; omega
    · have i1 : ¬ (i : Int) < l.length := by omega
      go_wp2
      go_ret
      exact ret_bd rfl HQ.out
end Go.Proofs.Ytaikpjnegopelaa
