/- Cubeset: slices.Clone of cubes. -/
import Derived.Test.YteemhabgliglmaaCsM
namespace Go.Proofs.Yteemhabgliglmaa
open Go.RowKit
set_option linter.unusedVariables false
set_option maxRecDepth 100000 in
set_option maxHeartbeats 4000000 in
theorem clone_any (w : World) (a : Option Addr) (n c : Nat) (L : List (Nat × Nat)) (h : SC w a n c L) (hn : n ≤ 100000) : Calls Try.prog 63 #[.slice a n c] w (fun e w' => ∃ V, e = .returned V ∧ CLs w' w.heap.size V L ∧ w.grownBy w' none) := by
  cases a with
  | none =>
    obtain ⟨h0, rfl⟩ := h.nil rfl
    subst h0
    have hL : L = [] := List.length_eq_zero_iff.1 h.len
    subst hL
    clear h
    have q22 : ∀ w, Sem.run Try.prog (binOp .eql 22 (.slice none (0 : Nat) (0 : Nat)) (.slice none 0 0)) w = .ok (.bool true) w := fun w => Lib.run_eql_slice_nil w _ _ none (0 : Nat) (0 : Nat) 0 0 Try.underlying22
    go_enter Try.func63, Try.ntmps63
    go_wp2
    go_ret
    exact ⟨_, rfl, CLs.nil _ _, gb_refl _ _⟩
  | some ad =>
    have HH := Lib.hid h
    have hl := h.len
    clear h
    have q22 : ∀ w, Sem.run Try.prog (binOp .eql 22 (.slice (some ad) n c) (.slice none 0 0)) w = .ok (.bool false) w := fun w => Lib.run_eql_slice_nil w _ _ (some ad) n c 0 0 Try.underlying22
    have OW := Lib.hid (show CLs (w.alloc (.cells #[] 49)) w.heap.size (.slice (some ⟨w.heap.size, 0, none⟩) 0 0) [] from World.ownsRow_made w #[] 0 (Nat.le_refl _) (Nat.zero_le _) rfl)
    have HA := Lib.hid (HH.out.keep0 (gb_alloc w (.cells #[] 49) none))
    go_enter Try.func63, Try.ntmps63
    go_wp2_with (at_builtin; refine pushAll rfl _ _ rfl w.heap.size _ [] rfl OW.out (some ad) n c L rfl HA.out (by simp; omega) (by rw [new_size]; omega) ?_)
    intro V1 w1 o1 g1
    have O1 := Lib.hid o1
    have G1 := Lib.hid (gb_own (gb_alloc w _ none) OW.out (Nat.le_refl _) g1)
    clear o1 g1
    go_wp2
    go_ret
    exact ⟨_, rfl, O1.out, G1.out⟩
end Go.Proofs.Yteemhabgliglmaa
