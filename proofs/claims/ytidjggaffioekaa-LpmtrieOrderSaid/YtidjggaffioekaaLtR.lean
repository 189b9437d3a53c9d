/- Tries: the laws empty and works. -/
import Derived.Test.YtidjggaffioekaaLtM
namespace Go.Proofs.Ytidjggaffioekaa
open Go.RowKit
set_option linter.unusedVariables false

set_option maxRecDepth 100000 in
set_option maxHeartbeats 4000000 in
/-- A trie that was not made is empty. -/
theorem empty_any (w : World) (p : Option Addr) (v n x : Int) (hm : ∀ W, w.grownBy W none → Calls Try.prog 28 #[.pointer p] W (RetS (.bool false) W)) : Calls Try.prog 20 #[.pointer p, .int .u32 v, .int .i64 n, .int .i64 x] w (RetV (.bool true) w) := by
  have MD := Lib.hid hm
  have K0 := Lib.hid (gb_refl w none)
  clear hm
  unfold RetV
  go_enter Try.func20, Try.ntmps20
  go_wp2_with fail
  refine (ins_no w (.pointer p) (.int .u32 v) (.int .i64 n) (.int .i64 x) (MD.out _ K0.out)).mono ?_
  rintro e w1 ⟨rfl, g⟩
  have K1 := Lib.hid (gb_trans K0.out g)
  clear g
  go_wp2_with fail
  refine (get_no w1 (.pointer p) (.int .u32 v) (.int .i64 n) (MD.out _ K1.out)).mono ?_
  rintro e w2 ⟨rfl, g⟩
  have K2 := Lib.hid (gb_trans K1.out g)
  clear g
  go_wp2_with fail
  refine (look_no w2 (.pointer p) (.int .u32 v) (MD.out _ K2.out)).mono ?_
  rintro e w3 ⟨rfl, g⟩
  have K3 := Lib.hid (gb_trans K2.out g)
  clear g
  dsimp only [triV]
  have SQ := Lib.hid (none_seq w3 p 8 (fun W k => MD.out _ (gb_trans K3.out k)))
  go_wp2_with fail
  refine (collect_any w3 p 8 [] 10 SQ.out (by decide)).mono ?_
  rintro e w4 ⟨V, rfl, hr, g⟩
  obtain ⟨a, c, rfl⟩ := hr.shape
  have K4 := Lib.hid (gb_trans K3.out g)
  clear g hr SQ
  go_wp2_with fail
  refine (del_no w4 (.pointer p) (.int .u32 v) (.int .i64 n) (MD.out _ K4.out)).mono ?_
  rintro e w5 ⟨rfl, g⟩
  have K5 := Lib.hid (gb_trans K4.out g)
  clear g
  go_wp2_with fail
  refine (len_no w5 (.pointer p) (MD.out _ K5.out)).mono ?_
  rintro e w6 ⟨rfl, rfl⟩
  go_wp2
  go_ret
  exact ⟨rfl, K5.out⟩
def pA : List Bool := [true, false, true, false]
def T1 (a f : Nat) : Tr := insT a f pA 1 .nil
def T3 (a f b g : Nat) : Tr := insT b g [] 3 (T1 a f)
theorem T1_is (a f : Nat) : T1 a f = .node a pA true 1 .nil .nil := rfl
theorem T3_is (a f b g : Nat) : T3 a f b g = .node b [] true 3 .nil (.node a pA true 1 .nil .nil) := rfl
theorem T3_ents (a f b g : Nat) : ents (T3 a f b g) = [([], 3), (pA, 1)] := rfl
theorem T3_blks (a f b g : Nat) : (blks (T3 a f b g)).length ≤ 10000 := by rw [T3_is]; simp [blks]
theorem T3_a (a f b g : Nat) : lonT (bitsN 8 165) (T3 a f b g) none = some (pA, 1) := rfl
theorem T3_b (a f b g : Nat) : lonT (bitsN 8 5) (T3 a f b g) none = some ([], 3) := rfl
theorem T1_dup (a f : Nat) : (getT pA (T1 a f)).isSome = true := rfl
theorem T1_no (a f : Nat) : getT [] (T1 a f) = none := rfl
end Go.Proofs.Ytidjggaffioekaa
