/- Control: which method a node's kind has; no condition. -/
import Derived.Test.YtdbjeihbfooipaaMem
namespace Go.Proofs.Ytdbjeihbfooipaa
open Go.RowKit
theorem mt_apply (k : Nat) (v : Value) (w : World) : Sem.run Try.prog (method (k + 1) 173 v "patchbay/control.check") w = .ok (199, v) w := by kernel_rfl
theorem mt_if (k : Nat) (v : Value) (w : World) : Sem.run Try.prog (method (k + 1) 174 v "patchbay/control.check") w = .ok (201, v) w := by kernel_rfl
theorem mt_hit (k : Nat) (v : Value) (w : World) : Sem.run Try.prog (method (k + 1) 175 v "patchbay/control.check") w = .ok (204, v) w := by kernel_rfl
theorem mt_unk (k : Nat) (v : Value) (w : World) : Sem.run Try.prog (method (k + 1) 177 v "patchbay/control.check") w = .ok (206, v) w := by kernel_rfl
theorem me_apply (k : Nat) (v : Value) (w : World) : Sem.run Try.prog (method (k + 1) 173 v "patchbay/control.execute") w = .ok (200, v) w := by kernel_rfl
theorem me_if (k : Nat) (v : Value) (w : World) : Sem.run Try.prog (method (k + 1) 174 v "patchbay/control.execute") w = .ok (202, v) w := by kernel_rfl
theorem me_hit (k : Nat) (v : Value) (w : World) : Sem.run Try.prog (method (k + 1) 175 v "patchbay/control.execute") w = .ok (205, v) w := by kernel_rfl
theorem me_unk (k : Nat) (v : Value) (w : World) : Sem.run Try.prog (method (k + 1) 177 v "patchbay/control.execute") w = .ok (207, v) w := by kernel_rfl
end Go.Proofs.Ytdbjeihbfooipaa
