/- The examples of chapter 3 hold: the walk of works; no condition. -/
import Derived.Test.YtmbdpiffdiiggaaNtF
namespace Go.Proofs.Ytmbdpiffdiiggaa
open Go.RowKit
set_option linter.unusedVariables false

theorem BL.sh {w : World} {base n : Nat} {V : Value} {L : List Int} (h : BL w base V L) (hn : n = L.length) : ∃ a c, V = .slice a n c := by subst hn; exact h.shape
theorem BL.sl {w : World} {base n c : Nat} {a : Option Addr} {L : List Int} (h : BL w base (.slice a n c) L) (hn : n = L.length) : SlR w a n c (L.map (Value.int .u8)) := by subst hn; exact h.slr
end Go.Proofs.Ytmbdpiffdiiggaa
