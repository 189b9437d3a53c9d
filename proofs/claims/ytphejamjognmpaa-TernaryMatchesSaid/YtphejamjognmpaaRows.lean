/-
  No cell of these rows narrows 'for every input' (looked for: loops, veiled, ifaces, maps, wideKeys, modest, calm, conditions, laid).
  DERIVED. THE GIVEN ROWS OF THIS SEAT. 5 by the template 'for every input the law returns true; each argument reads behind the call as it read before'; 0 by the template 'total and deterministic' (their statements: YtphejamjognmpaaTotals.lean).
  GIVEN WITH THE SEED: the statements are not yours to turn. If you find one false, say at which input.
  Laid BY PROGRAM, IN A SANDBOX (cutbox-rows.mjs): the forced cells as the released guide's own fill.sh prints them over the translation 907ac70f6ff4a95f… (all of the seat's roots in one cut). By AI agents, Wed Nov 11 2026. No macro, syntax, notation, axiom, sorry.
-/
import Derived.Test.YtphejamjognmpaaChecked
import GoSem.Claim
import GoSem.ClaimJoined
import GoSem.ClaimMapViews
import Derived.JoinedTies
import Derived.KernelRfl
namespace Go.Proofs.Ytphejamjognmpaa
/- THE CELL 'sum', in the pinned program and in every row, IS THE sha256 OF THE DUMP (.gsa) THAT YtphejamjognmpaaProg.lean LOADS. Nothing in Lean hashes anything: it is a label: what it is worth is what the hold of that sum in a sandbox is worth. -/
noncomputable def Try.pinned : Pinned := { name := "ytphejamjognmpaa", sum := "907ac70f6ff4a95f24868a55b7d7cc3ab8ef6f35388205ff7e05a2a77d984bc2", checked := Try.checked }
namespace Rows
def none {H : Type} : Left H := { results := [], args := [] }

/-- 'patchbaylaw07.TernaryMatches': WHATEVER THE INPUT: true; the input reads as it did. -/
def ternaryMatchesSpec : ChangeSpec := { name := "ternaryMatches", fn := fun _ => fun
  | [d] => { results := [.lit (.bool true)], args := [d] }
  | _ => none }
def ternaryMatchesRow : OpenClaim := { program := "ytphejamjognmpaa", sum := "907ac70f6ff4a95f24868a55b7d7cc3ab8ef6f35388205ff7e05a2a77d984bc2", func := "patchbay/patchbaylaw07.TernaryMatches", spec := "ternaryMatches", apart := false }
def TernaryMatchesSaid : Prop := ternaryMatchesRow.holds Try.pinned (OpenSpec.ofChange ternaryMatchesSpec)

/-- ITS FALSE NEIGHBOUR: 'it returns false'. Refute it at one input. -/
def ternaryMatchesWrong : ChangeSpec := { name := "ternaryMatches", fn := fun _ => fun
  | [d] => { results := [.lit (.bool false)], args := [d] }
  | _ => none }
def TernaryMatchesWrongFalsely : Prop := ternaryMatchesRow.holds Try.pinned (OpenSpec.ofChange ternaryMatchesWrong)

/-- 'patchbaylaw07.TernaryParses': WHATEVER THE INPUT: true; the input reads as it did. -/
def ternaryParsesSpec : ChangeSpec := { name := "ternaryParses", fn := fun _ => fun
  | [d] => { results := [.lit (.bool true)], args := [d] }
  | _ => none }
def ternaryParsesRow : OpenClaim := { program := "ytphejamjognmpaa", sum := "907ac70f6ff4a95f24868a55b7d7cc3ab8ef6f35388205ff7e05a2a77d984bc2", func := "patchbay/patchbaylaw07.TernaryParses", spec := "ternaryParses", apart := false }
def TernaryParsesSaid : Prop := ternaryParsesRow.holds Try.pinned (OpenSpec.ofChange ternaryParsesSpec)

/-- ITS FALSE NEIGHBOUR: 'it returns false'. Refute it at one input. -/
def ternaryParsesWrong : ChangeSpec := { name := "ternaryParses", fn := fun _ => fun
  | [d] => { results := [.lit (.bool false)], args := [d] }
  | _ => none }
def TernaryParsesWrongFalsely : Prop := ternaryParsesRow.holds Try.pinned (OpenSpec.ofChange ternaryParsesWrong)

/-- 'patchbaylaw07.TernaryFormats': WHATEVER THE INPUT: true; the input reads as it did. -/
def ternaryFormatsSpec : ChangeSpec := { name := "ternaryFormats", fn := fun _ => fun
  | [d1, d2] => { results := [.lit (.bool true)], args := [d1, d2] }
  | _ => none }
def ternaryFormatsRow : OpenClaim := { program := "ytphejamjognmpaa", sum := "907ac70f6ff4a95f24868a55b7d7cc3ab8ef6f35388205ff7e05a2a77d984bc2", func := "patchbay/patchbaylaw07.TernaryFormats", spec := "ternaryFormats", apart := false }
def TernaryFormatsSaid : Prop := ternaryFormatsRow.holds Try.pinned (OpenSpec.ofChange ternaryFormatsSpec)

/-- ITS FALSE NEIGHBOUR: 'it returns false'. Refute it at one input. -/
def ternaryFormatsWrong : ChangeSpec := { name := "ternaryFormats", fn := fun _ => fun
  | [d1, d2] => { results := [.lit (.bool false)], args := [d1, d2] }
  | _ => none }
def TernaryFormatsWrongFalsely : Prop := ternaryFormatsRow.holds Try.pinned (OpenSpec.ofChange ternaryFormatsWrong)

/-- 'patchbaylaw07.TernarySubtracts': WHATEVER THE INPUT: true; the input reads as it did. -/
def ternarySubtractsSpec : ChangeSpec := { name := "ternarySubtracts", fn := fun _ => fun
  | [d] => { results := [.lit (.bool true)], args := [d] }
  | _ => none }
def ternarySubtractsRow : OpenClaim := { program := "ytphejamjognmpaa", sum := "907ac70f6ff4a95f24868a55b7d7cc3ab8ef6f35388205ff7e05a2a77d984bc2", func := "patchbay/patchbaylaw07.TernarySubtracts", spec := "ternarySubtracts", apart := false }
def TernarySubtractsSaid : Prop := ternarySubtractsRow.holds Try.pinned (OpenSpec.ofChange ternarySubtractsSpec)

/-- ITS FALSE NEIGHBOUR: 'it returns false'. Refute it at one input. -/
def ternarySubtractsWrong : ChangeSpec := { name := "ternarySubtracts", fn := fun _ => fun
  | [d] => { results := [.lit (.bool false)], args := [d] }
  | _ => none }
def TernarySubtractsWrongFalsely : Prop := ternarySubtractsRow.holds Try.pinned (OpenSpec.ofChange ternarySubtractsWrong)

/-- 'patchbaylaw07.TernaryOrders': WHATEVER THE INPUT: true; the input reads as it did. -/
def ternaryOrdersSpec : ChangeSpec := { name := "ternaryOrders", fn := fun _ => fun
  | [d1, d2, d3] => { results := [.lit (.bool true)], args := [d1, d2, d3] }
  | _ => none }
def ternaryOrdersRow : OpenClaim := { program := "ytphejamjognmpaa", sum := "907ac70f6ff4a95f24868a55b7d7cc3ab8ef6f35388205ff7e05a2a77d984bc2", func := "patchbay/patchbaylaw07.TernaryOrders", spec := "ternaryOrders", apart := false }
def TernaryOrdersSaid : Prop := ternaryOrdersRow.holds Try.pinned (OpenSpec.ofChange ternaryOrdersSpec)

/-- ITS FALSE NEIGHBOUR: 'it returns false'. Refute it at one input. -/
def ternaryOrdersWrong : ChangeSpec := { name := "ternaryOrders", fn := fun _ => fun
  | [d1, d2, d3] => { results := [.lit (.bool false)], args := [d1, d2, d3] }
  | _ => none }
def TernaryOrdersWrongFalsely : Prop := ternaryOrdersRow.holds Try.pinned (OpenSpec.ofChange ternaryOrdersWrong)

/- THE SECOND FORM. 'bulk': how many values and letters a reading holds, each counted each time it is reached (what is shared counts as often as it is met; a slice's spare places count too). A statement '..UptoSaid' is the law's where the arguments, and the package variables that the reading takes, are together of bulk at most 1048576: NARROWER than '..Said'. Prove '..Said' where nothing that the law and all that it calls make is longer than what came in: it says more and counts as full. Else prove '..UptoSaid'. A law counts once. -/
mutual
def uptoBulk {H : Type} : DataW H → Nat
  | .lit (.string bytes) => bytes.length + 1
  | .lit _ => 1
  | .nil => 1
  | .ptr d => uptoBulk d + 1
  | .slice elems spare => uptoBulkAll elems + uptoBulkAll spare + 1
  | .agg parts => uptoBulkAll parts + 1
  | .iface _ d => uptoBulk d + 1
  | .map entries => uptoBulkEntries entries + 1
  | .held _ => 1
def uptoBulkAll {H : Type} : List (DataW H) → Nat
  | [] => 0
  | d :: r => uptoBulk d + uptoBulkAll r
def uptoBulkEntries {H : Type} : List (Lit × DataW H) → Nat
  | [] => 0
  | x :: r => uptoBulkEntry x + uptoBulkEntries r
def uptoBulkEntry {H : Type} : Lit × DataW H → Nat
  | (.string bytes, d) => bytes.length + uptoBulk d + 1
  | (_, d) => uptoBulk d + 1
 end
def uptoSmall : (H : Type) → List (DataW H) → Bool := fun _ ds => decide (uptoBulkAll ds ≤ 1048576)
def OpenSpec.upto (s : _root_.Go.ChangeSpec) : _root_.Go.OpenSpec := { _root_.Go.OpenSpec.ofChange s with cond := some uptoSmall }

/-- 'patchbaylaw07.TernaryMatches', WHERE WHAT IT READS IS OF BULK AT MOST 1048576: true; the input reads as it did. -/
def ternaryMatchesUptoRow : OpenClaim := { program := "ytphejamjognmpaa", sum := "907ac70f6ff4a95f24868a55b7d7cc3ab8ef6f35388205ff7e05a2a77d984bc2", func := "patchbay/patchbaylaw07.TernaryMatches", spec := "ternaryMatches", apart := false, narrowed := true }
def TernaryMatchesUptoSaid : Prop := ternaryMatchesUptoRow.holds Try.pinned (OpenSpec.upto ternaryMatchesSpec)

/-- 'patchbaylaw07.TernaryParses', WHERE WHAT IT READS IS OF BULK AT MOST 1048576: true; the input reads as it did. -/
def ternaryParsesUptoRow : OpenClaim := { program := "ytphejamjognmpaa", sum := "907ac70f6ff4a95f24868a55b7d7cc3ab8ef6f35388205ff7e05a2a77d984bc2", func := "patchbay/patchbaylaw07.TernaryParses", spec := "ternaryParses", apart := false, narrowed := true }
def TernaryParsesUptoSaid : Prop := ternaryParsesUptoRow.holds Try.pinned (OpenSpec.upto ternaryParsesSpec)

/-- 'patchbaylaw07.TernaryFormats', WHERE WHAT IT READS IS OF BULK AT MOST 1048576: true; the input reads as it did. -/
def ternaryFormatsUptoRow : OpenClaim := { program := "ytphejamjognmpaa", sum := "907ac70f6ff4a95f24868a55b7d7cc3ab8ef6f35388205ff7e05a2a77d984bc2", func := "patchbay/patchbaylaw07.TernaryFormats", spec := "ternaryFormats", apart := false, narrowed := true }
def TernaryFormatsUptoSaid : Prop := ternaryFormatsUptoRow.holds Try.pinned (OpenSpec.upto ternaryFormatsSpec)

/-- 'patchbaylaw07.TernarySubtracts', WHERE WHAT IT READS IS OF BULK AT MOST 1048576: true; the input reads as it did. -/
def ternarySubtractsUptoRow : OpenClaim := { program := "ytphejamjognmpaa", sum := "907ac70f6ff4a95f24868a55b7d7cc3ab8ef6f35388205ff7e05a2a77d984bc2", func := "patchbay/patchbaylaw07.TernarySubtracts", spec := "ternarySubtracts", apart := false, narrowed := true }
def TernarySubtractsUptoSaid : Prop := ternarySubtractsUptoRow.holds Try.pinned (OpenSpec.upto ternarySubtractsSpec)

/-- 'patchbaylaw07.TernaryOrders', WHERE WHAT IT READS IS OF BULK AT MOST 1048576: true; the input reads as it did. -/
def ternaryOrdersUptoRow : OpenClaim := { program := "ytphejamjognmpaa", sum := "907ac70f6ff4a95f24868a55b7d7cc3ab8ef6f35388205ff7e05a2a77d984bc2", func := "patchbay/patchbaylaw07.TernaryOrders", spec := "ternaryOrders", apart := false, narrowed := true }
def TernaryOrdersUptoSaid : Prop := ternaryOrdersUptoRow.holds Try.pinned (OpenSpec.upto ternaryOrdersSpec)

end Rows
end Go.Proofs.Ytphejamjognmpaa
