/-
  NARROWER THAN 'FOR EVERY INPUT', by the rows' own cells (each row's printed sentence says how): EntryChecks: loops · EntryPrecedes: loops · EntryOrder: loops · EntryExact: loops.
  DERIVED. THE GIVEN ROWS OF THIS SEAT. 6 by the template 'for every input the law returns true; each argument reads behind the call as it read before'; 0 by the template 'total and deterministic' (their statements: YtgdefahnmgonlaaTotals.lean).
  GIVEN WITH THE SEED: the statements are not yours to turn. If you find one false, say at which input.
  Laid BY PROGRAM, IN A SANDBOX (cutbox-rows.mjs): the forced cells as the released guide's own fill.sh prints them over the translation b6145783ee976e7b… (all of the seat's roots in one cut). By AI agents, Wed Nov 11 2026. No macro, syntax, notation, axiom, sorry.
-/
import Derived.Test.YtgdefahnmgonlaaChecked
import GoSem.Claim
import GoSem.ClaimJoined
import GoSem.ClaimMapViews
import Derived.JoinedTies
import Derived.KernelRfl
namespace Go.Proofs.Ytgdefahnmgonlaa
/- THE CELL 'sum', in the pinned program and in every row, IS THE sha256 OF THE DUMP (.gsa) THAT YtgdefahnmgonlaaProg.lean LOADS. Nothing in Lean hashes anything: it is a label: what it is worth is what the hold of that sum in a sandbox is worth. -/
noncomputable def Try.pinned : Pinned := { name := "ytgdefahnmgonlaa", sum := "b6145783ee976e7ba0b2984e19b127ac4ff8d2a38d606a517ea0b3e7ce032cf6", checked := Try.checked }
namespace Rows
def none {H : Type} : Left H := { results := [], args := [] }

/-- 'patchbaylaw23.EntryChecks': WHATEVER THE INPUT: true; the input reads as it did. -/
def entryChecksSpec : ChangeSpec := { name := "entryChecks", fn := fun _ => fun
  | [d1, d2, d3] => { results := [.lit (.bool true)], args := [d1, d2, d3] }
  | _ => none }
def entryChecksRow : OpenClaim := { program := "ytgdefahnmgonlaa", sum := "b6145783ee976e7ba0b2984e19b127ac4ff8d2a38d606a517ea0b3e7ce032cf6", func := "patchbay/patchbaylaw23.EntryChecks", spec := "entryChecks", unfollowed := true, recurses := true, loops := true, apart := false }
def EntryChecksSaid : Prop := entryChecksRow.holds Try.pinned (OpenSpec.ofChange entryChecksSpec)

/-- ITS FALSE NEIGHBOUR: 'it returns false'. Refute it at one input. -/
def entryChecksWrong : ChangeSpec := { name := "entryChecks", fn := fun _ => fun
  | [d1, d2, d3] => { results := [.lit (.bool false)], args := [d1, d2, d3] }
  | _ => none }
def EntryChecksWrongFalsely : Prop := entryChecksRow.holds Try.pinned (OpenSpec.ofChange entryChecksWrong)

/-- 'patchbaylaw23.EntryMatches': WHATEVER THE INPUT: true; the input reads as it did. -/
def entryMatchesSpec : ChangeSpec := { name := "entryMatches", fn := fun _ => fun
  | [d1, d2] => { results := [.lit (.bool true)], args := [d1, d2] }
  | _ => none }
def entryMatchesRow : OpenClaim := { program := "ytgdefahnmgonlaa", sum := "b6145783ee976e7ba0b2984e19b127ac4ff8d2a38d606a517ea0b3e7ce032cf6", func := "patchbay/patchbaylaw23.EntryMatches", spec := "entryMatches", unfollowed := true, recurses := true, apart := false }
def EntryMatchesSaid : Prop := entryMatchesRow.holds Try.pinned (OpenSpec.ofChange entryMatchesSpec)

/-- ITS FALSE NEIGHBOUR: 'it returns false'. Refute it at one input. -/
def entryMatchesWrong : ChangeSpec := { name := "entryMatches", fn := fun _ => fun
  | [d1, d2] => { results := [.lit (.bool false)], args := [d1, d2] }
  | _ => none }
def EntryMatchesWrongFalsely : Prop := entryMatchesRow.holds Try.pinned (OpenSpec.ofChange entryMatchesWrong)

/-- 'patchbaylaw23.EntryPrecedes': WHATEVER THE INPUT: true; the input reads as it did. -/
def entryPrecedesSpec : ChangeSpec := { name := "entryPrecedes", fn := fun _ => fun
  | [d1, d2, d3] => { results := [.lit (.bool true)], args := [d1, d2, d3] }
  | _ => none }
def entryPrecedesRow : OpenClaim := { program := "ytgdefahnmgonlaa", sum := "b6145783ee976e7ba0b2984e19b127ac4ff8d2a38d606a517ea0b3e7ce032cf6", func := "patchbay/patchbaylaw23.EntryPrecedes", spec := "entryPrecedes", unfollowed := true, recurses := true, loops := true, apart := false }
def EntryPrecedesSaid : Prop := entryPrecedesRow.holds Try.pinned (OpenSpec.ofChange entryPrecedesSpec)

/-- ITS FALSE NEIGHBOUR: 'it returns false'. Refute it at one input. -/
def entryPrecedesWrong : ChangeSpec := { name := "entryPrecedes", fn := fun _ => fun
  | [d1, d2, d3] => { results := [.lit (.bool false)], args := [d1, d2, d3] }
  | _ => none }
def EntryPrecedesWrongFalsely : Prop := entryPrecedesRow.holds Try.pinned (OpenSpec.ofChange entryPrecedesWrong)

/-- 'patchbaylaw23.EntryCompares': WHATEVER THE INPUT: true; the input reads as it did. -/
def entryComparesSpec : ChangeSpec := { name := "entryCompares", fn := fun _ => fun
  | [d1, d2] => { results := [.lit (.bool true)], args := [d1, d2] }
  | _ => none }
def entryComparesRow : OpenClaim := { program := "ytgdefahnmgonlaa", sum := "b6145783ee976e7ba0b2984e19b127ac4ff8d2a38d606a517ea0b3e7ce032cf6", func := "patchbay/patchbaylaw23.EntryCompares", spec := "entryCompares", unfollowed := true, recurses := true, apart := false }
def EntryComparesSaid : Prop := entryComparesRow.holds Try.pinned (OpenSpec.ofChange entryComparesSpec)

/-- ITS FALSE NEIGHBOUR: 'it returns false'. Refute it at one input. -/
def entryComparesWrong : ChangeSpec := { name := "entryCompares", fn := fun _ => fun
  | [d1, d2] => { results := [.lit (.bool false)], args := [d1, d2] }
  | _ => none }
def EntryComparesWrongFalsely : Prop := entryComparesRow.holds Try.pinned (OpenSpec.ofChange entryComparesWrong)

/-- 'patchbaylaw23.EntryOrder': WHATEVER THE INPUT: true; the input reads as it did. -/
def entryOrderSpec : ChangeSpec := { name := "entryOrder", fn := fun _ => fun
  | [d1, d2, d3] => { results := [.lit (.bool true)], args := [d1, d2, d3] }
  | _ => none }
def entryOrderRow : OpenClaim := { program := "ytgdefahnmgonlaa", sum := "b6145783ee976e7ba0b2984e19b127ac4ff8d2a38d606a517ea0b3e7ce032cf6", func := "patchbay/patchbaylaw23.EntryOrder", spec := "entryOrder", unfollowed := true, recurses := true, loops := true, apart := false }
def EntryOrderSaid : Prop := entryOrderRow.holds Try.pinned (OpenSpec.ofChange entryOrderSpec)

/-- ITS FALSE NEIGHBOUR: 'it returns false'. Refute it at one input. -/
def entryOrderWrong : ChangeSpec := { name := "entryOrder", fn := fun _ => fun
  | [d1, d2, d3] => { results := [.lit (.bool false)], args := [d1, d2, d3] }
  | _ => none }
def EntryOrderWrongFalsely : Prop := entryOrderRow.holds Try.pinned (OpenSpec.ofChange entryOrderWrong)

/-- 'patchbaylaw23.EntryExact': WHATEVER THE INPUT: true; the input reads as it did. -/
def entryExactSpec : ChangeSpec := { name := "entryExact", fn := fun _ => fun
  | [d1, d2, d3] => { results := [.lit (.bool true)], args := [d1, d2, d3] }
  | _ => none }
def entryExactRow : OpenClaim := { program := "ytgdefahnmgonlaa", sum := "b6145783ee976e7ba0b2984e19b127ac4ff8d2a38d606a517ea0b3e7ce032cf6", func := "patchbay/patchbaylaw23.EntryExact", spec := "entryExact", unfollowed := true, recurses := true, loops := true, apart := false }
def EntryExactSaid : Prop := entryExactRow.holds Try.pinned (OpenSpec.ofChange entryExactSpec)

/-- ITS FALSE NEIGHBOUR: 'it returns false'. Refute it at one input. -/
def entryExactWrong : ChangeSpec := { name := "entryExact", fn := fun _ => fun
  | [d1, d2, d3] => { results := [.lit (.bool false)], args := [d1, d2, d3] }
  | _ => none }
def EntryExactWrongFalsely : Prop := entryExactRow.holds Try.pinned (OpenSpec.ofChange entryExactWrong)

/- THE SECOND FORM. 'bulk': how many values and letters a reading holds, each counted each time it is reached (what is shared counts as often as it is met; a slice's spare places count too). A statement '..UptoSaid' is the law's where the arguments, and the package variables that the reading takes, are together of bulk at most 1048576: NARROWER than '..Said'. Prove '..Said' where nothing that the law and all that it calls make is longer than what came in: it says more and counts as full. Else prove '..UptoSaid'. A law counts once. -/
mutual
def uptoBulk {H : Type} : DataW H → Nat
  | .lit (.string bytes) => bytes.length + 1
  | .lit _ => 1
  | .nil => 1
  | .ptr d => uptoBulk d + 1
  | .slice elems spare => uptoBulkAll elems + uptoBulkAll spare + 1
  | .agg parts => uptoBulkAll parts + 1
  | .iface _ d => uptoBulk d + 1
  | .map entries => uptoBulkEntries entries + 1
  | .held _ => 1
def uptoBulkAll {H : Type} : List (DataW H) → Nat
  | [] => 0
  | d :: r => uptoBulk d + uptoBulkAll r
def uptoBulkEntries {H : Type} : List (Lit × DataW H) → Nat
  | [] => 0
  | x :: r => uptoBulkEntry x + uptoBulkEntries r
def uptoBulkEntry {H : Type} : Lit × DataW H → Nat
  | (.string bytes, d) => bytes.length + uptoBulk d + 1
  | (_, d) => uptoBulk d + 1
 end
def uptoSmall : (H : Type) → List (DataW H) → Bool := fun _ ds => decide (uptoBulkAll ds ≤ 1048576)
def OpenSpec.upto (s : _root_.Go.ChangeSpec) : _root_.Go.OpenSpec := { _root_.Go.OpenSpec.ofChange s with cond := some uptoSmall }

/-- 'patchbaylaw23.EntryChecks', WHERE WHAT IT READS IS OF BULK AT MOST 1048576: true; the input reads as it did. -/
def entryChecksUptoRow : OpenClaim := { program := "ytgdefahnmgonlaa", sum := "b6145783ee976e7ba0b2984e19b127ac4ff8d2a38d606a517ea0b3e7ce032cf6", func := "patchbay/patchbaylaw23.EntryChecks", spec := "entryChecks", unfollowed := true, recurses := true, loops := true, apart := false, narrowed := true }
def EntryChecksUptoSaid : Prop := entryChecksUptoRow.holds Try.pinned (OpenSpec.upto entryChecksSpec)

/-- 'patchbaylaw23.EntryMatches', WHERE WHAT IT READS IS OF BULK AT MOST 1048576: true; the input reads as it did. -/
def entryMatchesUptoRow : OpenClaim := { program := "ytgdefahnmgonlaa", sum := "b6145783ee976e7ba0b2984e19b127ac4ff8d2a38d606a517ea0b3e7ce032cf6", func := "patchbay/patchbaylaw23.EntryMatches", spec := "entryMatches", unfollowed := true, recurses := true, apart := false, narrowed := true }
def EntryMatchesUptoSaid : Prop := entryMatchesUptoRow.holds Try.pinned (OpenSpec.upto entryMatchesSpec)

/-- 'patchbaylaw23.EntryPrecedes', WHERE WHAT IT READS IS OF BULK AT MOST 1048576: true; the input reads as it did. -/
def entryPrecedesUptoRow : OpenClaim := { program := "ytgdefahnmgonlaa", sum := "b6145783ee976e7ba0b2984e19b127ac4ff8d2a38d606a517ea0b3e7ce032cf6", func := "patchbay/patchbaylaw23.EntryPrecedes", spec := "entryPrecedes", unfollowed := true, recurses := true, loops := true, apart := false, narrowed := true }
def EntryPrecedesUptoSaid : Prop := entryPrecedesUptoRow.holds Try.pinned (OpenSpec.upto entryPrecedesSpec)

/-- 'patchbaylaw23.EntryCompares', WHERE WHAT IT READS IS OF BULK AT MOST 1048576: true; the input reads as it did. -/
def entryComparesUptoRow : OpenClaim := { program := "ytgdefahnmgonlaa", sum := "b6145783ee976e7ba0b2984e19b127ac4ff8d2a38d606a517ea0b3e7ce032cf6", func := "patchbay/patchbaylaw23.EntryCompares", spec := "entryCompares", unfollowed := true, recurses := true, apart := false, narrowed := true }
def EntryComparesUptoSaid : Prop := entryComparesUptoRow.holds Try.pinned (OpenSpec.upto entryComparesSpec)

/-- 'patchbaylaw23.EntryOrder', WHERE WHAT IT READS IS OF BULK AT MOST 1048576: true; the input reads as it did. -/
def entryOrderUptoRow : OpenClaim := { program := "ytgdefahnmgonlaa", sum := "b6145783ee976e7ba0b2984e19b127ac4ff8d2a38d606a517ea0b3e7ce032cf6", func := "patchbay/patchbaylaw23.EntryOrder", spec := "entryOrder", unfollowed := true, recurses := true, loops := true, apart := false, narrowed := true }
def EntryOrderUptoSaid : Prop := entryOrderUptoRow.holds Try.pinned (OpenSpec.upto entryOrderSpec)

/-- 'patchbaylaw23.EntryExact', WHERE WHAT IT READS IS OF BULK AT MOST 1048576: true; the input reads as it did. -/
def entryExactUptoRow : OpenClaim := { program := "ytgdefahnmgonlaa", sum := "b6145783ee976e7ba0b2984e19b127ac4ff8d2a38d606a517ea0b3e7ce032cf6", func := "patchbay/patchbaylaw23.EntryExact", spec := "entryExact", unfollowed := true, recurses := true, loops := true, apart := false, narrowed := true }
def EntryExactUptoSaid : Prop := entryExactUptoRow.holds Try.pinned (OpenSpec.upto entryExactSpec)

end Rows
end Go.Proofs.Ytgdefahnmgonlaa
