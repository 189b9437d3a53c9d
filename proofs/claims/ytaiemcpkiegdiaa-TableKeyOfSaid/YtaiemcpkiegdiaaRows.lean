/-
  NARROWER THAN 'FOR EVERY INPUT', by the rows' own cells (each row's printed sentence says how): TableChecks: loops · TableQueries: loops · TableKeys: loops · TableConsistent: loops · TableKeyOf: loops.
  DERIVED. THE GIVEN ROWS OF THIS SEAT. 5 by the template 'for every input the law returns true; each argument reads behind the call as it read before'; 0 by the template 'total and deterministic' (their statements: YtaiemcpkiegdiaaTotals.lean).
  GIVEN WITH THE SEED: the statements are not yours to turn. If you find one false, say at which input.
  Laid BY PROGRAM, IN A SANDBOX (cutbox-rows.mjs): the forced cells as the released guide's own fill.sh prints them over the translation 2844a2214ac520b8… (all of the seat's roots in one cut). By AI agents, Wed Nov 11 2026. No macro, syntax, notation, axiom, sorry.
-/
import Derived.Test.YtaiemcpkiegdiaaChecked
import GoSem.Claim
import GoSem.ClaimJoined
import GoSem.ClaimMapViews
import Derived.JoinedTies
import Derived.KernelRfl
namespace Go.Proofs.Ytaiemcpkiegdiaa
/- THE CELL 'sum', in the pinned program and in every row, IS THE sha256 OF THE DUMP (.gsa) THAT YtaiemcpkiegdiaaProg.lean LOADS. Nothing in Lean hashes anything: it is a label: what it is worth is what the hold of that sum in a sandbox is worth. -/
noncomputable def Try.pinned : Pinned := { name := "ytaiemcpkiegdiaa", sum := "2844a2214ac520b88ced1be2b9beb99ae48cb23ef887b6fc613a1433828395a9", checked := Try.checked }
namespace Rows
def none {H : Type} : Left H := { results := [], args := [] }

/-- 'patchbaylaw17.TableChecks': WHATEVER THE INPUT: true; the input reads as it did. -/
def tableChecksSpec : ChangeSpec := { name := "tableChecks", fn := fun _ => fun
  | [d1, d2] => { results := [.lit (.bool true)], args := [d1, d2] }
  | _ => none }
def tableChecksRow : OpenClaim := { program := "ytaiemcpkiegdiaa", sum := "2844a2214ac520b88ced1be2b9beb99ae48cb23ef887b6fc613a1433828395a9", func := "patchbay/patchbaylaw17.TableChecks", spec := "tableChecks", unfollowed := true, recurses := true, loops := true, apart := false }
def TableChecksSaid : Prop := tableChecksRow.holds Try.pinned (OpenSpec.ofChange tableChecksSpec)

/-- ITS FALSE NEIGHBOUR: 'it returns false'. Refute it at one input. -/
def tableChecksWrong : ChangeSpec := { name := "tableChecks", fn := fun _ => fun
  | [d1, d2] => { results := [.lit (.bool false)], args := [d1, d2] }
  | _ => none }
def TableChecksWrongFalsely : Prop := tableChecksRow.holds Try.pinned (OpenSpec.ofChange tableChecksWrong)

/-- 'patchbaylaw17.TableQueries': WHATEVER THE INPUT: true; the input reads as it did. -/
def tableQueriesSpec : ChangeSpec := { name := "tableQueries", fn := fun _ => fun
  | [d1, d2, d3] => { results := [.lit (.bool true)], args := [d1, d2, d3] }
  | _ => none }
def tableQueriesRow : OpenClaim := { program := "ytaiemcpkiegdiaa", sum := "2844a2214ac520b88ced1be2b9beb99ae48cb23ef887b6fc613a1433828395a9", func := "patchbay/patchbaylaw17.TableQueries", spec := "tableQueries", unfollowed := true, recurses := true, loops := true, apart := false }
def TableQueriesSaid : Prop := tableQueriesRow.holds Try.pinned (OpenSpec.ofChange tableQueriesSpec)

/-- ITS FALSE NEIGHBOUR: 'it returns false'. Refute it at one input. -/
def tableQueriesWrong : ChangeSpec := { name := "tableQueries", fn := fun _ => fun
  | [d1, d2, d3] => { results := [.lit (.bool false)], args := [d1, d2, d3] }
  | _ => none }
def TableQueriesWrongFalsely : Prop := tableQueriesRow.holds Try.pinned (OpenSpec.ofChange tableQueriesWrong)

/-- 'patchbaylaw17.TableKeys': WHATEVER THE INPUT: true; the input reads as it did. -/
def tableKeysSpec : ChangeSpec := { name := "tableKeys", fn := fun _ => fun
  | [d1, d2, d3] => { results := [.lit (.bool true)], args := [d1, d2, d3] }
  | _ => none }
def tableKeysRow : OpenClaim := { program := "ytaiemcpkiegdiaa", sum := "2844a2214ac520b88ced1be2b9beb99ae48cb23ef887b6fc613a1433828395a9", func := "patchbay/patchbaylaw17.TableKeys", spec := "tableKeys", unfollowed := true, recurses := true, loops := true, apart := false }
def TableKeysSaid : Prop := tableKeysRow.holds Try.pinned (OpenSpec.ofChange tableKeysSpec)

/-- ITS FALSE NEIGHBOUR: 'it returns false'. Refute it at one input. -/
def tableKeysWrong : ChangeSpec := { name := "tableKeys", fn := fun _ => fun
  | [d1, d2, d3] => { results := [.lit (.bool false)], args := [d1, d2, d3] }
  | _ => none }
def TableKeysWrongFalsely : Prop := tableKeysRow.holds Try.pinned (OpenSpec.ofChange tableKeysWrong)

/-- 'patchbaylaw17.TableConsistent': WHATEVER THE INPUT: true; the input reads as it did. -/
def tableConsistentSpec : ChangeSpec := { name := "tableConsistent", fn := fun _ => fun
  | [d1, d2, d3] => { results := [.lit (.bool true)], args := [d1, d2, d3] }
  | _ => none }
def tableConsistentRow : OpenClaim := { program := "ytaiemcpkiegdiaa", sum := "2844a2214ac520b88ced1be2b9beb99ae48cb23ef887b6fc613a1433828395a9", func := "patchbay/patchbaylaw17.TableConsistent", spec := "tableConsistent", unfollowed := true, recurses := true, loops := true, apart := false }
def TableConsistentSaid : Prop := tableConsistentRow.holds Try.pinned (OpenSpec.ofChange tableConsistentSpec)

/-- ITS FALSE NEIGHBOUR: 'it returns false'. Refute it at one input. -/
def tableConsistentWrong : ChangeSpec := { name := "tableConsistent", fn := fun _ => fun
  | [d1, d2, d3] => { results := [.lit (.bool false)], args := [d1, d2, d3] }
  | _ => none }
def TableConsistentWrongFalsely : Prop := tableConsistentRow.holds Try.pinned (OpenSpec.ofChange tableConsistentWrong)

/-- 'patchbaylaw17.TableKeyOf': WHATEVER THE INPUT: true; the input reads as it did. -/
def tableKeyOfSpec : ChangeSpec := { name := "tableKeyOf", fn := fun _ => fun
  | [d1, d2, d3] => { results := [.lit (.bool true)], args := [d1, d2, d3] }
  | _ => none }
def tableKeyOfRow : OpenClaim := { program := "ytaiemcpkiegdiaa", sum := "2844a2214ac520b88ced1be2b9beb99ae48cb23ef887b6fc613a1433828395a9", func := "patchbay/patchbaylaw17.TableKeyOf", spec := "tableKeyOf", unfollowed := true, recurses := true, loops := true, apart := false }
def TableKeyOfSaid : Prop := tableKeyOfRow.holds Try.pinned (OpenSpec.ofChange tableKeyOfSpec)

/-- ITS FALSE NEIGHBOUR: 'it returns false'. Refute it at one input. -/
def tableKeyOfWrong : ChangeSpec := { name := "tableKeyOf", fn := fun _ => fun
  | [d1, d2, d3] => { results := [.lit (.bool false)], args := [d1, d2, d3] }
  | _ => none }
def TableKeyOfWrongFalsely : Prop := tableKeyOfRow.holds Try.pinned (OpenSpec.ofChange tableKeyOfWrong)

/- THE SECOND FORM. 'bulk': how many values and letters a reading holds, each counted each time it is reached (what is shared counts as often as it is met; a slice's spare places count too). A statement '..UptoSaid' is the law's where the arguments, and the package variables that the reading takes, are together of bulk at most 1048576: NARROWER than '..Said'. Prove '..Said' where nothing that the law and all that it calls make is longer than what came in: it says more and counts as full. Else prove '..UptoSaid'. A law counts once. -/
mutual
def uptoBulk {H : Type} : DataW H → Nat
  | .lit (.string bytes) => bytes.length + 1
  | .lit _ => 1
  | .nil => 1
  | .ptr d => uptoBulk d + 1
  | .slice elems spare => uptoBulkAll elems + uptoBulkAll spare + 1
  | .agg parts => uptoBulkAll parts + 1
  | .iface _ d => uptoBulk d + 1
  | .map entries => uptoBulkEntries entries + 1
  | .held _ => 1
def uptoBulkAll {H : Type} : List (DataW H) → Nat
  | [] => 0
  | d :: r => uptoBulk d + uptoBulkAll r
def uptoBulkEntries {H : Type} : List (Lit × DataW H) → Nat
  | [] => 0
  | x :: r => uptoBulkEntry x + uptoBulkEntries r
def uptoBulkEntry {H : Type} : Lit × DataW H → Nat
  | (.string bytes, d) => bytes.length + uptoBulk d + 1
  | (_, d) => uptoBulk d + 1
 end
def uptoSmall : (H : Type) → List (DataW H) → Bool := fun _ ds => decide (uptoBulkAll ds ≤ 1048576)
def OpenSpec.upto (s : _root_.Go.ChangeSpec) : _root_.Go.OpenSpec := { _root_.Go.OpenSpec.ofChange s with cond := some uptoSmall }

/-- 'patchbaylaw17.TableChecks', WHERE WHAT IT READS IS OF BULK AT MOST 1048576: true; the input reads as it did. -/
def tableChecksUptoRow : OpenClaim := { program := "ytaiemcpkiegdiaa", sum := "2844a2214ac520b88ced1be2b9beb99ae48cb23ef887b6fc613a1433828395a9", func := "patchbay/patchbaylaw17.TableChecks", spec := "tableChecks", unfollowed := true, recurses := true, loops := true, apart := false, narrowed := true }
def TableChecksUptoSaid : Prop := tableChecksUptoRow.holds Try.pinned (OpenSpec.upto tableChecksSpec)

/-- 'patchbaylaw17.TableQueries', WHERE WHAT IT READS IS OF BULK AT MOST 1048576: true; the input reads as it did. -/
def tableQueriesUptoRow : OpenClaim := { program := "ytaiemcpkiegdiaa", sum := "2844a2214ac520b88ced1be2b9beb99ae48cb23ef887b6fc613a1433828395a9", func := "patchbay/patchbaylaw17.TableQueries", spec := "tableQueries", unfollowed := true, recurses := true, loops := true, apart := false, narrowed := true }
def TableQueriesUptoSaid : Prop := tableQueriesUptoRow.holds Try.pinned (OpenSpec.upto tableQueriesSpec)

/-- 'patchbaylaw17.TableKeys', WHERE WHAT IT READS IS OF BULK AT MOST 1048576: true; the input reads as it did. -/
def tableKeysUptoRow : OpenClaim := { program := "ytaiemcpkiegdiaa", sum := "2844a2214ac520b88ced1be2b9beb99ae48cb23ef887b6fc613a1433828395a9", func := "patchbay/patchbaylaw17.TableKeys", spec := "tableKeys", unfollowed := true, recurses := true, loops := true, apart := false, narrowed := true }
def TableKeysUptoSaid : Prop := tableKeysUptoRow.holds Try.pinned (OpenSpec.upto tableKeysSpec)

/-- 'patchbaylaw17.TableConsistent', WHERE WHAT IT READS IS OF BULK AT MOST 1048576: true; the input reads as it did. -/
def tableConsistentUptoRow : OpenClaim := { program := "ytaiemcpkiegdiaa", sum := "2844a2214ac520b88ced1be2b9beb99ae48cb23ef887b6fc613a1433828395a9", func := "patchbay/patchbaylaw17.TableConsistent", spec := "tableConsistent", unfollowed := true, recurses := true, loops := true, apart := false, narrowed := true }
def TableConsistentUptoSaid : Prop := tableConsistentUptoRow.holds Try.pinned (OpenSpec.upto tableConsistentSpec)

/-- 'patchbaylaw17.TableKeyOf', WHERE WHAT IT READS IS OF BULK AT MOST 1048576: true; the input reads as it did. -/
def tableKeyOfUptoRow : OpenClaim := { program := "ytaiemcpkiegdiaa", sum := "2844a2214ac520b88ced1be2b9beb99ae48cb23ef887b6fc613a1433828395a9", func := "patchbay/patchbaylaw17.TableKeyOf", spec := "tableKeyOf", unfollowed := true, recurses := true, loops := true, apart := false, narrowed := true }
def TableKeyOfUptoSaid : Prop := tableKeyOfUptoRow.holds Try.pinned (OpenSpec.upto tableKeyOfSpec)

end Rows
end Go.Proofs.Ytaiemcpkiegdiaa
