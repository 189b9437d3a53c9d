/-
  No cell of these rows narrows 'for every input' (looked for: loops, veiled, ifaces, maps, wideKeys, modest, calm, conditions, laid).
  DERIVED. THE GIVEN ROWS OF THIS SEAT. 8 by the template 'for every input the law returns true; each argument reads behind the call as it read before'; 0 by the template 'total and deterministic' (their statements: YteemhabgliglmaaTotals.lean).
  GIVEN WITH THE SEED: the statements are not yours to turn. If you find one false, say at which input.
  Laid BY PROGRAM, IN A SANDBOX (cutbox-rows.mjs): the forced cells as the released guide's own fill.sh prints them over the translation 9ff0a7c18d951016… (all of the seat's roots in one cut). By AI agents, Wed Nov 11 2026. No macro, syntax, notation, axiom, sorry.
-/
import Derived.Test.YteemhabgliglmaaChecked
import GoSem.Claim
import GoSem.ClaimJoined
import GoSem.ClaimMapViews
import Derived.JoinedTies
import Derived.KernelRfl
namespace Go.Proofs.Yteemhabgliglmaa
/- THE CELL 'sum', in the pinned program and in every row, IS THE sha256 OF THE DUMP (.gsa) THAT YteemhabgliglmaaProg.lean LOADS. Nothing in Lean hashes anything: it is a label: what it is worth is what the hold of that sum in a sandbox is worth. -/
noncomputable def Try.pinned : Pinned := { name := "yteemhabgliglmaa", sum := "9ff0a7c18d9510160c357582e957131bfd89d4462af675f153f3cb9e8aa39498", checked := Try.checked }
namespace Rows
def none {H : Type} : Left H := { results := [], args := [] }

/-- 'patchbaylaw08.CubesetOperations': WHATEVER THE INPUT: true; the input reads as it did. -/
def cubesetOperationsSpec : ChangeSpec := { name := "cubesetOperations", fn := fun _ => fun
  | [d1, d2, d3] => { results := [.lit (.bool true)], args := [d1, d2, d3] }
  | _ => none }
def cubesetOperationsRow : OpenClaim := { program := "yteemhabgliglmaa", sum := "9ff0a7c18d9510160c357582e957131bfd89d4462af675f153f3cb9e8aa39498", func := "patchbay/patchbaylaw08.CubesetOperations", spec := "cubesetOperations", unfollowed := true, recurses := true, plainKeys := false, apart := false }
def CubesetOperationsSaid : Prop := cubesetOperationsRow.holds Try.pinned (OpenSpec.ofChange cubesetOperationsSpec)

/-- ITS FALSE NEIGHBOUR: 'it returns false'. Refute it at one input. -/
def cubesetOperationsWrong : ChangeSpec := { name := "cubesetOperations", fn := fun _ => fun
  | [d1, d2, d3] => { results := [.lit (.bool false)], args := [d1, d2, d3] }
  | _ => none }
def CubesetOperationsWrongFalsely : Prop := cubesetOperationsRow.holds Try.pinned (OpenSpec.ofChange cubesetOperationsWrong)

/-- 'patchbaylaw08.CubesetQueries': WHATEVER THE INPUT: true; the input reads as it did. -/
def cubesetQueriesSpec : ChangeSpec := { name := "cubesetQueries", fn := fun _ => fun
  | [d1, d2, d3] => { results := [.lit (.bool true)], args := [d1, d2, d3] }
  | _ => none }
def cubesetQueriesRow : OpenClaim := { program := "yteemhabgliglmaa", sum := "9ff0a7c18d9510160c357582e957131bfd89d4462af675f153f3cb9e8aa39498", func := "patchbay/patchbaylaw08.CubesetQueries", spec := "cubesetQueries", unfollowed := true, recurses := true, plainKeys := false, apart := false }
def CubesetQueriesSaid : Prop := cubesetQueriesRow.holds Try.pinned (OpenSpec.ofChange cubesetQueriesSpec)

/-- ITS FALSE NEIGHBOUR: 'it returns false'. Refute it at one input. -/
def cubesetQueriesWrong : ChangeSpec := { name := "cubesetQueries", fn := fun _ => fun
  | [d1, d2, d3] => { results := [.lit (.bool false)], args := [d1, d2, d3] }
  | _ => none }
def CubesetQueriesWrongFalsely : Prop := cubesetQueriesRow.holds Try.pinned (OpenSpec.ofChange cubesetQueriesWrong)

/-- 'patchbaylaw08.CubesetMembers': WHATEVER THE INPUT: true; the input reads as it did. -/
def cubesetMembersSpec : ChangeSpec := { name := "cubesetMembers", fn := fun _ => fun
  | [d1, d2, d3] => { results := [.lit (.bool true)], args := [d1, d2, d3] }
  | _ => none }
def cubesetMembersRow : OpenClaim := { program := "yteemhabgliglmaa", sum := "9ff0a7c18d9510160c357582e957131bfd89d4462af675f153f3cb9e8aa39498", func := "patchbay/patchbaylaw08.CubesetMembers", spec := "cubesetMembers", unfollowed := true, recurses := true, plainKeys := false, apart := false }
def CubesetMembersSaid : Prop := cubesetMembersRow.holds Try.pinned (OpenSpec.ofChange cubesetMembersSpec)

/-- ITS FALSE NEIGHBOUR: 'it returns false'. Refute it at one input. -/
def cubesetMembersWrong : ChangeSpec := { name := "cubesetMembers", fn := fun _ => fun
  | [d1, d2, d3] => { results := [.lit (.bool false)], args := [d1, d2, d3] }
  | _ => none }
def CubesetMembersWrongFalsely : Prop := cubesetMembersRow.holds Try.pinned (OpenSpec.ofChange cubesetMembersWrong)

/-- 'patchbaylaw08.CubesetCounts': WHATEVER THE INPUT: true; the input reads as it did. -/
def cubesetCountsSpec : ChangeSpec := { name := "cubesetCounts", fn := fun _ => fun
  | [d1, d2] => { results := [.lit (.bool true)], args := [d1, d2] }
  | _ => none }
def cubesetCountsRow : OpenClaim := { program := "yteemhabgliglmaa", sum := "9ff0a7c18d9510160c357582e957131bfd89d4462af675f153f3cb9e8aa39498", func := "patchbay/patchbaylaw08.CubesetCounts", spec := "cubesetCounts", unfollowed := true, recurses := true, plainKeys := false, apart := false }
def CubesetCountsSaid : Prop := cubesetCountsRow.holds Try.pinned (OpenSpec.ofChange cubesetCountsSpec)

/-- ITS FALSE NEIGHBOUR: 'it returns false'. Refute it at one input. -/
def cubesetCountsWrong : ChangeSpec := { name := "cubesetCounts", fn := fun _ => fun
  | [d1, d2] => { results := [.lit (.bool false)], args := [d1, d2] }
  | _ => none }
def CubesetCountsWrongFalsely : Prop := cubesetCountsRow.holds Try.pinned (OpenSpec.ofChange cubesetCountsWrong)

/-- 'patchbaylaw08.CubesetPartition': WHATEVER THE INPUT: true; the input reads as it did. -/
def cubesetPartitionSpec : ChangeSpec := { name := "cubesetPartition", fn := fun _ => fun
  | [d1, d2, d3] => { results := [.lit (.bool true)], args := [d1, d2, d3] }
  | _ => none }
def cubesetPartitionRow : OpenClaim := { program := "yteemhabgliglmaa", sum := "9ff0a7c18d9510160c357582e957131bfd89d4462af675f153f3cb9e8aa39498", func := "patchbay/patchbaylaw08.CubesetPartition", spec := "cubesetPartition", unfollowed := true, recurses := true, plainKeys := false, apart := false }
def CubesetPartitionSaid : Prop := cubesetPartitionRow.holds Try.pinned (OpenSpec.ofChange cubesetPartitionSpec)

/-- ITS FALSE NEIGHBOUR: 'it returns false'. Refute it at one input. -/
def cubesetPartitionWrong : ChangeSpec := { name := "cubesetPartition", fn := fun _ => fun
  | [d1, d2, d3] => { results := [.lit (.bool false)], args := [d1, d2, d3] }
  | _ => none }
def CubesetPartitionWrongFalsely : Prop := cubesetPartitionRow.holds Try.pinned (OpenSpec.ofChange cubesetPartitionWrong)

/-- 'patchbaylaw08.CubesetComplements': WHATEVER THE INPUT: true; the input reads as it did. -/
def cubesetComplementsSpec : ChangeSpec := { name := "cubesetComplements", fn := fun _ => fun
  | [d1, d2] => { results := [.lit (.bool true)], args := [d1, d2] }
  | _ => none }
def cubesetComplementsRow : OpenClaim := { program := "yteemhabgliglmaa", sum := "9ff0a7c18d9510160c357582e957131bfd89d4462af675f153f3cb9e8aa39498", func := "patchbay/patchbaylaw08.CubesetComplements", spec := "cubesetComplements", unfollowed := true, recurses := true, plainKeys := false, apart := false }
def CubesetComplementsSaid : Prop := cubesetComplementsRow.holds Try.pinned (OpenSpec.ofChange cubesetComplementsSpec)

/-- ITS FALSE NEIGHBOUR: 'it returns false'. Refute it at one input. -/
def cubesetComplementsWrong : ChangeSpec := { name := "cubesetComplements", fn := fun _ => fun
  | [d1, d2] => { results := [.lit (.bool false)], args := [d1, d2] }
  | _ => none }
def CubesetComplementsWrongFalsely : Prop := cubesetComplementsRow.holds Try.pinned (OpenSpec.ofChange cubesetComplementsWrong)

/-- 'patchbaylaw08.CubesetSimplifies': WHATEVER THE INPUT: true; the input reads as it did. -/
def cubesetSimplifiesSpec : ChangeSpec := { name := "cubesetSimplifies", fn := fun _ => fun
  | [d] => { results := [.lit (.bool true)], args := [d] }
  | _ => none }
def cubesetSimplifiesRow : OpenClaim := { program := "yteemhabgliglmaa", sum := "9ff0a7c18d9510160c357582e957131bfd89d4462af675f153f3cb9e8aa39498", func := "patchbay/patchbaylaw08.CubesetSimplifies", spec := "cubesetSimplifies", unfollowed := true, recurses := true, plainKeys := false, apart := false }
def CubesetSimplifiesSaid : Prop := cubesetSimplifiesRow.holds Try.pinned (OpenSpec.ofChange cubesetSimplifiesSpec)

/-- ITS FALSE NEIGHBOUR: 'it returns false'. Refute it at one input. -/
def cubesetSimplifiesWrong : ChangeSpec := { name := "cubesetSimplifies", fn := fun _ => fun
  | [d] => { results := [.lit (.bool false)], args := [d] }
  | _ => none }
def CubesetSimplifiesWrongFalsely : Prop := cubesetSimplifiesRow.holds Try.pinned (OpenSpec.ofChange cubesetSimplifiesWrong)

/-- 'patchbaylaw08.CubesetLimit': WHATEVER THE INPUT: true; the input reads as it did. -/
def cubesetLimitSpec : ChangeSpec := { name := "cubesetLimit", fn := fun _ => fun
  | [d1, d2] => { results := [.lit (.bool true)], args := [d1, d2] }
  | _ => none }
def cubesetLimitRow : OpenClaim := { program := "yteemhabgliglmaa", sum := "9ff0a7c18d9510160c357582e957131bfd89d4462af675f153f3cb9e8aa39498", func := "patchbay/patchbaylaw08.CubesetLimit", spec := "cubesetLimit", unfollowed := true, recurses := true, plainKeys := false, apart := false }
def CubesetLimitSaid : Prop := cubesetLimitRow.holds Try.pinned (OpenSpec.ofChange cubesetLimitSpec)

/-- ITS FALSE NEIGHBOUR: 'it returns false'. Refute it at one input. -/
def cubesetLimitWrong : ChangeSpec := { name := "cubesetLimit", fn := fun _ => fun
  | [d1, d2] => { results := [.lit (.bool false)], args := [d1, d2] }
  | _ => none }
def CubesetLimitWrongFalsely : Prop := cubesetLimitRow.holds Try.pinned (OpenSpec.ofChange cubesetLimitWrong)

/- THE SECOND FORM. 'bulk': how many values and letters a reading holds, each counted each time it is reached (what is shared counts as often as it is met; a slice's spare places count too). A statement '..UptoSaid' is the law's where the arguments, and the package variables that the reading takes, are together of bulk at most 1048576: NARROWER than '..Said'. Prove '..Said' where nothing that the law and all that it calls make is longer than what came in: it says more and counts as full. Else prove '..UptoSaid'. A law counts once. -/
mutual
def uptoBulk {H : Type} : DataW H → Nat
  | .lit (.string bytes) => bytes.length + 1
  | .lit _ => 1
  | .nil => 1
  | .ptr d => uptoBulk d + 1
  | .slice elems spare => uptoBulkAll elems + uptoBulkAll spare + 1
  | .agg parts => uptoBulkAll parts + 1
  | .iface _ d => uptoBulk d + 1
  | .map entries => uptoBulkEntries entries + 1
  | .held _ => 1
def uptoBulkAll {H : Type} : List (DataW H) → Nat
  | [] => 0
  | d :: r => uptoBulk d + uptoBulkAll r
def uptoBulkEntries {H : Type} : List (Lit × DataW H) → Nat
  | [] => 0
  | x :: r => uptoBulkEntry x + uptoBulkEntries r
def uptoBulkEntry {H : Type} : Lit × DataW H → Nat
  | (.string bytes, d) => bytes.length + uptoBulk d + 1
  | (_, d) => uptoBulk d + 1
 end
def uptoSmall : (H : Type) → List (DataW H) → Bool := fun _ ds => decide (uptoBulkAll ds ≤ 1048576)
def OpenSpec.upto (s : _root_.Go.ChangeSpec) : _root_.Go.OpenSpec := { _root_.Go.OpenSpec.ofChange s with cond := some uptoSmall }

/-- 'patchbaylaw08.CubesetOperations', WHERE WHAT IT READS IS OF BULK AT MOST 1048576: true; the input reads as it did. -/
def cubesetOperationsUptoRow : OpenClaim := { program := "yteemhabgliglmaa", sum := "9ff0a7c18d9510160c357582e957131bfd89d4462af675f153f3cb9e8aa39498", func := "patchbay/patchbaylaw08.CubesetOperations", spec := "cubesetOperations", unfollowed := true, recurses := true, plainKeys := false, apart := false, narrowed := true }
def CubesetOperationsUptoSaid : Prop := cubesetOperationsUptoRow.holds Try.pinned (OpenSpec.upto cubesetOperationsSpec)

/-- 'patchbaylaw08.CubesetQueries', WHERE WHAT IT READS IS OF BULK AT MOST 1048576: true; the input reads as it did. -/
def cubesetQueriesUptoRow : OpenClaim := { program := "yteemhabgliglmaa", sum := "9ff0a7c18d9510160c357582e957131bfd89d4462af675f153f3cb9e8aa39498", func := "patchbay/patchbaylaw08.CubesetQueries", spec := "cubesetQueries", unfollowed := true, recurses := true, plainKeys := false, apart := false, narrowed := true }
def CubesetQueriesUptoSaid : Prop := cubesetQueriesUptoRow.holds Try.pinned (OpenSpec.upto cubesetQueriesSpec)

/-- 'patchbaylaw08.CubesetMembers', WHERE WHAT IT READS IS OF BULK AT MOST 1048576: true; the input reads as it did. -/
def cubesetMembersUptoRow : OpenClaim := { program := "yteemhabgliglmaa", sum := "9ff0a7c18d9510160c357582e957131bfd89d4462af675f153f3cb9e8aa39498", func := "patchbay/patchbaylaw08.CubesetMembers", spec := "cubesetMembers", unfollowed := true, recurses := true, plainKeys := false, apart := false, narrowed := true }
def CubesetMembersUptoSaid : Prop := cubesetMembersUptoRow.holds Try.pinned (OpenSpec.upto cubesetMembersSpec)

/-- 'patchbaylaw08.CubesetCounts', WHERE WHAT IT READS IS OF BULK AT MOST 1048576: true; the input reads as it did. -/
def cubesetCountsUptoRow : OpenClaim := { program := "yteemhabgliglmaa", sum := "9ff0a7c18d9510160c357582e957131bfd89d4462af675f153f3cb9e8aa39498", func := "patchbay/patchbaylaw08.CubesetCounts", spec := "cubesetCounts", unfollowed := true, recurses := true, plainKeys := false, apart := false, narrowed := true }
def CubesetCountsUptoSaid : Prop := cubesetCountsUptoRow.holds Try.pinned (OpenSpec.upto cubesetCountsSpec)

/-- 'patchbaylaw08.CubesetPartition', WHERE WHAT IT READS IS OF BULK AT MOST 1048576: true; the input reads as it did. -/
def cubesetPartitionUptoRow : OpenClaim := { program := "yteemhabgliglmaa", sum := "9ff0a7c18d9510160c357582e957131bfd89d4462af675f153f3cb9e8aa39498", func := "patchbay/patchbaylaw08.CubesetPartition", spec := "cubesetPartition", unfollowed := true, recurses := true, plainKeys := false, apart := false, narrowed := true }
def CubesetPartitionUptoSaid : Prop := cubesetPartitionUptoRow.holds Try.pinned (OpenSpec.upto cubesetPartitionSpec)

/-- 'patchbaylaw08.CubesetComplements', WHERE WHAT IT READS IS OF BULK AT MOST 1048576: true; the input reads as it did. -/
def cubesetComplementsUptoRow : OpenClaim := { program := "yteemhabgliglmaa", sum := "9ff0a7c18d9510160c357582e957131bfd89d4462af675f153f3cb9e8aa39498", func := "patchbay/patchbaylaw08.CubesetComplements", spec := "cubesetComplements", unfollowed := true, recurses := true, plainKeys := false, apart := false, narrowed := true }
def CubesetComplementsUptoSaid : Prop := cubesetComplementsUptoRow.holds Try.pinned (OpenSpec.upto cubesetComplementsSpec)

/-- 'patchbaylaw08.CubesetSimplifies', WHERE WHAT IT READS IS OF BULK AT MOST 1048576: true; the input reads as it did. -/
def cubesetSimplifiesUptoRow : OpenClaim := { program := "yteemhabgliglmaa", sum := "9ff0a7c18d9510160c357582e957131bfd89d4462af675f153f3cb9e8aa39498", func := "patchbay/patchbaylaw08.CubesetSimplifies", spec := "cubesetSimplifies", unfollowed := true, recurses := true, plainKeys := false, apart := false, narrowed := true }
def CubesetSimplifiesUptoSaid : Prop := cubesetSimplifiesUptoRow.holds Try.pinned (OpenSpec.upto cubesetSimplifiesSpec)

/-- 'patchbaylaw08.CubesetLimit', WHERE WHAT IT READS IS OF BULK AT MOST 1048576: true; the input reads as it did. -/
def cubesetLimitUptoRow : OpenClaim := { program := "yteemhabgliglmaa", sum := "9ff0a7c18d9510160c357582e957131bfd89d4462af675f153f3cb9e8aa39498", func := "patchbay/patchbaylaw08.CubesetLimit", spec := "cubesetLimit", unfollowed := true, recurses := true, plainKeys := false, apart := false, narrowed := true }
def CubesetLimitUptoSaid : Prop := cubesetLimitUptoRow.holds Try.pinned (OpenSpec.upto cubesetLimitSpec)

end Rows
end Go.Proofs.Yteemhabgliglmaa
