/-
  No cell of these rows narrows 'for every input' (looked for: loops, veiled, ifaces, maps, wideKeys, modest, calm, conditions, laid).
  DERIVED. THE GIVEN ROWS OF THIS SEAT. 12 by the template 'for every input the law returns true; each argument reads behind the call as it read before'; 0 by the template 'total and deterministic' (their statements: YtplhhjbmegaiiaaTotals.lean).
  GIVEN WITH THE SEED: the statements are not yours to turn. If you find one false, say at which input.
  Laid BY PROGRAM, IN A SANDBOX (cutbox-rows.mjs): the forced cells as the released guide's own fill.sh prints them over the translation 71e1048c7daa8148… (all of the seat's roots in one cut). By AI agents, Wed Nov 11 2026. No macro, syntax, notation, axiom, sorry.
-/
import Derived.Test.YtplhhjbmegaiiaaChecked
import GoSem.Claim
import GoSem.ClaimJoined
import GoSem.ClaimMapViews
import Derived.JoinedTies
import Derived.KernelRfl
namespace Go.Proofs.Ytplhhjbmegaiiaa
/- THE CELL 'sum', in the pinned program and in every row, IS THE sha256 OF THE DUMP (.gsa) THAT YtplhhjbmegaiiaaProg.lean LOADS. Nothing in Lean hashes anything: it is a label: what it is worth is what the hold of that sum in a sandbox is worth. -/
noncomputable def Try.pinned : Pinned := { name := "ytplhhjbmegaiiaa", sum := "71e1048c7daa8148c21961ab6be8e593d5e30aeaac9346647dfdc095239da642", checked := Try.checked }
namespace Rows
def none {H : Type} : Left H := { results := [], args := [] }

/-- 'patchbaylaw03.NumtextFormats': WHATEVER THE INPUT: true; the input reads as it did. -/
def numtextFormatsSpec : ChangeSpec := { name := "numtextFormats", fn := fun _ => fun
  | [d1, d2] => { results := [.lit (.bool true)], args := [d1, d2] }
  | _ => none }
def numtextFormatsRow : OpenClaim := { program := "ytplhhjbmegaiiaa", sum := "71e1048c7daa8148c21961ab6be8e593d5e30aeaac9346647dfdc095239da642", func := "patchbay/patchbaylaw03.NumtextFormats", spec := "numtextFormats", unfollowed := true, recurses := true, apart := false }
def NumtextFormatsSaid : Prop := numtextFormatsRow.holds Try.pinned (OpenSpec.ofChange numtextFormatsSpec)

/-- ITS FALSE NEIGHBOUR: 'it returns false'. Refute it at one input. -/
def numtextFormatsWrong : ChangeSpec := { name := "numtextFormats", fn := fun _ => fun
  | [d1, d2] => { results := [.lit (.bool false)], args := [d1, d2] }
  | _ => none }
def NumtextFormatsWrongFalsely : Prop := numtextFormatsRow.holds Try.pinned (OpenSpec.ofChange numtextFormatsWrong)

/-- 'patchbaylaw03.NumtextParses': WHATEVER THE INPUT: true; the input reads as it did. -/
def numtextParsesSpec : ChangeSpec := { name := "numtextParses", fn := fun _ => fun
  | [d] => { results := [.lit (.bool true)], args := [d] }
  | _ => none }
def numtextParsesRow : OpenClaim := { program := "ytplhhjbmegaiiaa", sum := "71e1048c7daa8148c21961ab6be8e593d5e30aeaac9346647dfdc095239da642", func := "patchbay/patchbaylaw03.NumtextParses", spec := "numtextParses", unfollowed := true, recurses := true, apart := false }
def NumtextParsesSaid : Prop := numtextParsesRow.holds Try.pinned (OpenSpec.ofChange numtextParsesSpec)

/-- ITS FALSE NEIGHBOUR: 'it returns false'. Refute it at one input. -/
def numtextParsesWrong : ChangeSpec := { name := "numtextParses", fn := fun _ => fun
  | [d] => { results := [.lit (.bool false)], args := [d] }
  | _ => none }
def NumtextParsesWrongFalsely : Prop := numtextParsesRow.holds Try.pinned (OpenSpec.ofChange numtextParsesWrong)

/-- 'patchbaylaw03.NumtextInts': WHATEVER THE INPUT: true; the input reads as it did. -/
def numtextIntsSpec : ChangeSpec := { name := "numtextInts", fn := fun _ => fun
  | [d] => { results := [.lit (.bool true)], args := [d] }
  | _ => none }
def numtextIntsRow : OpenClaim := { program := "ytplhhjbmegaiiaa", sum := "71e1048c7daa8148c21961ab6be8e593d5e30aeaac9346647dfdc095239da642", func := "patchbay/patchbaylaw03.NumtextInts", spec := "numtextInts", unfollowed := true, recurses := true, apart := false }
def NumtextIntsSaid : Prop := numtextIntsRow.holds Try.pinned (OpenSpec.ofChange numtextIntsSpec)

/-- ITS FALSE NEIGHBOUR: 'it returns false'. Refute it at one input. -/
def numtextIntsWrong : ChangeSpec := { name := "numtextInts", fn := fun _ => fun
  | [d] => { results := [.lit (.bool false)], args := [d] }
  | _ => none }
def NumtextIntsWrongFalsely : Prop := numtextIntsRow.holds Try.pinned (OpenSpec.ofChange numtextIntsWrong)

/-- 'patchbaylaw03.NumtextUints': WHATEVER THE INPUT: true; the input reads as it did. -/
def numtextUintsSpec : ChangeSpec := { name := "numtextUints", fn := fun _ => fun
  | [d] => { results := [.lit (.bool true)], args := [d] }
  | _ => none }
def numtextUintsRow : OpenClaim := { program := "ytplhhjbmegaiiaa", sum := "71e1048c7daa8148c21961ab6be8e593d5e30aeaac9346647dfdc095239da642", func := "patchbay/patchbaylaw03.NumtextUints", spec := "numtextUints", unfollowed := true, recurses := true, apart := false }
def NumtextUintsSaid : Prop := numtextUintsRow.holds Try.pinned (OpenSpec.ofChange numtextUintsSpec)

/-- ITS FALSE NEIGHBOUR: 'it returns false'. Refute it at one input. -/
def numtextUintsWrong : ChangeSpec := { name := "numtextUints", fn := fun _ => fun
  | [d] => { results := [.lit (.bool false)], args := [d] }
  | _ => none }
def NumtextUintsWrongFalsely : Prop := numtextUintsRow.holds Try.pinned (OpenSpec.ofChange numtextUintsWrong)

/-- 'patchbaylaw03.NumtextHex': WHATEVER THE INPUT: true; the input reads as it did. -/
def numtextHexSpec : ChangeSpec := { name := "numtextHex", fn := fun _ => fun
  | [d] => { results := [.lit (.bool true)], args := [d] }
  | _ => none }
def numtextHexRow : OpenClaim := { program := "ytplhhjbmegaiiaa", sum := "71e1048c7daa8148c21961ab6be8e593d5e30aeaac9346647dfdc095239da642", func := "patchbay/patchbaylaw03.NumtextHex", spec := "numtextHex", unfollowed := true, recurses := true, apart := false }
def NumtextHexSaid : Prop := numtextHexRow.holds Try.pinned (OpenSpec.ofChange numtextHexSpec)

/-- ITS FALSE NEIGHBOUR: 'it returns false'. Refute it at one input. -/
def numtextHexWrong : ChangeSpec := { name := "numtextHex", fn := fun _ => fun
  | [d] => { results := [.lit (.bool false)], args := [d] }
  | _ => none }
def NumtextHexWrongFalsely : Prop := numtextHexRow.holds Try.pinned (OpenSpec.ofChange numtextHexWrong)

/-- 'patchbaylaw03.NumtextCanonical': WHATEVER THE INPUT: true; the input reads as it did. -/
def numtextCanonicalSpec : ChangeSpec := { name := "numtextCanonical", fn := fun _ => fun
  | [d] => { results := [.lit (.bool true)], args := [d] }
  | _ => none }
def numtextCanonicalRow : OpenClaim := { program := "ytplhhjbmegaiiaa", sum := "71e1048c7daa8148c21961ab6be8e593d5e30aeaac9346647dfdc095239da642", func := "patchbay/patchbaylaw03.NumtextCanonical", spec := "numtextCanonical", unfollowed := true, recurses := true, apart := false }
def NumtextCanonicalSaid : Prop := numtextCanonicalRow.holds Try.pinned (OpenSpec.ofChange numtextCanonicalSpec)

/-- ITS FALSE NEIGHBOUR: 'it returns false'. Refute it at one input. -/
def numtextCanonicalWrong : ChangeSpec := { name := "numtextCanonical", fn := fun _ => fun
  | [d] => { results := [.lit (.bool false)], args := [d] }
  | _ => none }
def NumtextCanonicalWrongFalsely : Prop := numtextCanonicalRow.holds Try.pinned (OpenSpec.ofChange numtextCanonicalWrong)

/-- 'patchbaylaw04.ChecksumMatches': WHATEVER THE INPUT: true; the input reads as it did. -/
def checksumMatchesSpec : ChangeSpec := { name := "checksumMatches", fn := fun _ => fun
  | [d] => { results := [.lit (.bool true)], args := [d] }
  | _ => none }
def checksumMatchesRow : OpenClaim := { program := "ytplhhjbmegaiiaa", sum := "71e1048c7daa8148c21961ab6be8e593d5e30aeaac9346647dfdc095239da642", func := "patchbay/patchbaylaw04.ChecksumMatches", spec := "checksumMatches", unfollowed := true, recurses := true, apart := false }
def ChecksumMatchesSaid : Prop := checksumMatchesRow.holds Try.pinned (OpenSpec.ofChange checksumMatchesSpec)

/-- ITS FALSE NEIGHBOUR: 'it returns false'. Refute it at one input. -/
def checksumMatchesWrong : ChangeSpec := { name := "checksumMatches", fn := fun _ => fun
  | [d] => { results := [.lit (.bool false)], args := [d] }
  | _ => none }
def ChecksumMatchesWrongFalsely : Prop := checksumMatchesRow.holds Try.pinned (OpenSpec.ofChange checksumMatchesWrong)

/-- 'patchbaylaw04.ChecksumRecovers': WHATEVER THE INPUT: true; the input reads as it did. -/
def checksumRecoversSpec : ChangeSpec := { name := "checksumRecovers", fn := fun _ => fun
  | [d1, d2] => { results := [.lit (.bool true)], args := [d1, d2] }
  | _ => none }
def checksumRecoversRow : OpenClaim := { program := "ytplhhjbmegaiiaa", sum := "71e1048c7daa8148c21961ab6be8e593d5e30aeaac9346647dfdc095239da642", func := "patchbay/patchbaylaw04.ChecksumRecovers", spec := "checksumRecovers", unfollowed := true, recurses := true, apart := false }
def ChecksumRecoversSaid : Prop := checksumRecoversRow.holds Try.pinned (OpenSpec.ofChange checksumRecoversSpec)

/-- ITS FALSE NEIGHBOUR: 'it returns false'. Refute it at one input. -/
def checksumRecoversWrong : ChangeSpec := { name := "checksumRecovers", fn := fun _ => fun
  | [d1, d2] => { results := [.lit (.bool false)], args := [d1, d2] }
  | _ => none }
def ChecksumRecoversWrongFalsely : Prop := checksumRecoversRow.holds Try.pinned (OpenSpec.ofChange checksumRecoversWrong)

/-- 'patchbaylaw04.ChecksumReframes': WHATEVER THE INPUT: true; the input reads as it did. -/
def checksumReframesSpec : ChangeSpec := { name := "checksumReframes", fn := fun _ => fun
  | [d] => { results := [.lit (.bool true)], args := [d] }
  | _ => none }
def checksumReframesRow : OpenClaim := { program := "ytplhhjbmegaiiaa", sum := "71e1048c7daa8148c21961ab6be8e593d5e30aeaac9346647dfdc095239da642", func := "patchbay/patchbaylaw04.ChecksumReframes", spec := "checksumReframes", unfollowed := true, recurses := true, apart := false }
def ChecksumReframesSaid : Prop := checksumReframesRow.holds Try.pinned (OpenSpec.ofChange checksumReframesSpec)

/-- ITS FALSE NEIGHBOUR: 'it returns false'. Refute it at one input. -/
def checksumReframesWrong : ChangeSpec := { name := "checksumReframes", fn := fun _ => fun
  | [d] => { results := [.lit (.bool false)], args := [d] }
  | _ => none }
def ChecksumReframesWrongFalsely : Prop := checksumReframesRow.holds Try.pinned (OpenSpec.ofChange checksumReframesWrong)

/-- 'patchbaylaw04.ChecksumDetects': WHATEVER THE INPUT: true; the input reads as it did. -/
def checksumDetectsSpec : ChangeSpec := { name := "checksumDetects", fn := fun _ => fun
  | [d1, d2, d3] => { results := [.lit (.bool true)], args := [d1, d2, d3] }
  | _ => none }
def checksumDetectsRow : OpenClaim := { program := "ytplhhjbmegaiiaa", sum := "71e1048c7daa8148c21961ab6be8e593d5e30aeaac9346647dfdc095239da642", func := "patchbay/patchbaylaw04.ChecksumDetects", spec := "checksumDetects", unfollowed := true, recurses := true, apart := false }
def ChecksumDetectsSaid : Prop := checksumDetectsRow.holds Try.pinned (OpenSpec.ofChange checksumDetectsSpec)

/-- ITS FALSE NEIGHBOUR: 'it returns false'. Refute it at one input. -/
def checksumDetectsWrong : ChangeSpec := { name := "checksumDetects", fn := fun _ => fun
  | [d1, d2, d3] => { results := [.lit (.bool false)], args := [d1, d2, d3] }
  | _ => none }
def ChecksumDetectsWrongFalsely : Prop := checksumDetectsRow.holds Try.pinned (OpenSpec.ofChange checksumDetectsWrong)

/-- 'patchbaylaw04.ChecksumCancels': WHATEVER THE INPUT: true; the input reads as it did. -/
def checksumCancelsSpec : ChangeSpec := { name := "checksumCancels", fn := fun _ => fun
  | [d] => { results := [.lit (.bool true)], args := [d] }
  | _ => none }
def checksumCancelsRow : OpenClaim := { program := "ytplhhjbmegaiiaa", sum := "71e1048c7daa8148c21961ab6be8e593d5e30aeaac9346647dfdc095239da642", func := "patchbay/patchbaylaw04.ChecksumCancels", spec := "checksumCancels", unfollowed := true, recurses := true, apart := false }
def ChecksumCancelsSaid : Prop := checksumCancelsRow.holds Try.pinned (OpenSpec.ofChange checksumCancelsSpec)

/-- ITS FALSE NEIGHBOUR: 'it returns false'. Refute it at one input. -/
def checksumCancelsWrong : ChangeSpec := { name := "checksumCancels", fn := fun _ => fun
  | [d] => { results := [.lit (.bool false)], args := [d] }
  | _ => none }
def ChecksumCancelsWrongFalsely : Prop := checksumCancelsRow.holds Try.pinned (OpenSpec.ofChange checksumCancelsWrong)

/-- 'patchbaylaw04.ChecksumCommutes': WHATEVER THE INPUT: true; the input reads as it did. -/
def checksumCommutesSpec : ChangeSpec := { name := "checksumCommutes", fn := fun _ => fun
  | [d1, d2, d3] => { results := [.lit (.bool true)], args := [d1, d2, d3] }
  | _ => none }
def checksumCommutesRow : OpenClaim := { program := "ytplhhjbmegaiiaa", sum := "71e1048c7daa8148c21961ab6be8e593d5e30aeaac9346647dfdc095239da642", func := "patchbay/patchbaylaw04.ChecksumCommutes", spec := "checksumCommutes", unfollowed := true, recurses := true, apart := false }
def ChecksumCommutesSaid : Prop := checksumCommutesRow.holds Try.pinned (OpenSpec.ofChange checksumCommutesSpec)

/-- ITS FALSE NEIGHBOUR: 'it returns false'. Refute it at one input. -/
def checksumCommutesWrong : ChangeSpec := { name := "checksumCommutes", fn := fun _ => fun
  | [d1, d2, d3] => { results := [.lit (.bool false)], args := [d1, d2, d3] }
  | _ => none }
def ChecksumCommutesWrongFalsely : Prop := checksumCommutesRow.holds Try.pinned (OpenSpec.ofChange checksumCommutesWrong)

/- THE SECOND FORM. 'bulk': how many values and letters a reading holds, each counted each time it is reached (what is shared counts as often as it is met; a slice's spare places count too). A statement '..UptoSaid' is the law's where the arguments, and the package variables that the reading takes, are together of bulk at most 1048576: NARROWER than '..Said'. Prove '..Said' where nothing that the law and all that it calls make is longer than what came in: it says more and counts as full. Else prove '..UptoSaid'. A law counts once. -/
mutual
def uptoBulk {H : Type} : DataW H → Nat
  | .lit (.string bytes) => bytes.length + 1
  | .lit _ => 1
  | .nil => 1
  | .ptr d => uptoBulk d + 1
  | .slice elems spare => uptoBulkAll elems + uptoBulkAll spare + 1
  | .agg parts => uptoBulkAll parts + 1
  | .iface _ d => uptoBulk d + 1
  | .map entries => uptoBulkEntries entries + 1
  | .held _ => 1
def uptoBulkAll {H : Type} : List (DataW H) → Nat
  | [] => 0
  | d :: r => uptoBulk d + uptoBulkAll r
def uptoBulkEntries {H : Type} : List (Lit × DataW H) → Nat
  | [] => 0
  | x :: r => uptoBulkEntry x + uptoBulkEntries r
def uptoBulkEntry {H : Type} : Lit × DataW H → Nat
  | (.string bytes, d) => bytes.length + uptoBulk d + 1
  | (_, d) => uptoBulk d + 1
 end
def uptoSmall : (H : Type) → List (DataW H) → Bool := fun _ ds => decide (uptoBulkAll ds ≤ 1048576)
def OpenSpec.upto (s : _root_.Go.ChangeSpec) : _root_.Go.OpenSpec := { _root_.Go.OpenSpec.ofChange s with cond := some uptoSmall }

/-- 'patchbaylaw03.NumtextFormats', WHERE WHAT IT READS IS OF BULK AT MOST 1048576: true; the input reads as it did. -/
def numtextFormatsUptoRow : OpenClaim := { program := "ytplhhjbmegaiiaa", sum := "71e1048c7daa8148c21961ab6be8e593d5e30aeaac9346647dfdc095239da642", func := "patchbay/patchbaylaw03.NumtextFormats", spec := "numtextFormats", unfollowed := true, recurses := true, apart := false, narrowed := true }
def NumtextFormatsUptoSaid : Prop := numtextFormatsUptoRow.holds Try.pinned (OpenSpec.upto numtextFormatsSpec)

/-- 'patchbaylaw03.NumtextParses', WHERE WHAT IT READS IS OF BULK AT MOST 1048576: true; the input reads as it did. -/
def numtextParsesUptoRow : OpenClaim := { program := "ytplhhjbmegaiiaa", sum := "71e1048c7daa8148c21961ab6be8e593d5e30aeaac9346647dfdc095239da642", func := "patchbay/patchbaylaw03.NumtextParses", spec := "numtextParses", unfollowed := true, recurses := true, apart := false, narrowed := true }
def NumtextParsesUptoSaid : Prop := numtextParsesUptoRow.holds Try.pinned (OpenSpec.upto numtextParsesSpec)

/-- 'patchbaylaw03.NumtextInts', WHERE WHAT IT READS IS OF BULK AT MOST 1048576: true; the input reads as it did. -/
def numtextIntsUptoRow : OpenClaim := { program := "ytplhhjbmegaiiaa", sum := "71e1048c7daa8148c21961ab6be8e593d5e30aeaac9346647dfdc095239da642", func := "patchbay/patchbaylaw03.NumtextInts", spec := "numtextInts", unfollowed := true, recurses := true, apart := false, narrowed := true }
def NumtextIntsUptoSaid : Prop := numtextIntsUptoRow.holds Try.pinned (OpenSpec.upto numtextIntsSpec)

/-- 'patchbaylaw03.NumtextUints', WHERE WHAT IT READS IS OF BULK AT MOST 1048576: true; the input reads as it did. -/
def numtextUintsUptoRow : OpenClaim := { program := "ytplhhjbmegaiiaa", sum := "71e1048c7daa8148c21961ab6be8e593d5e30aeaac9346647dfdc095239da642", func := "patchbay/patchbaylaw03.NumtextUints", spec := "numtextUints", unfollowed := true, recurses := true, apart := false, narrowed := true }
def NumtextUintsUptoSaid : Prop := numtextUintsUptoRow.holds Try.pinned (OpenSpec.upto numtextUintsSpec)

/-- 'patchbaylaw03.NumtextHex', WHERE WHAT IT READS IS OF BULK AT MOST 1048576: true; the input reads as it did. -/
def numtextHexUptoRow : OpenClaim := { program := "ytplhhjbmegaiiaa", sum := "71e1048c7daa8148c21961ab6be8e593d5e30aeaac9346647dfdc095239da642", func := "patchbay/patchbaylaw03.NumtextHex", spec := "numtextHex", unfollowed := true, recurses := true, apart := false, narrowed := true }
def NumtextHexUptoSaid : Prop := numtextHexUptoRow.holds Try.pinned (OpenSpec.upto numtextHexSpec)

/-- 'patchbaylaw03.NumtextCanonical', WHERE WHAT IT READS IS OF BULK AT MOST 1048576: true; the input reads as it did. -/
def numtextCanonicalUptoRow : OpenClaim := { program := "ytplhhjbmegaiiaa", sum := "71e1048c7daa8148c21961ab6be8e593d5e30aeaac9346647dfdc095239da642", func := "patchbay/patchbaylaw03.NumtextCanonical", spec := "numtextCanonical", unfollowed := true, recurses := true, apart := false, narrowed := true }
def NumtextCanonicalUptoSaid : Prop := numtextCanonicalUptoRow.holds Try.pinned (OpenSpec.upto numtextCanonicalSpec)

/-- 'patchbaylaw04.ChecksumMatches', WHERE WHAT IT READS IS OF BULK AT MOST 1048576: true; the input reads as it did. -/
def checksumMatchesUptoRow : OpenClaim := { program := "ytplhhjbmegaiiaa", sum := "71e1048c7daa8148c21961ab6be8e593d5e30aeaac9346647dfdc095239da642", func := "patchbay/patchbaylaw04.ChecksumMatches", spec := "checksumMatches", unfollowed := true, recurses := true, apart := false, narrowed := true }
def ChecksumMatchesUptoSaid : Prop := checksumMatchesUptoRow.holds Try.pinned (OpenSpec.upto checksumMatchesSpec)

/-- 'patchbaylaw04.ChecksumRecovers', WHERE WHAT IT READS IS OF BULK AT MOST 1048576: true; the input reads as it did. -/
def checksumRecoversUptoRow : OpenClaim := { program := "ytplhhjbmegaiiaa", sum := "71e1048c7daa8148c21961ab6be8e593d5e30aeaac9346647dfdc095239da642", func := "patchbay/patchbaylaw04.ChecksumRecovers", spec := "checksumRecovers", unfollowed := true, recurses := true, apart := false, narrowed := true }
def ChecksumRecoversUptoSaid : Prop := checksumRecoversUptoRow.holds Try.pinned (OpenSpec.upto checksumRecoversSpec)

/-- 'patchbaylaw04.ChecksumReframes', WHERE WHAT IT READS IS OF BULK AT MOST 1048576: true; the input reads as it did. -/
def checksumReframesUptoRow : OpenClaim := { program := "ytplhhjbmegaiiaa", sum := "71e1048c7daa8148c21961ab6be8e593d5e30aeaac9346647dfdc095239da642", func := "patchbay/patchbaylaw04.ChecksumReframes", spec := "checksumReframes", unfollowed := true, recurses := true, apart := false, narrowed := true }
def ChecksumReframesUptoSaid : Prop := checksumReframesUptoRow.holds Try.pinned (OpenSpec.upto checksumReframesSpec)

/-- 'patchbaylaw04.ChecksumDetects', WHERE WHAT IT READS IS OF BULK AT MOST 1048576: true; the input reads as it did. -/
def checksumDetectsUptoRow : OpenClaim := { program := "ytplhhjbmegaiiaa", sum := "71e1048c7daa8148c21961ab6be8e593d5e30aeaac9346647dfdc095239da642", func := "patchbay/patchbaylaw04.ChecksumDetects", spec := "checksumDetects", unfollowed := true, recurses := true, apart := false, narrowed := true }
def ChecksumDetectsUptoSaid : Prop := checksumDetectsUptoRow.holds Try.pinned (OpenSpec.upto checksumDetectsSpec)

/-- 'patchbaylaw04.ChecksumCancels', WHERE WHAT IT READS IS OF BULK AT MOST 1048576: true; the input reads as it did. -/
def checksumCancelsUptoRow : OpenClaim := { program := "ytplhhjbmegaiiaa", sum := "71e1048c7daa8148c21961ab6be8e593d5e30aeaac9346647dfdc095239da642", func := "patchbay/patchbaylaw04.ChecksumCancels", spec := "checksumCancels", unfollowed := true, recurses := true, apart := false, narrowed := true }
def ChecksumCancelsUptoSaid : Prop := checksumCancelsUptoRow.holds Try.pinned (OpenSpec.upto checksumCancelsSpec)

/-- 'patchbaylaw04.ChecksumCommutes', WHERE WHAT IT READS IS OF BULK AT MOST 1048576: true; the input reads as it did. -/
def checksumCommutesUptoRow : OpenClaim := { program := "ytplhhjbmegaiiaa", sum := "71e1048c7daa8148c21961ab6be8e593d5e30aeaac9346647dfdc095239da642", func := "patchbay/patchbaylaw04.ChecksumCommutes", spec := "checksumCommutes", unfollowed := true, recurses := true, apart := false, narrowed := true }
def ChecksumCommutesUptoSaid : Prop := checksumCommutesUptoRow.holds Try.pinned (OpenSpec.upto checksumCommutesSpec)

end Rows
end Go.Proofs.Ytplhhjbmegaiiaa
