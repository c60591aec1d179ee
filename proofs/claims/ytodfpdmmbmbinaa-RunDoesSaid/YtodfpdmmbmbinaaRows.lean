/-
  No cell of these rows narrows 'for every input' (looked for: loops, veiled, ifaces, maps, wideKeys, modest, calm, conditions, laid).
  DERIVED. THE GIVEN ROWS OF THIS SEAT. 8 by the template 'for every input the law returns true; each argument reads behind the call as it read before'; 0 by the template 'total and deterministic' (their statements: YtodfpdmmbmbinaaTotals.lean).
  GIVEN WITH THE SEED: the statements are not yours to turn. If you find one false, say at which input.
  Laid BY PROGRAM, IN A SANDBOX (cutbox-rows.mjs): the forced cells as the released guide's own fill.sh prints them over the translation 1adac7a7d191abc5… (all of the seat's roots in one cut). By AI agents, Wed Nov 11 2026. No macro, syntax, notation, axiom, sorry.
-/
import Derived.Test.YtodfpdmmbmbinaaChecked
import GoSem.Claim
import GoSem.ClaimJoined
import GoSem.ClaimMapViews
import Derived.JoinedTies
import Derived.KernelRfl
namespace Go.Proofs.Ytodfpdmmbmbinaa
/- THE CELL 'sum', in the pinned program and in every row, IS THE sha256 OF THE DUMP (.gsa) THAT YtodfpdmmbmbinaaProg.lean LOADS. Nothing in Lean hashes anything: it is a label: what it is worth is what the hold of that sum in a sandbox is worth. -/
noncomputable def Try.pinned : Pinned := { name := "ytodfpdmmbmbinaa", sum := "1adac7a7d191abc534595b8046a2b21f5bc018d26b609c717820dfc9ff61af62", checked := Try.checked }
namespace Rows
def none {H : Type} : Left H := { results := [], args := [] }

/-- 'oxbowlaw05.FilesStops': WHATEVER THE INPUT: true; the input reads as it did. -/
def filesStopsSpec : ChangeSpec := { name := "filesStops", fn := fun _ => fun
  | [d1, d2] => { results := [.lit (.bool true)], args := [d1, d2] }
  | _ => none }
def filesStopsRow : OpenClaim := { program := "ytodfpdmmbmbinaa", sum := "1adac7a7d191abc534595b8046a2b21f5bc018d26b609c717820dfc9ff61af62", func := "oxbow/oxbowlaw05.FilesStops", spec := "filesStops", unfollowed := true, recurses := true, apart := false }
def FilesStopsSaid : Prop := filesStopsRow.holds Try.pinned (OpenSpec.ofChange filesStopsSpec)

/-- ITS FALSE NEIGHBOUR: 'it returns false'. Refute it at one input. -/
def filesStopsWrong : ChangeSpec := { name := "filesStops", fn := fun _ => fun
  | [d1, d2] => { results := [.lit (.bool false)], args := [d1, d2] }
  | _ => none }
def FilesStopsWrongFalsely : Prop := filesStopsRow.holds Try.pinned (OpenSpec.ofChange filesStopsWrong)

/-- 'oxbowlaw05.FilesNobody': WHATEVER THE INPUT: true; the input reads as it did. -/
def filesNobodySpec : ChangeSpec := { name := "filesNobody", fn := fun _ => fun
  | [d] => { results := [.lit (.bool true)], args := [d] }
  | _ => none }
def filesNobodyRow : OpenClaim := { program := "ytodfpdmmbmbinaa", sum := "1adac7a7d191abc534595b8046a2b21f5bc018d26b609c717820dfc9ff61af62", func := "oxbow/oxbowlaw05.FilesNobody", spec := "filesNobody", unfollowed := true, recurses := true, apart := false }
def FilesNobodySaid : Prop := filesNobodyRow.holds Try.pinned (OpenSpec.ofChange filesNobodySpec)

/-- ITS FALSE NEIGHBOUR: 'it returns false'. Refute it at one input. -/
def filesNobodyWrong : ChangeSpec := { name := "filesNobody", fn := fun _ => fun
  | [d] => { results := [.lit (.bool false)], args := [d] }
  | _ => none }
def FilesNobodyWrongFalsely : Prop := filesNobodyRow.holds Try.pinned (OpenSpec.ofChange filesNobodyWrong)

/-- 'oxbowlaw05.FilesRenames': WHATEVER THE INPUT: true; the input reads as it did. -/
def filesRenamesSpec : ChangeSpec := { name := "filesRenames", fn := fun _ => fun
  | [d1, d2, d3, d4] => { results := [.lit (.bool true)], args := [d1, d2, d3, d4] }
  | _ => none }
def filesRenamesRow : OpenClaim := { program := "ytodfpdmmbmbinaa", sum := "1adac7a7d191abc534595b8046a2b21f5bc018d26b609c717820dfc9ff61af62", func := "oxbow/oxbowlaw05.FilesRenames", spec := "filesRenames", unfollowed := true, recurses := true, apart := false }
def FilesRenamesSaid : Prop := filesRenamesRow.holds Try.pinned (OpenSpec.ofChange filesRenamesSpec)

/-- ITS FALSE NEIGHBOUR: 'it returns false'. Refute it at one input. -/
def filesRenamesWrong : ChangeSpec := { name := "filesRenames", fn := fun _ => fun
  | [d1, d2, d3, d4] => { results := [.lit (.bool false)], args := [d1, d2, d3, d4] }
  | _ => none }
def FilesRenamesWrongFalsely : Prop := filesRenamesRow.holds Try.pinned (OpenSpec.ofChange filesRenamesWrong)

/-- 'oxbowlaw12.RunDoes': WHATEVER THE INPUT: true; the input reads as it did. -/
def runDoesSpec : ChangeSpec := { name := "runDoes", fn := fun _ => fun
  | [d1, d2] => { results := [.lit (.bool true)], args := [d1, d2] }
  | _ => none }
def runDoesRow : OpenClaim := { program := "ytodfpdmmbmbinaa", sum := "1adac7a7d191abc534595b8046a2b21f5bc018d26b609c717820dfc9ff61af62", func := "oxbow/oxbowlaw12.RunDoes", spec := "runDoes", unfollowed := true, recurses := true, apart := false }
def RunDoesSaid : Prop := runDoesRow.holds Try.pinned (OpenSpec.ofChange runDoesSpec)

/-- ITS FALSE NEIGHBOUR: 'it returns false'. Refute it at one input. -/
def runDoesWrong : ChangeSpec := { name := "runDoes", fn := fun _ => fun
  | [d1, d2] => { results := [.lit (.bool false)], args := [d1, d2] }
  | _ => none }
def RunDoesWrongFalsely : Prop := runDoesRow.holds Try.pinned (OpenSpec.ofChange runDoesWrong)

/-- 'oxbowlaw12.RunFills': WHATEVER THE INPUT: true; the input reads as it did. -/
def runFillsSpec : ChangeSpec := { name := "runFills", fn := fun _ => fun
  | [d1, d2] => { results := [.lit (.bool true)], args := [d1, d2] }
  | _ => none }
def runFillsRow : OpenClaim := { program := "ytodfpdmmbmbinaa", sum := "1adac7a7d191abc534595b8046a2b21f5bc018d26b609c717820dfc9ff61af62", func := "oxbow/oxbowlaw12.RunFills", spec := "runFills", unfollowed := true, recurses := true, apart := false }
def RunFillsSaid : Prop := runFillsRow.holds Try.pinned (OpenSpec.ofChange runFillsSpec)

/-- ITS FALSE NEIGHBOUR: 'it returns false'. Refute it at one input. -/
def runFillsWrong : ChangeSpec := { name := "runFills", fn := fun _ => fun
  | [d1, d2] => { results := [.lit (.bool false)], args := [d1, d2] }
  | _ => none }
def RunFillsWrongFalsely : Prop := runFillsRow.holds Try.pinned (OpenSpec.ofChange runFillsWrong)

/-- 'oxbowlaw12.RunWide': WHATEVER THE INPUT: true; the input reads as it did. -/
def runWideSpec : ChangeSpec := { name := "runWide", fn := fun _ => fun
  | [d] => { results := [.lit (.bool true)], args := [d] }
  | _ => none }
def runWideRow : OpenClaim := { program := "ytodfpdmmbmbinaa", sum := "1adac7a7d191abc534595b8046a2b21f5bc018d26b609c717820dfc9ff61af62", func := "oxbow/oxbowlaw12.RunWide", spec := "runWide", unfollowed := true, recurses := true, apart := false }
def RunWideSaid : Prop := runWideRow.holds Try.pinned (OpenSpec.ofChange runWideSpec)

/-- ITS FALSE NEIGHBOUR: 'it returns false'. Refute it at one input. -/
def runWideWrong : ChangeSpec := { name := "runWide", fn := fun _ => fun
  | [d] => { results := [.lit (.bool false)], args := [d] }
  | _ => none }
def RunWideWrongFalsely : Prop := runWideRow.holds Try.pinned (OpenSpec.ofChange runWideWrong)

/-- 'oxbowlaw12.RunNobody': WHATEVER THE INPUT: true; the input reads as it did. -/
def runNobodySpec : ChangeSpec := { name := "runNobody", fn := fun _ => fun
  | [d] => { results := [.lit (.bool true)], args := [d] }
  | _ => none }
def runNobodyRow : OpenClaim := { program := "ytodfpdmmbmbinaa", sum := "1adac7a7d191abc534595b8046a2b21f5bc018d26b609c717820dfc9ff61af62", func := "oxbow/oxbowlaw12.RunNobody", spec := "runNobody", unfollowed := true, recurses := true, apart := false }
def RunNobodySaid : Prop := runNobodyRow.holds Try.pinned (OpenSpec.ofChange runNobodySpec)

/-- ITS FALSE NEIGHBOUR: 'it returns false'. Refute it at one input. -/
def runNobodyWrong : ChangeSpec := { name := "runNobody", fn := fun _ => fun
  | [d] => { results := [.lit (.bool false)], args := [d] }
  | _ => none }
def RunNobodyWrongFalsely : Prop := runNobodyRow.holds Try.pinned (OpenSpec.ofChange runNobodyWrong)

/-- 'oxbowlaw12.RunParts': WHATEVER THE INPUT: true; the input reads as it did. -/
def runPartsSpec : ChangeSpec := { name := "runParts", fn := fun _ => fun
  | [d] => { results := [.lit (.bool true)], args := [d] }
  | _ => none }
def runPartsRow : OpenClaim := { program := "ytodfpdmmbmbinaa", sum := "1adac7a7d191abc534595b8046a2b21f5bc018d26b609c717820dfc9ff61af62", func := "oxbow/oxbowlaw12.RunParts", spec := "runParts", unfollowed := true, recurses := true, apart := false }
def RunPartsSaid : Prop := runPartsRow.holds Try.pinned (OpenSpec.ofChange runPartsSpec)

/-- ITS FALSE NEIGHBOUR: 'it returns false'. Refute it at one input. -/
def runPartsWrong : ChangeSpec := { name := "runParts", fn := fun _ => fun
  | [d] => { results := [.lit (.bool false)], args := [d] }
  | _ => none }
def RunPartsWrongFalsely : Prop := runPartsRow.holds Try.pinned (OpenSpec.ofChange runPartsWrong)

/- THE SECOND FORM. 'bulk': how many values and letters a reading holds, each counted each time it is reached (what is shared counts as often as it is met; a slice's spare places count too). A statement '..UptoSaid' is the law's where the arguments, and the package variables that the reading takes, are together of bulk at most 1048576: NARROWER than '..Said'. Prove '..Said' where nothing that the law and all that it calls make is longer than what came in: it says more and counts as full. Else prove '..UptoSaid'. A law counts once. -/
mutual
def uptoBulk {H : Type} : DataW H → Nat
  | .lit (.string bytes) => bytes.length + 1
  | .lit _ => 1
  | .nil => 1
  | .ptr d => uptoBulk d + 1
  | .slice elems spare => uptoBulkAll elems + uptoBulkAll spare + 1
  | .agg parts => uptoBulkAll parts + 1
  | .iface _ d => uptoBulk d + 1
  | .map entries => uptoBulkEntries entries + 1
  | .held _ => 1
def uptoBulkAll {H : Type} : List (DataW H) → Nat
  | [] => 0
  | d :: r => uptoBulk d + uptoBulkAll r
def uptoBulkEntries {H : Type} : List (Lit × DataW H) → Nat
  | [] => 0
  | x :: r => uptoBulkEntry x + uptoBulkEntries r
def uptoBulkEntry {H : Type} : Lit × DataW H → Nat
  | (.string bytes, d) => bytes.length + uptoBulk d + 1
  | (_, d) => uptoBulk d + 1
 end
def uptoSmall : (H : Type) → List (DataW H) → Bool := fun _ ds => decide (uptoBulkAll ds ≤ 1048576)
def OpenSpec.upto (s : _root_.Go.ChangeSpec) : _root_.Go.OpenSpec := { _root_.Go.OpenSpec.ofChange s with cond := some uptoSmall }

/-- 'oxbowlaw05.FilesStops', WHERE WHAT IT READS IS OF BULK AT MOST 1048576: true; the input reads as it did. -/
def filesStopsUptoRow : OpenClaim := { program := "ytodfpdmmbmbinaa", sum := "1adac7a7d191abc534595b8046a2b21f5bc018d26b609c717820dfc9ff61af62", func := "oxbow/oxbowlaw05.FilesStops", spec := "filesStops", unfollowed := true, recurses := true, apart := false, narrowed := true }
def FilesStopsUptoSaid : Prop := filesStopsUptoRow.holds Try.pinned (OpenSpec.upto filesStopsSpec)

/-- 'oxbowlaw05.FilesNobody', WHERE WHAT IT READS IS OF BULK AT MOST 1048576: true; the input reads as it did. -/
def filesNobodyUptoRow : OpenClaim := { program := "ytodfpdmmbmbinaa", sum := "1adac7a7d191abc534595b8046a2b21f5bc018d26b609c717820dfc9ff61af62", func := "oxbow/oxbowlaw05.FilesNobody", spec := "filesNobody", unfollowed := true, recurses := true, apart := false, narrowed := true }
def FilesNobodyUptoSaid : Prop := filesNobodyUptoRow.holds Try.pinned (OpenSpec.upto filesNobodySpec)

/-- 'oxbowlaw05.FilesRenames', WHERE WHAT IT READS IS OF BULK AT MOST 1048576: true; the input reads as it did. -/
def filesRenamesUptoRow : OpenClaim := { program := "ytodfpdmmbmbinaa", sum := "1adac7a7d191abc534595b8046a2b21f5bc018d26b609c717820dfc9ff61af62", func := "oxbow/oxbowlaw05.FilesRenames", spec := "filesRenames", unfollowed := true, recurses := true, apart := false, narrowed := true }
def FilesRenamesUptoSaid : Prop := filesRenamesUptoRow.holds Try.pinned (OpenSpec.upto filesRenamesSpec)

/-- 'oxbowlaw12.RunDoes', WHERE WHAT IT READS IS OF BULK AT MOST 1048576: true; the input reads as it did. -/
def runDoesUptoRow : OpenClaim := { program := "ytodfpdmmbmbinaa", sum := "1adac7a7d191abc534595b8046a2b21f5bc018d26b609c717820dfc9ff61af62", func := "oxbow/oxbowlaw12.RunDoes", spec := "runDoes", unfollowed := true, recurses := true, apart := false, narrowed := true }
def RunDoesUptoSaid : Prop := runDoesUptoRow.holds Try.pinned (OpenSpec.upto runDoesSpec)

/-- 'oxbowlaw12.RunFills', WHERE WHAT IT READS IS OF BULK AT MOST 1048576: true; the input reads as it did. -/
def runFillsUptoRow : OpenClaim := { program := "ytodfpdmmbmbinaa", sum := "1adac7a7d191abc534595b8046a2b21f5bc018d26b609c717820dfc9ff61af62", func := "oxbow/oxbowlaw12.RunFills", spec := "runFills", unfollowed := true, recurses := true, apart := false, narrowed := true }
def RunFillsUptoSaid : Prop := runFillsUptoRow.holds Try.pinned (OpenSpec.upto runFillsSpec)

/-- 'oxbowlaw12.RunWide', WHERE WHAT IT READS IS OF BULK AT MOST 1048576: true; the input reads as it did. -/
def runWideUptoRow : OpenClaim := { program := "ytodfpdmmbmbinaa", sum := "1adac7a7d191abc534595b8046a2b21f5bc018d26b609c717820dfc9ff61af62", func := "oxbow/oxbowlaw12.RunWide", spec := "runWide", unfollowed := true, recurses := true, apart := false, narrowed := true }
def RunWideUptoSaid : Prop := runWideUptoRow.holds Try.pinned (OpenSpec.upto runWideSpec)

/-- 'oxbowlaw12.RunNobody', WHERE WHAT IT READS IS OF BULK AT MOST 1048576: true; the input reads as it did. -/
def runNobodyUptoRow : OpenClaim := { program := "ytodfpdmmbmbinaa", sum := "1adac7a7d191abc534595b8046a2b21f5bc018d26b609c717820dfc9ff61af62", func := "oxbow/oxbowlaw12.RunNobody", spec := "runNobody", unfollowed := true, recurses := true, apart := false, narrowed := true }
def RunNobodyUptoSaid : Prop := runNobodyUptoRow.holds Try.pinned (OpenSpec.upto runNobodySpec)

/-- 'oxbowlaw12.RunParts', WHERE WHAT IT READS IS OF BULK AT MOST 1048576: true; the input reads as it did. -/
def runPartsUptoRow : OpenClaim := { program := "ytodfpdmmbmbinaa", sum := "1adac7a7d191abc534595b8046a2b21f5bc018d26b609c717820dfc9ff61af62", func := "oxbow/oxbowlaw12.RunParts", spec := "runParts", unfollowed := true, recurses := true, apart := false, narrowed := true }
def RunPartsUptoSaid : Prop := runPartsUptoRow.holds Try.pinned (OpenSpec.upto runPartsSpec)

end Rows
end Go.Proofs.Ytodfpdmmbmbinaa
