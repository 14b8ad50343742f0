/-
  No cell of these rows narrows 'for every input' (looked for: loops, veiled, ifaces, maps, wideKeys, modest, calm, conditions, laid).
  DERIVED. THE GIVEN ROWS OF THIS SEAT. 5 by the template 'for every input the law returns true; each argument reads behind the call as it read before'; 0 by the template 'total and deterministic' (their statements: YtgoilmiiegpnoaaTotals.lean).
  GIVEN WITH THE SEED: the statements are not yours to turn. If you find one false, say at which input.
  Laid BY PROGRAM, IN A SANDBOX (cutbox-rows.mjs): the forced cells as the released guide's own fill.sh prints them over the translation 669b6c298ac3c68a… (all of the seat's roots in one cut). By AI agents, Wed Nov 11 2026. No macro, syntax, notation, axiom, sorry.
-/
import Derived.Test.YtgoilmiiegpnoaaChecked
import GoSem.Claim
import GoSem.ClaimJoined
import GoSem.ClaimMapViews
import Derived.JoinedTies
import Derived.KernelRfl
namespace Go.Proofs.Ytgoilmiiegpnoaa
/- THE CELL 'sum', in the pinned program and in every row, IS THE sha256 OF THE DUMP (.gsa) THAT YtgoilmiiegpnoaaProg.lean LOADS. Nothing in Lean hashes anything: it is a label: what it is worth is what the hold of that sum in a sandbox is worth. -/
noncomputable def Try.pinned : Pinned := { name := "ytgoilmiiegpnoaa", sum := "669b6c298ac3c68a98d5bb02806a217fbea7119bc4ecbe23cc5adfd55dc717fc", checked := Try.checked }
namespace Rows
def none {H : Type} : Left H := { results := [], args := [] }

/-- 'bolidelaw02.SkyJoins': WHATEVER THE INPUT: true; the input reads as it did. -/
def skyJoinsSpec : ChangeSpec := { name := "skyJoins", fn := fun _ => fun
  | [d1, d2, d3] => { results := [.lit (.bool true)], args := [d1, d2, d3] }
  | _ => none }
def skyJoinsRow : OpenClaim := { program := "ytgoilmiiegpnoaa", sum := "669b6c298ac3c68a98d5bb02806a217fbea7119bc4ecbe23cc5adfd55dc717fc", func := "bolide/bolidelaw02.SkyJoins", spec := "skyJoins", unfollowed := true, recurses := true, apart := false }
def SkyJoinsSaid : Prop := skyJoinsRow.holds Try.pinned (OpenSpec.ofChange skyJoinsSpec)

/-- ITS FALSE NEIGHBOUR: 'it returns false'. Refute it at one input. -/
def skyJoinsWrong : ChangeSpec := { name := "skyJoins", fn := fun _ => fun
  | [d1, d2, d3] => { results := [.lit (.bool false)], args := [d1, d2, d3] }
  | _ => none }
def SkyJoinsWrongFalsely : Prop := skyJoinsRow.holds Try.pinned (OpenSpec.ofChange skyJoinsWrong)

/-- 'bolidelaw02.SkyRight': WHATEVER THE INPUT: true; the input reads as it did. -/
def skyRightSpec : ChangeSpec := { name := "skyRight", fn := fun _ => fun
  | [d1, d2, d3] => { results := [.lit (.bool true)], args := [d1, d2, d3] }
  | _ => none }
def skyRightRow : OpenClaim := { program := "ytgoilmiiegpnoaa", sum := "669b6c298ac3c68a98d5bb02806a217fbea7119bc4ecbe23cc5adfd55dc717fc", func := "bolide/bolidelaw02.SkyRight", spec := "skyRight", unfollowed := true, recurses := true, apart := false }
def SkyRightSaid : Prop := skyRightRow.holds Try.pinned (OpenSpec.ofChange skyRightSpec)

/-- ITS FALSE NEIGHBOUR: 'it returns false'. Refute it at one input. -/
def skyRightWrong : ChangeSpec := { name := "skyRight", fn := fun _ => fun
  | [d1, d2, d3] => { results := [.lit (.bool false)], args := [d1, d2, d3] }
  | _ => none }
def SkyRightWrongFalsely : Prop := skyRightRow.holds Try.pinned (OpenSpec.ofChange skyRightWrong)

/-- 'bolidelaw02.SkyParts': WHATEVER THE INPUT: true; the input reads as it did. -/
def skyPartsSpec : ChangeSpec := { name := "skyParts", fn := fun _ => fun
  | [d] => { results := [.lit (.bool true)], args := [d] }
  | _ => none }
def skyPartsRow : OpenClaim := { program := "ytgoilmiiegpnoaa", sum := "669b6c298ac3c68a98d5bb02806a217fbea7119bc4ecbe23cc5adfd55dc717fc", func := "bolide/bolidelaw02.SkyParts", spec := "skyParts", unfollowed := true, recurses := true, apart := false }
def SkyPartsSaid : Prop := skyPartsRow.holds Try.pinned (OpenSpec.ofChange skyPartsSpec)

/-- ITS FALSE NEIGHBOUR: 'it returns false'. Refute it at one input. -/
def skyPartsWrong : ChangeSpec := { name := "skyParts", fn := fun _ => fun
  | [d] => { results := [.lit (.bool false)], args := [d] }
  | _ => none }
def SkyPartsWrongFalsely : Prop := skyPartsRow.holds Try.pinned (OpenSpec.ofChange skyPartsWrong)

/-- 'bolidelaw02.SkyBelieves': WHATEVER THE INPUT: true; the input reads as it did. -/
def skyBelievesSpec : ChangeSpec := { name := "skyBelieves", fn := fun _ => fun
  | [d1, d2, d3, d4] => { results := [.lit (.bool true)], args := [d1, d2, d3, d4] }
  | _ => none }
def skyBelievesRow : OpenClaim := { program := "ytgoilmiiegpnoaa", sum := "669b6c298ac3c68a98d5bb02806a217fbea7119bc4ecbe23cc5adfd55dc717fc", func := "bolide/bolidelaw02.SkyBelieves", spec := "skyBelieves", unfollowed := true, recurses := true, apart := false }
def SkyBelievesSaid : Prop := skyBelievesRow.holds Try.pinned (OpenSpec.ofChange skyBelievesSpec)

/-- ITS FALSE NEIGHBOUR: 'it returns false'. Refute it at one input. -/
def skyBelievesWrong : ChangeSpec := { name := "skyBelieves", fn := fun _ => fun
  | [d1, d2, d3, d4] => { results := [.lit (.bool false)], args := [d1, d2, d3, d4] }
  | _ => none }
def SkyBelievesWrongFalsely : Prop := skyBelievesRow.holds Try.pinned (OpenSpec.ofChange skyBelievesWrong)

/-- 'bolidelaw02.SkyGroups': WHATEVER THE INPUT: true; the input reads as it did. -/
def skyGroupsSpec : ChangeSpec := { name := "skyGroups", fn := fun _ => fun
  | [d1, d2, d3, d4] => { results := [.lit (.bool true)], args := [d1, d2, d3, d4] }
  | _ => none }
def skyGroupsRow : OpenClaim := { program := "ytgoilmiiegpnoaa", sum := "669b6c298ac3c68a98d5bb02806a217fbea7119bc4ecbe23cc5adfd55dc717fc", func := "bolide/bolidelaw02.SkyGroups", spec := "skyGroups", unfollowed := true, recurses := true, apart := false }
def SkyGroupsSaid : Prop := skyGroupsRow.holds Try.pinned (OpenSpec.ofChange skyGroupsSpec)

/-- ITS FALSE NEIGHBOUR: 'it returns false'. Refute it at one input. -/
def skyGroupsWrong : ChangeSpec := { name := "skyGroups", fn := fun _ => fun
  | [d1, d2, d3, d4] => { results := [.lit (.bool false)], args := [d1, d2, d3, d4] }
  | _ => none }
def SkyGroupsWrongFalsely : Prop := skyGroupsRow.holds Try.pinned (OpenSpec.ofChange skyGroupsWrong)

/- THE SECOND FORM. 'bulk': how many values and letters a reading holds, each counted each time it is reached (what is shared counts as often as it is met; a slice's spare places count too). A statement '..UptoSaid' is the law's where the arguments, and the package variables that the reading takes, are together of bulk at most 1048576: NARROWER than '..Said'. Prove '..Said' where nothing that the law and all that it calls make is longer than what came in: it says more and counts as full. Else prove '..UptoSaid'. A law counts once. -/
mutual
def uptoBulk {H : Type} : DataW H → Nat
  | .lit (.string bytes) => bytes.length + 1
  | .lit _ => 1
  | .nil => 1
  | .ptr d => uptoBulk d + 1
  | .slice elems spare => uptoBulkAll elems + uptoBulkAll spare + 1
  | .agg parts => uptoBulkAll parts + 1
  | .iface _ d => uptoBulk d + 1
  | .map entries => uptoBulkEntries entries + 1
  | .held _ => 1
def uptoBulkAll {H : Type} : List (DataW H) → Nat
  | [] => 0
  | d :: r => uptoBulk d + uptoBulkAll r
def uptoBulkEntries {H : Type} : List (Lit × DataW H) → Nat
  | [] => 0
  | x :: r => uptoBulkEntry x + uptoBulkEntries r
def uptoBulkEntry {H : Type} : Lit × DataW H → Nat
  | (.string bytes, d) => bytes.length + uptoBulk d + 1
  | (_, d) => uptoBulk d + 1
 end
def uptoSmall : (H : Type) → List (DataW H) → Bool := fun _ ds => decide (uptoBulkAll ds ≤ 1048576)
def OpenSpec.upto (s : _root_.Go.ChangeSpec) : _root_.Go.OpenSpec := { _root_.Go.OpenSpec.ofChange s with cond := some uptoSmall }

/-- 'bolidelaw02.SkyJoins', WHERE WHAT IT READS IS OF BULK AT MOST 1048576: true; the input reads as it did. -/
def skyJoinsUptoRow : OpenClaim := { program := "ytgoilmiiegpnoaa", sum := "669b6c298ac3c68a98d5bb02806a217fbea7119bc4ecbe23cc5adfd55dc717fc", func := "bolide/bolidelaw02.SkyJoins", spec := "skyJoins", unfollowed := true, recurses := true, apart := false, narrowed := true }
def SkyJoinsUptoSaid : Prop := skyJoinsUptoRow.holds Try.pinned (OpenSpec.upto skyJoinsSpec)

/-- 'bolidelaw02.SkyRight', WHERE WHAT IT READS IS OF BULK AT MOST 1048576: true; the input reads as it did. -/
def skyRightUptoRow : OpenClaim := { program := "ytgoilmiiegpnoaa", sum := "669b6c298ac3c68a98d5bb02806a217fbea7119bc4ecbe23cc5adfd55dc717fc", func := "bolide/bolidelaw02.SkyRight", spec := "skyRight", unfollowed := true, recurses := true, apart := false, narrowed := true }
def SkyRightUptoSaid : Prop := skyRightUptoRow.holds Try.pinned (OpenSpec.upto skyRightSpec)

/-- 'bolidelaw02.SkyParts', WHERE WHAT IT READS IS OF BULK AT MOST 1048576: true; the input reads as it did. -/
def skyPartsUptoRow : OpenClaim := { program := "ytgoilmiiegpnoaa", sum := "669b6c298ac3c68a98d5bb02806a217fbea7119bc4ecbe23cc5adfd55dc717fc", func := "bolide/bolidelaw02.SkyParts", spec := "skyParts", unfollowed := true, recurses := true, apart := false, narrowed := true }
def SkyPartsUptoSaid : Prop := skyPartsUptoRow.holds Try.pinned (OpenSpec.upto skyPartsSpec)

/-- 'bolidelaw02.SkyBelieves', WHERE WHAT IT READS IS OF BULK AT MOST 1048576: true; the input reads as it did. -/
def skyBelievesUptoRow : OpenClaim := { program := "ytgoilmiiegpnoaa", sum := "669b6c298ac3c68a98d5bb02806a217fbea7119bc4ecbe23cc5adfd55dc717fc", func := "bolide/bolidelaw02.SkyBelieves", spec := "skyBelieves", unfollowed := true, recurses := true, apart := false, narrowed := true }
def SkyBelievesUptoSaid : Prop := skyBelievesUptoRow.holds Try.pinned (OpenSpec.upto skyBelievesSpec)

/-- 'bolidelaw02.SkyGroups', WHERE WHAT IT READS IS OF BULK AT MOST 1048576: true; the input reads as it did. -/
def skyGroupsUptoRow : OpenClaim := { program := "ytgoilmiiegpnoaa", sum := "669b6c298ac3c68a98d5bb02806a217fbea7119bc4ecbe23cc5adfd55dc717fc", func := "bolide/bolidelaw02.SkyGroups", spec := "skyGroups", unfollowed := true, recurses := true, apart := false, narrowed := true }
def SkyGroupsUptoSaid : Prop := skyGroupsUptoRow.holds Try.pinned (OpenSpec.upto skyGroupsSpec)

end Rows
end Go.Proofs.Ytgoilmiiegpnoaa
