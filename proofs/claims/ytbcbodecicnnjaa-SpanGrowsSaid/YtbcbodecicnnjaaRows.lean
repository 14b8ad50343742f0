/-
  No cell of these rows narrows 'for every input' (looked for: loops, veiled, ifaces, maps, wideKeys, modest, calm, conditions, laid).
  DERIVED. THE GIVEN ROWS OF THIS SEAT. 8 by the template 'for every input the law returns true; each argument reads behind the call as it read before'; 0 by the template 'total and deterministic' (their statements: YtbcbodecicnnjaaTotals.lean).
  GIVEN WITH THE SEED: the statements are not yours to turn. If you find one false, say at which input.
  Laid BY PROGRAM, IN A SANDBOX (cutbox-rows.mjs): the forced cells as the released guide's own fill.sh prints them over the translation 748f13610cbc8ff1… (all of the seat's roots in one cut). By AI agents, Wed Nov 11 2026. No macro, syntax, notation, axiom, sorry.
-/
import Derived.Test.YtbcbodecicnnjaaChecked
import GoSem.Claim
import GoSem.ClaimJoined
import GoSem.ClaimMapViews
import Derived.JoinedTies
import Derived.KernelRfl
namespace Go.Proofs.Ytbcbodecicnnjaa
/- THE CELL 'sum', in the pinned program and in every row, IS THE sha256 OF THE DUMP (.gsa) THAT YtbcbodecicnnjaaProg.lean LOADS. Nothing in Lean hashes anything: it is a label: what it is worth is what the hold of that sum in a sandbox is worth. -/
noncomputable def Try.pinned : Pinned := { name := "ytbcbodecicnnjaa", sum := "748f13610cbc8ff1892ee48648efff49b96d7161d04a5b99ad00f023e8a3b8ef", checked := Try.checked }
namespace Rows
def none {H : Type} : Left H := { results := [], args := [] }

/-- 'bolidelaw01.SpanTurns': WHATEVER THE INPUT: true; the input reads as it did. -/
def spanTurnsSpec : ChangeSpec := { name := "spanTurns", fn := fun _ => fun
  | [d1, d2] => { results := [.lit (.bool true)], args := [d1, d2] }
  | _ => none }
def spanTurnsRow : OpenClaim := { program := "ytbcbodecicnnjaa", sum := "748f13610cbc8ff1892ee48648efff49b96d7161d04a5b99ad00f023e8a3b8ef", func := "bolide/bolidelaw01.SpanTurns", spec := "spanTurns", inPlace := ["math/bits.Sub64", "math/bits.Add64"], unfollowed := true, recurses := true, apart := false }
def SpanTurnsSaid : Prop := spanTurnsRow.holds Try.pinned (OpenSpec.ofChange spanTurnsSpec)

/-- ITS FALSE NEIGHBOUR: 'it returns false'. Refute it at one input. -/
def spanTurnsWrong : ChangeSpec := { name := "spanTurns", fn := fun _ => fun
  | [d1, d2] => { results := [.lit (.bool false)], args := [d1, d2] }
  | _ => none }
def SpanTurnsWrongFalsely : Prop := spanTurnsRow.holds Try.pinned (OpenSpec.ofChange spanTurnsWrong)

/-- 'bolidelaw01.SpanMisses': WHATEVER THE INPUT: true; the input reads as it did. -/
def spanMissesSpec : ChangeSpec := { name := "spanMisses", fn := fun _ => fun
  | [d1, d2, d3, d4] => { results := [.lit (.bool true)], args := [d1, d2, d3, d4] }
  | _ => none }
def spanMissesRow : OpenClaim := { program := "ytbcbodecicnnjaa", sum := "748f13610cbc8ff1892ee48648efff49b96d7161d04a5b99ad00f023e8a3b8ef", func := "bolide/bolidelaw01.SpanMisses", spec := "spanMisses", inPlace := ["math/bits.Sub64", "math/bits.Add64"], unfollowed := true, recurses := true, apart := false }
def SpanMissesSaid : Prop := spanMissesRow.holds Try.pinned (OpenSpec.ofChange spanMissesSpec)

/-- ITS FALSE NEIGHBOUR: 'it returns false'. Refute it at one input. -/
def spanMissesWrong : ChangeSpec := { name := "spanMisses", fn := fun _ => fun
  | [d1, d2, d3, d4] => { results := [.lit (.bool false)], args := [d1, d2, d3, d4] }
  | _ => none }
def SpanMissesWrongFalsely : Prop := spanMissesRow.holds Try.pinned (OpenSpec.ofChange spanMissesWrong)

/-- 'bolidelaw01.SpanCertain': WHATEVER THE INPUT: true; the input reads as it did. -/
def spanCertainSpec : ChangeSpec := { name := "spanCertain", fn := fun _ => fun
  | [d1, d2] => { results := [.lit (.bool true)], args := [d1, d2] }
  | _ => none }
def spanCertainRow : OpenClaim := { program := "ytbcbodecicnnjaa", sum := "748f13610cbc8ff1892ee48648efff49b96d7161d04a5b99ad00f023e8a3b8ef", func := "bolide/bolidelaw01.SpanCertain", spec := "spanCertain", inPlace := ["math/bits.Sub64", "math/bits.Add64"], unfollowed := true, recurses := true, apart := false }
def SpanCertainSaid : Prop := spanCertainRow.holds Try.pinned (OpenSpec.ofChange spanCertainSpec)

/-- ITS FALSE NEIGHBOUR: 'it returns false'. Refute it at one input. -/
def spanCertainWrong : ChangeSpec := { name := "spanCertain", fn := fun _ => fun
  | [d1, d2] => { results := [.lit (.bool false)], args := [d1, d2] }
  | _ => none }
def SpanCertainWrongFalsely : Prop := spanCertainRow.holds Try.pinned (OpenSpec.ofChange spanCertainWrong)

/-- 'bolidelaw01.SpanRounds': WHATEVER THE INPUT: true; the input reads as it did. -/
def spanRoundsSpec : ChangeSpec := { name := "spanRounds", fn := fun _ => fun
  | [d1, d2, d3, d4] => { results := [.lit (.bool true)], args := [d1, d2, d3, d4] }
  | _ => none }
def spanRoundsRow : OpenClaim := { program := "ytbcbodecicnnjaa", sum := "748f13610cbc8ff1892ee48648efff49b96d7161d04a5b99ad00f023e8a3b8ef", func := "bolide/bolidelaw01.SpanRounds", spec := "spanRounds", inPlace := ["math/bits.Sub64", "math/bits.Add64"], unfollowed := true, recurses := true, named := ["math/bits.divideError", "math/bits.overflowError"], apart := false }
def SpanRoundsSaid : Prop := spanRoundsRow.holds Try.pinned (OpenSpec.ofChange spanRoundsSpec)

/-- ITS FALSE NEIGHBOUR: 'it returns false'. Refute it at one input. -/
def spanRoundsWrong : ChangeSpec := { name := "spanRounds", fn := fun _ => fun
  | [d1, d2, d3, d4] => { results := [.lit (.bool false)], args := [d1, d2, d3, d4] }
  | _ => none }
def SpanRoundsWrongFalsely : Prop := spanRoundsRow.holds Try.pinned (OpenSpec.ofChange spanRoundsWrong)

/-- 'bolidelaw01.SpanParts': WHATEVER THE INPUT: true; the input reads as it did. -/
def spanPartsSpec : ChangeSpec := { name := "spanParts", fn := fun _ => fun
  | [d1, d2] => { results := [.lit (.bool true)], args := [d1, d2] }
  | _ => none }
def spanPartsRow : OpenClaim := { program := "ytbcbodecicnnjaa", sum := "748f13610cbc8ff1892ee48648efff49b96d7161d04a5b99ad00f023e8a3b8ef", func := "bolide/bolidelaw01.SpanParts", spec := "spanParts", inPlace := ["math/bits.Sub64", "math/bits.Add64"], unfollowed := true, recurses := true, apart := false }
def SpanPartsSaid : Prop := spanPartsRow.holds Try.pinned (OpenSpec.ofChange spanPartsSpec)

/-- ITS FALSE NEIGHBOUR: 'it returns false'. Refute it at one input. -/
def spanPartsWrong : ChangeSpec := { name := "spanParts", fn := fun _ => fun
  | [d1, d2] => { results := [.lit (.bool false)], args := [d1, d2] }
  | _ => none }
def SpanPartsWrongFalsely : Prop := spanPartsRow.holds Try.pinned (OpenSpec.ofChange spanPartsWrong)

/-- 'bolidelaw01.SpanEncloses': WHATEVER THE INPUT: true; the input reads as it did. -/
def spanEnclosesSpec : ChangeSpec := { name := "spanEncloses", fn := fun _ => fun
  | [d] => { results := [.lit (.bool true)], args := [d] }
  | _ => none }
def spanEnclosesRow : OpenClaim := { program := "ytbcbodecicnnjaa", sum := "748f13610cbc8ff1892ee48648efff49b96d7161d04a5b99ad00f023e8a3b8ef", func := "bolide/bolidelaw01.SpanEncloses", spec := "spanEncloses", inPlace := ["math/bits.Add64", "math/bits.Sub64"], unfollowed := true, recurses := true, named := ["math/bits.divideError", "math/bits.overflowError"], apart := false }
def SpanEnclosesSaid : Prop := spanEnclosesRow.holds Try.pinned (OpenSpec.ofChange spanEnclosesSpec)

/-- ITS FALSE NEIGHBOUR: 'it returns false'. Refute it at one input. -/
def spanEnclosesWrong : ChangeSpec := { name := "spanEncloses", fn := fun _ => fun
  | [d] => { results := [.lit (.bool false)], args := [d] }
  | _ => none }
def SpanEnclosesWrongFalsely : Prop := spanEnclosesRow.holds Try.pinned (OpenSpec.ofChange spanEnclosesWrong)

/-- 'bolidelaw01.SpanGrows': WHATEVER THE INPUT: true; the input reads as it did. -/
def spanGrowsSpec : ChangeSpec := { name := "spanGrows", fn := fun _ => fun
  | [d1, d2, d3] => { results := [.lit (.bool true)], args := [d1, d2, d3] }
  | _ => none }
def spanGrowsRow : OpenClaim := { program := "ytbcbodecicnnjaa", sum := "748f13610cbc8ff1892ee48648efff49b96d7161d04a5b99ad00f023e8a3b8ef", func := "bolide/bolidelaw01.SpanGrows", spec := "spanGrows", inPlace := ["math/bits.Add64", "math/bits.Sub64"], unfollowed := true, recurses := true, named := ["math/bits.divideError", "math/bits.overflowError"], apart := false }
def SpanGrowsSaid : Prop := spanGrowsRow.holds Try.pinned (OpenSpec.ofChange spanGrowsSpec)

/-- ITS FALSE NEIGHBOUR: 'it returns false'. Refute it at one input. -/
def spanGrowsWrong : ChangeSpec := { name := "spanGrows", fn := fun _ => fun
  | [d1, d2, d3] => { results := [.lit (.bool false)], args := [d1, d2, d3] }
  | _ => none }
def SpanGrowsWrongFalsely : Prop := spanGrowsRow.holds Try.pinned (OpenSpec.ofChange spanGrowsWrong)

/-- 'bolidelaw01.SpanKnown': WHATEVER THE INPUT: true; the input reads as it did. -/
def spanKnownSpec : ChangeSpec := { name := "spanKnown", fn := fun _ => fun
  | [] => { results := [.lit (.bool true)], args := [] }
  | _ => none }
def spanKnownRow : OpenClaim := { program := "ytbcbodecicnnjaa", sum := "748f13610cbc8ff1892ee48648efff49b96d7161d04a5b99ad00f023e8a3b8ef", func := "bolide/bolidelaw01.SpanKnown", spec := "spanKnown", inPlace := ["math/bits.Sub64", "math/bits.Add64"], unfollowed := true, recurses := true, named := ["math/bits.divideError", "math/bits.overflowError"], apart := false }
def SpanKnownSaid : Prop := spanKnownRow.holds Try.pinned (OpenSpec.ofChange spanKnownSpec)

/-- ITS FALSE NEIGHBOUR: 'it returns false'. Refute it at one input. -/
def spanKnownWrong : ChangeSpec := { name := "spanKnown", fn := fun _ => fun
  | [] => { results := [.lit (.bool false)], args := [] }
  | _ => none }
def SpanKnownWrongFalsely : Prop := spanKnownRow.holds Try.pinned (OpenSpec.ofChange spanKnownWrong)

/- THE SECOND FORM. 'bulk': how many values and letters a reading holds, each counted each time it is reached (what is shared counts as often as it is met; a slice's spare places count too). A statement '..UptoSaid' is the law's where the arguments, and the package variables that the reading takes, are together of bulk at most 1048576: NARROWER than '..Said'. Prove '..Said' where nothing that the law and all that it calls make is longer than what came in: it says more and counts as full. Else prove '..UptoSaid'. A law counts once. -/
mutual
def uptoBulk {H : Type} : DataW H → Nat
  | .lit (.string bytes) => bytes.length + 1
  | .lit _ => 1
  | .nil => 1
  | .ptr d => uptoBulk d + 1
  | .slice elems spare => uptoBulkAll elems + uptoBulkAll spare + 1
  | .agg parts => uptoBulkAll parts + 1
  | .iface _ d => uptoBulk d + 1
  | .map entries => uptoBulkEntries entries + 1
  | .held _ => 1
def uptoBulkAll {H : Type} : List (DataW H) → Nat
  | [] => 0
  | d :: r => uptoBulk d + uptoBulkAll r
def uptoBulkEntries {H : Type} : List (Lit × DataW H) → Nat
  | [] => 0
  | x :: r => uptoBulkEntry x + uptoBulkEntries r
def uptoBulkEntry {H : Type} : Lit × DataW H → Nat
  | (.string bytes, d) => bytes.length + uptoBulk d + 1
  | (_, d) => uptoBulk d + 1
 end
def uptoSmall : (H : Type) → List (DataW H) → Bool := fun _ ds => decide (uptoBulkAll ds ≤ 1048576)
def OpenSpec.upto (s : _root_.Go.ChangeSpec) : _root_.Go.OpenSpec := { _root_.Go.OpenSpec.ofChange s with cond := some uptoSmall }

/-- 'bolidelaw01.SpanTurns', WHERE WHAT IT READS IS OF BULK AT MOST 1048576: true; the input reads as it did. -/
def spanTurnsUptoRow : OpenClaim := { program := "ytbcbodecicnnjaa", sum := "748f13610cbc8ff1892ee48648efff49b96d7161d04a5b99ad00f023e8a3b8ef", func := "bolide/bolidelaw01.SpanTurns", spec := "spanTurns", inPlace := ["math/bits.Sub64", "math/bits.Add64"], unfollowed := true, recurses := true, apart := false, narrowed := true }
def SpanTurnsUptoSaid : Prop := spanTurnsUptoRow.holds Try.pinned (OpenSpec.upto spanTurnsSpec)

/-- 'bolidelaw01.SpanMisses', WHERE WHAT IT READS IS OF BULK AT MOST 1048576: true; the input reads as it did. -/
def spanMissesUptoRow : OpenClaim := { program := "ytbcbodecicnnjaa", sum := "748f13610cbc8ff1892ee48648efff49b96d7161d04a5b99ad00f023e8a3b8ef", func := "bolide/bolidelaw01.SpanMisses", spec := "spanMisses", inPlace := ["math/bits.Sub64", "math/bits.Add64"], unfollowed := true, recurses := true, apart := false, narrowed := true }
def SpanMissesUptoSaid : Prop := spanMissesUptoRow.holds Try.pinned (OpenSpec.upto spanMissesSpec)

/-- 'bolidelaw01.SpanCertain', WHERE WHAT IT READS IS OF BULK AT MOST 1048576: true; the input reads as it did. -/
def spanCertainUptoRow : OpenClaim := { program := "ytbcbodecicnnjaa", sum := "748f13610cbc8ff1892ee48648efff49b96d7161d04a5b99ad00f023e8a3b8ef", func := "bolide/bolidelaw01.SpanCertain", spec := "spanCertain", inPlace := ["math/bits.Sub64", "math/bits.Add64"], unfollowed := true, recurses := true, apart := false, narrowed := true }
def SpanCertainUptoSaid : Prop := spanCertainUptoRow.holds Try.pinned (OpenSpec.upto spanCertainSpec)

/-- 'bolidelaw01.SpanRounds', WHERE WHAT IT READS IS OF BULK AT MOST 1048576: true; the input reads as it did. -/
def spanRoundsUptoRow : OpenClaim := { program := "ytbcbodecicnnjaa", sum := "748f13610cbc8ff1892ee48648efff49b96d7161d04a5b99ad00f023e8a3b8ef", func := "bolide/bolidelaw01.SpanRounds", spec := "spanRounds", inPlace := ["math/bits.Sub64", "math/bits.Add64"], unfollowed := true, recurses := true, named := ["math/bits.divideError", "math/bits.overflowError"], apart := false, narrowed := true }
def SpanRoundsUptoSaid : Prop := spanRoundsUptoRow.holds Try.pinned (OpenSpec.upto spanRoundsSpec)

/-- 'bolidelaw01.SpanParts', WHERE WHAT IT READS IS OF BULK AT MOST 1048576: true; the input reads as it did. -/
def spanPartsUptoRow : OpenClaim := { program := "ytbcbodecicnnjaa", sum := "748f13610cbc8ff1892ee48648efff49b96d7161d04a5b99ad00f023e8a3b8ef", func := "bolide/bolidelaw01.SpanParts", spec := "spanParts", inPlace := ["math/bits.Sub64", "math/bits.Add64"], unfollowed := true, recurses := true, apart := false, narrowed := true }
def SpanPartsUptoSaid : Prop := spanPartsUptoRow.holds Try.pinned (OpenSpec.upto spanPartsSpec)

/-- 'bolidelaw01.SpanEncloses', WHERE WHAT IT READS IS OF BULK AT MOST 1048576: true; the input reads as it did. -/
def spanEnclosesUptoRow : OpenClaim := { program := "ytbcbodecicnnjaa", sum := "748f13610cbc8ff1892ee48648efff49b96d7161d04a5b99ad00f023e8a3b8ef", func := "bolide/bolidelaw01.SpanEncloses", spec := "spanEncloses", inPlace := ["math/bits.Add64", "math/bits.Sub64"], unfollowed := true, recurses := true, named := ["math/bits.divideError", "math/bits.overflowError"], apart := false, narrowed := true }
def SpanEnclosesUptoSaid : Prop := spanEnclosesUptoRow.holds Try.pinned (OpenSpec.upto spanEnclosesSpec)

/-- 'bolidelaw01.SpanGrows', WHERE WHAT IT READS IS OF BULK AT MOST 1048576: true; the input reads as it did. -/
def spanGrowsUptoRow : OpenClaim := { program := "ytbcbodecicnnjaa", sum := "748f13610cbc8ff1892ee48648efff49b96d7161d04a5b99ad00f023e8a3b8ef", func := "bolide/bolidelaw01.SpanGrows", spec := "spanGrows", inPlace := ["math/bits.Add64", "math/bits.Sub64"], unfollowed := true, recurses := true, named := ["math/bits.divideError", "math/bits.overflowError"], apart := false, narrowed := true }
def SpanGrowsUptoSaid : Prop := spanGrowsUptoRow.holds Try.pinned (OpenSpec.upto spanGrowsSpec)

/-- 'bolidelaw01.SpanKnown', WHERE WHAT IT READS IS OF BULK AT MOST 1048576: true; the input reads as it did. -/
def spanKnownUptoRow : OpenClaim := { program := "ytbcbodecicnnjaa", sum := "748f13610cbc8ff1892ee48648efff49b96d7161d04a5b99ad00f023e8a3b8ef", func := "bolide/bolidelaw01.SpanKnown", spec := "spanKnown", inPlace := ["math/bits.Sub64", "math/bits.Add64"], unfollowed := true, recurses := true, named := ["math/bits.divideError", "math/bits.overflowError"], apart := false, narrowed := true }
def SpanKnownUptoSaid : Prop := spanKnownUptoRow.holds Try.pinned (OpenSpec.upto spanKnownSpec)

end Rows
end Go.Proofs.Ytbcbodecicnnjaa
