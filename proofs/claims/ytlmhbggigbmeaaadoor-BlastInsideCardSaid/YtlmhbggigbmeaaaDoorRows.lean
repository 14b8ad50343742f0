/-
  NARROWER THAN 'FOR EVERY INPUT', by the rows' own cells (each row's printed sentence says how): BlastTolls: laid · BlastKnown: laid · BlastEncloses: laid · BlastInside: laid · BlastWorst: laid.
  DERIVED. THE GIVEN ROWS OF THIS SEAT. 5 by the template 'for every input the law returns true; each argument reads behind the call as it read before'; 0 by the template 'total and deterministic' (their statements: YtlmhbggigbmeaaaDoorTotals.lean).
  GIVEN WITH THE SEED: the statements are not yours to turn. If you find one false, say at which input.
  Laid BY PROGRAM, IN A SANDBOX (cutbox-rows.mjs): the forced cells as the released guide's own fill.sh prints them over the translation 9c86b11e6f10584e… (all of the seat's roots in one cut). By AI agents, Wed Nov 11 2026. No macro, syntax, notation, axiom, sorry.
-/
import Derived.Test.YtlmhbggigbmeaaaDoorChecked
import GoSem.Claim
import GoSem.ClaimJoined
import GoSem.ClaimMapViews
import Derived.JoinedTies
import Derived.KernelRfl
namespace Go.Proofs.YtlmhbggigbmeaaaDoor
/- THE CELL 'sum', in the pinned program and in every row, IS THE sha256 OF THE DUMP (.gsa) THAT YtlmhbggigbmeaaaDoorProg.lean LOADS. Nothing in Lean hashes anything: it is a label: what it is worth is what the hold of that sum in a sandbox is worth. -/
noncomputable def Tryd.pinned : Pinned := { name := "ytlmhbggigbmeaaadoor", sum := "9c86b11e6f10584e19429ae1855d9a6ddb0c9d951abf76d8244da91f72350138", checked := Tryd.checked }
namespace Rows
def none {H : Type} : Left H := { results := [], args := [] }

/- WHAT THE LISTED PACKAGE-LEVEL VARIABLES READ AS WHEN THE CALL BEGINS. Each datum BY PROGRAM (the guide's laid-datum.mjs) off the statement by which the dump's own 'gosem.cut.vars' lays the variable. In a bare row this is a premise. The card (YtlmhbggigbmeaaaDoorCards.lean) ties it to the program's text. -/
def laid_bolide_blast_limits {H : Type} : DataW H := .agg [.agg [.lit (.int .i64 1), .lit (.int .i64 1000)], .agg [.lit (.int .i64 1), .lit (.int .i64 9000)], .agg [.lit (.int .i64 0), .lit (.int .i64 1099511627776)], .agg [.lit (.int .i64 0), .lit (.int .i64 1000)], .agg [.lit (.int .i64 500), .lit (.int .i64 2000)], .agg [.lit (.int .i64 1), .lit (.int .i64 8000)], .agg [.lit (.int .i64 1), .lit (.int .i64 1000)]]

/-- 'bolidelaw07.BlastTolls': WHATEVER THE INPUT: true; the input reads as it did. -/
def blastTollsSpec : ChangeSpec := { name := "blastTolls", fn := fun _ => fun
  | [d1, d2, d3, d4, d5, d6, d7, d8] => { results := [.lit (.bool true)], args := [d1, d2, d3, d4, d5, d6, d7, d8] }
  | _ => none }
def blastTollsRow : OpenClaim := { program := "ytlmhbggigbmeaaadoor", sum := "9c86b11e6f10584e19429ae1855d9a6ddb0c9d951abf76d8244da91f72350138", func := "bolide/bolidelaw07.BlastTolls", spec := "blastTolls", inPlace := ["math/bits.Sub64"], unfollowed := true, recurses := true, named := ["bolide/blast.limits", "math/bits.divideError", "math/bits.overflowError"], apart := false, laid := [("bolide/blast.limits", laid_bolide_blast_limits)] }
def BlastTollsSaid : Prop := blastTollsRow.holds Tryd.pinned (OpenSpec.ofChange blastTollsSpec)

/-- ITS FALSE NEIGHBOUR: 'it returns false'. Refute it at one input. -/
def blastTollsWrong : ChangeSpec := { name := "blastTolls", fn := fun _ => fun
  | [d1, d2, d3, d4, d5, d6, d7, d8] => { results := [.lit (.bool false)], args := [d1, d2, d3, d4, d5, d6, d7, d8] }
  | _ => none }
def BlastTollsWrongFalsely : Prop := blastTollsRow.holds Tryd.pinned (OpenSpec.ofChange blastTollsWrong)

/-- 'bolidelaw07.BlastKnown': WHATEVER THE INPUT: true; the input reads as it did. -/
def blastKnownSpec : ChangeSpec := { name := "blastKnown", fn := fun _ => fun
  | [] => { results := [.lit (.bool true)], args := [] }
  | _ => none }
def blastKnownRow : OpenClaim := { program := "ytlmhbggigbmeaaadoor", sum := "9c86b11e6f10584e19429ae1855d9a6ddb0c9d951abf76d8244da91f72350138", func := "bolide/bolidelaw07.BlastKnown", spec := "blastKnown", inPlace := ["math/bits.Sub64"], unfollowed := true, recurses := true, named := ["bolide/blast.limits", "math/bits.divideError", "math/bits.overflowError"], apart := false, laid := [("bolide/blast.limits", laid_bolide_blast_limits)] }
def BlastKnownSaid : Prop := blastKnownRow.holds Tryd.pinned (OpenSpec.ofChange blastKnownSpec)

/-- ITS FALSE NEIGHBOUR: 'it returns false'. Refute it at one input. -/
def blastKnownWrong : ChangeSpec := { name := "blastKnown", fn := fun _ => fun
  | [] => { results := [.lit (.bool false)], args := [] }
  | _ => none }
def BlastKnownWrongFalsely : Prop := blastKnownRow.holds Tryd.pinned (OpenSpec.ofChange blastKnownWrong)

/-- 'bolidelaw07.BlastEncloses': WHATEVER THE INPUT: true; the input reads as it did. -/
def blastEnclosesSpec : ChangeSpec := { name := "blastEncloses", fn := fun _ => fun
  | [d] => { results := [.lit (.bool true)], args := [d] }
  | _ => none }
def blastEnclosesRow : OpenClaim := { program := "ytlmhbggigbmeaaadoor", sum := "9c86b11e6f10584e19429ae1855d9a6ddb0c9d951abf76d8244da91f72350138", func := "bolide/bolidelaw07.BlastEncloses", spec := "blastEncloses", inPlace := ["math/bits.Sub64"], unfollowed := true, recurses := true, named := ["bolide/blast.limits", "math/bits.divideError", "math/bits.overflowError"], apart := false, laid := [("bolide/blast.limits", laid_bolide_blast_limits)] }
def BlastEnclosesSaid : Prop := blastEnclosesRow.holds Tryd.pinned (OpenSpec.ofChange blastEnclosesSpec)

/-- ITS FALSE NEIGHBOUR: 'it returns false'. Refute it at one input. -/
def blastEnclosesWrong : ChangeSpec := { name := "blastEncloses", fn := fun _ => fun
  | [d] => { results := [.lit (.bool false)], args := [d] }
  | _ => none }
def BlastEnclosesWrongFalsely : Prop := blastEnclosesRow.holds Tryd.pinned (OpenSpec.ofChange blastEnclosesWrong)

/-- 'bolidelaw07.BlastInside': WHATEVER THE INPUT: true; the input reads as it did. -/
def blastInsideSpec : ChangeSpec := { name := "blastInside", fn := fun _ => fun
  | [d] => { results := [.lit (.bool true)], args := [d] }
  | _ => none }
def blastInsideRow : OpenClaim := { program := "ytlmhbggigbmeaaadoor", sum := "9c86b11e6f10584e19429ae1855d9a6ddb0c9d951abf76d8244da91f72350138", func := "bolide/bolidelaw07.BlastInside", spec := "blastInside", inPlace := ["math/bits.Sub64"], unfollowed := true, recurses := true, named := ["bolide/blast.limits", "math/bits.divideError", "math/bits.overflowError"], apart := false, laid := [("bolide/blast.limits", laid_bolide_blast_limits)] }
def BlastInsideSaid : Prop := blastInsideRow.holds Tryd.pinned (OpenSpec.ofChange blastInsideSpec)

/-- ITS FALSE NEIGHBOUR: 'it returns false'. Refute it at one input. -/
def blastInsideWrong : ChangeSpec := { name := "blastInside", fn := fun _ => fun
  | [d] => { results := [.lit (.bool false)], args := [d] }
  | _ => none }
def BlastInsideWrongFalsely : Prop := blastInsideRow.holds Tryd.pinned (OpenSpec.ofChange blastInsideWrong)

/-- 'bolidelaw07.BlastWorst': WHATEVER THE INPUT: true; the input reads as it did. -/
def blastWorstSpec : ChangeSpec := { name := "blastWorst", fn := fun _ => fun
  | [d] => { results := [.lit (.bool true)], args := [d] }
  | _ => none }
def blastWorstRow : OpenClaim := { program := "ytlmhbggigbmeaaadoor", sum := "9c86b11e6f10584e19429ae1855d9a6ddb0c9d951abf76d8244da91f72350138", func := "bolide/bolidelaw07.BlastWorst", spec := "blastWorst", inPlace := ["math/bits.Sub64"], unfollowed := true, recurses := true, named := ["bolide/blast.limits", "math/bits.divideError", "math/bits.overflowError"], apart := false, laid := [("bolide/blast.limits", laid_bolide_blast_limits)] }
def BlastWorstSaid : Prop := blastWorstRow.holds Tryd.pinned (OpenSpec.ofChange blastWorstSpec)

/-- ITS FALSE NEIGHBOUR: 'it returns false'. Refute it at one input. -/
def blastWorstWrong : ChangeSpec := { name := "blastWorst", fn := fun _ => fun
  | [d] => { results := [.lit (.bool false)], args := [d] }
  | _ => none }
def BlastWorstWrongFalsely : Prop := blastWorstRow.holds Tryd.pinned (OpenSpec.ofChange blastWorstWrong)

/- THE SECOND FORM. 'bulk': how many values and letters a reading holds, each counted each time it is reached (what is shared counts as often as it is met; a slice's spare places count too). A statement '..UptoSaid' is the law's where the arguments, and the package variables that the reading takes, are together of bulk at most 1048576: NARROWER than '..Said'. Prove '..Said' where nothing that the law and all that it calls make is longer than what came in: it says more and counts as full. Else prove '..UptoSaid'. A law counts once. -/
mutual
def uptoBulk {H : Type} : DataW H → Nat
  | .lit (.string bytes) => bytes.length + 1
  | .lit _ => 1
  | .nil => 1
  | .ptr d => uptoBulk d + 1
  | .slice elems spare => uptoBulkAll elems + uptoBulkAll spare + 1
  | .agg parts => uptoBulkAll parts + 1
  | .iface _ d => uptoBulk d + 1
  | .map entries => uptoBulkEntries entries + 1
  | .held _ => 1
def uptoBulkAll {H : Type} : List (DataW H) → Nat
  | [] => 0
  | d :: r => uptoBulk d + uptoBulkAll r
def uptoBulkEntries {H : Type} : List (Lit × DataW H) → Nat
  | [] => 0
  | x :: r => uptoBulkEntry x + uptoBulkEntries r
def uptoBulkEntry {H : Type} : Lit × DataW H → Nat
  | (.string bytes, d) => bytes.length + uptoBulk d + 1
  | (_, d) => uptoBulk d + 1
 end
def uptoSmall : (H : Type) → List (DataW H) → Bool := fun _ ds => decide (uptoBulkAll ds ≤ 1048576)
def OpenSpec.upto (s : _root_.Go.ChangeSpec) : _root_.Go.OpenSpec := { _root_.Go.OpenSpec.ofChange s with cond := some uptoSmall }

/-- 'bolidelaw07.BlastTolls', WHERE WHAT IT READS IS OF BULK AT MOST 1048576: true; the input reads as it did. -/
def blastTollsUptoRow : OpenClaim := { program := "ytlmhbggigbmeaaadoor", sum := "9c86b11e6f10584e19429ae1855d9a6ddb0c9d951abf76d8244da91f72350138", func := "bolide/bolidelaw07.BlastTolls", spec := "blastTolls", inPlace := ["math/bits.Sub64"], unfollowed := true, recurses := true, named := ["bolide/blast.limits", "math/bits.divideError", "math/bits.overflowError"], apart := false, laid := [("bolide/blast.limits", laid_bolide_blast_limits)], narrowed := true }
def BlastTollsUptoSaid : Prop := blastTollsUptoRow.holds Tryd.pinned (OpenSpec.upto blastTollsSpec)

/-- 'bolidelaw07.BlastKnown', WHERE WHAT IT READS IS OF BULK AT MOST 1048576: true; the input reads as it did. -/
def blastKnownUptoRow : OpenClaim := { program := "ytlmhbggigbmeaaadoor", sum := "9c86b11e6f10584e19429ae1855d9a6ddb0c9d951abf76d8244da91f72350138", func := "bolide/bolidelaw07.BlastKnown", spec := "blastKnown", inPlace := ["math/bits.Sub64"], unfollowed := true, recurses := true, named := ["bolide/blast.limits", "math/bits.divideError", "math/bits.overflowError"], apart := false, laid := [("bolide/blast.limits", laid_bolide_blast_limits)], narrowed := true }
def BlastKnownUptoSaid : Prop := blastKnownUptoRow.holds Tryd.pinned (OpenSpec.upto blastKnownSpec)

/-- 'bolidelaw07.BlastEncloses', WHERE WHAT IT READS IS OF BULK AT MOST 1048576: true; the input reads as it did. -/
def blastEnclosesUptoRow : OpenClaim := { program := "ytlmhbggigbmeaaadoor", sum := "9c86b11e6f10584e19429ae1855d9a6ddb0c9d951abf76d8244da91f72350138", func := "bolide/bolidelaw07.BlastEncloses", spec := "blastEncloses", inPlace := ["math/bits.Sub64"], unfollowed := true, recurses := true, named := ["bolide/blast.limits", "math/bits.divideError", "math/bits.overflowError"], apart := false, laid := [("bolide/blast.limits", laid_bolide_blast_limits)], narrowed := true }
def BlastEnclosesUptoSaid : Prop := blastEnclosesUptoRow.holds Tryd.pinned (OpenSpec.upto blastEnclosesSpec)

/-- 'bolidelaw07.BlastInside', WHERE WHAT IT READS IS OF BULK AT MOST 1048576: true; the input reads as it did. -/
def blastInsideUptoRow : OpenClaim := { program := "ytlmhbggigbmeaaadoor", sum := "9c86b11e6f10584e19429ae1855d9a6ddb0c9d951abf76d8244da91f72350138", func := "bolide/bolidelaw07.BlastInside", spec := "blastInside", inPlace := ["math/bits.Sub64"], unfollowed := true, recurses := true, named := ["bolide/blast.limits", "math/bits.divideError", "math/bits.overflowError"], apart := false, laid := [("bolide/blast.limits", laid_bolide_blast_limits)], narrowed := true }
def BlastInsideUptoSaid : Prop := blastInsideUptoRow.holds Tryd.pinned (OpenSpec.upto blastInsideSpec)

/-- 'bolidelaw07.BlastWorst', WHERE WHAT IT READS IS OF BULK AT MOST 1048576: true; the input reads as it did. -/
def blastWorstUptoRow : OpenClaim := { program := "ytlmhbggigbmeaaadoor", sum := "9c86b11e6f10584e19429ae1855d9a6ddb0c9d951abf76d8244da91f72350138", func := "bolide/bolidelaw07.BlastWorst", spec := "blastWorst", inPlace := ["math/bits.Sub64"], unfollowed := true, recurses := true, named := ["bolide/blast.limits", "math/bits.divideError", "math/bits.overflowError"], apart := false, laid := [("bolide/blast.limits", laid_bolide_blast_limits)], narrowed := true }
def BlastWorstUptoSaid : Prop := blastWorstUptoRow.holds Tryd.pinned (OpenSpec.upto blastWorstSpec)

end Rows
end Go.Proofs.YtlmhbggigbmeaaaDoor
