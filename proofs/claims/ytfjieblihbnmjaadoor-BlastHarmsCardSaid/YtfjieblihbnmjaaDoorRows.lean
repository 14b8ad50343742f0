/-
  NARROWER THAN 'FOR EVERY INPUT', by the rows' own cells (each row's printed sentence says how): BlastFalls: laid · BlastLands: laid · BlastHarms: laid · BlastTolls: laid.
  DERIVED. THE GIVEN ROWS OF THIS SEAT. 4 by the template 'for every input the law returns true; each argument reads behind the call as it read before'; 0 by the template 'total and deterministic' (their statements: YtfjieblihbnmjaaDoorTotals.lean).
  GIVEN WITH THE SEED: the statements are not yours to turn. If you find one false, say at which input.
  Laid BY PROGRAM, IN A SANDBOX (cutbox-rows.mjs): the forced cells as the released guide's own fill.sh prints them over the translation 3972bd122966d51b… (all of the seat's roots in one cut). By AI agents, Wed Nov 11 2026. No macro, syntax, notation, axiom, sorry.
-/
import Derived.Test.YtfjieblihbnmjaaDoorChecked
import GoSem.Claim
import GoSem.ClaimJoined
import GoSem.ClaimMapViews
import Derived.JoinedTies
import Derived.KernelRfl
namespace Go.Proofs.YtfjieblihbnmjaaDoor
/- THE CELL 'sum', in the pinned program and in every row, IS THE sha256 OF THE DUMP (.gsa) THAT YtfjieblihbnmjaaDoorProg.lean LOADS. Nothing in Lean hashes anything: it is a label: what it is worth is what the hold of that sum in a sandbox is worth. -/
noncomputable def Tryd.pinned : Pinned := { name := "ytfjieblihbnmjaadoor", sum := "3972bd122966d51ba3ee0c05793450430ac163ba56c63f0d6f450d3c8054369f", checked := Tryd.checked }
namespace Rows
def none {H : Type} : Left H := { results := [], args := [] }

/- WHAT THE LISTED PACKAGE-LEVEL VARIABLES READ AS WHEN THE CALL BEGINS. Each datum BY PROGRAM (the guide's laid-datum.mjs) off the statement by which the dump's own 'gosem.cut.vars' lays the variable. In a bare row this is a premise. The card (YtfjieblihbnmjaaDoorCards.lean) ties it to the program's text. -/
def laid_bolide_blast_limits {H : Type} : DataW H := .agg [.agg [.lit (.int .i64 1), .lit (.int .i64 1000)], .agg [.lit (.int .i64 1), .lit (.int .i64 9000)], .agg [.lit (.int .i64 0), .lit (.int .i64 1099511627776)], .agg [.lit (.int .i64 0), .lit (.int .i64 1000)], .agg [.lit (.int .i64 500), .lit (.int .i64 2000)], .agg [.lit (.int .i64 1), .lit (.int .i64 8000)], .agg [.lit (.int .i64 1), .lit (.int .i64 1000)]]

/-- 'bolidelaw07.BlastFalls': WHATEVER THE INPUT: true; the input reads as it did. -/
def blastFallsSpec : ChangeSpec := { name := "blastFalls", fn := fun _ => fun
  | [d1, d2, d3, d4, d5] => { results := [.lit (.bool true)], args := [d1, d2, d3, d4, d5] }
  | _ => none }
def blastFallsRow : OpenClaim := { program := "ytfjieblihbnmjaadoor", sum := "3972bd122966d51ba3ee0c05793450430ac163ba56c63f0d6f450d3c8054369f", func := "bolide/bolidelaw07.BlastFalls", spec := "blastFalls", inPlace := ["math/bits.Sub64"], unfollowed := true, recurses := true, named := ["bolide/blast.limits", "math/bits.divideError", "math/bits.overflowError"], apart := false, laid := [("bolide/blast.limits", laid_bolide_blast_limits)] }
def BlastFallsSaid : Prop := blastFallsRow.holds Tryd.pinned (OpenSpec.ofChange blastFallsSpec)

/-- ITS FALSE NEIGHBOUR: 'it returns false'. Refute it at one input. -/
def blastFallsWrong : ChangeSpec := { name := "blastFalls", fn := fun _ => fun
  | [d1, d2, d3, d4, d5] => { results := [.lit (.bool false)], args := [d1, d2, d3, d4, d5] }
  | _ => none }
def BlastFallsWrongFalsely : Prop := blastFallsRow.holds Tryd.pinned (OpenSpec.ofChange blastFallsWrong)

/-- 'bolidelaw07.BlastLands': WHATEVER THE INPUT: true; the input reads as it did. -/
def blastLandsSpec : ChangeSpec := { name := "blastLands", fn := fun _ => fun
  | [d1, d2, d3, d4, d5, d6] => { results := [.lit (.bool true)], args := [d1, d2, d3, d4, d5, d6] }
  | _ => none }
def blastLandsRow : OpenClaim := { program := "ytfjieblihbnmjaadoor", sum := "3972bd122966d51ba3ee0c05793450430ac163ba56c63f0d6f450d3c8054369f", func := "bolide/bolidelaw07.BlastLands", spec := "blastLands", inPlace := ["math/bits.Sub64"], unfollowed := true, recurses := true, named := ["bolide/blast.limits", "math/bits.divideError", "math/bits.overflowError"], apart := false, laid := [("bolide/blast.limits", laid_bolide_blast_limits)] }
def BlastLandsSaid : Prop := blastLandsRow.holds Tryd.pinned (OpenSpec.ofChange blastLandsSpec)

/-- ITS FALSE NEIGHBOUR: 'it returns false'. Refute it at one input. -/
def blastLandsWrong : ChangeSpec := { name := "blastLands", fn := fun _ => fun
  | [d1, d2, d3, d4, d5, d6] => { results := [.lit (.bool false)], args := [d1, d2, d3, d4, d5, d6] }
  | _ => none }
def BlastLandsWrongFalsely : Prop := blastLandsRow.holds Tryd.pinned (OpenSpec.ofChange blastLandsWrong)

/-- 'bolidelaw07.BlastHarms': WHATEVER THE INPUT: true; the input reads as it did. -/
def blastHarmsSpec : ChangeSpec := { name := "blastHarms", fn := fun _ => fun
  | [d1, d2, d3, d4, d5, d6, d7] => { results := [.lit (.bool true)], args := [d1, d2, d3, d4, d5, d6, d7] }
  | _ => none }
def blastHarmsRow : OpenClaim := { program := "ytfjieblihbnmjaadoor", sum := "3972bd122966d51ba3ee0c05793450430ac163ba56c63f0d6f450d3c8054369f", func := "bolide/bolidelaw07.BlastHarms", spec := "blastHarms", inPlace := ["math/bits.Sub64"], unfollowed := true, recurses := true, named := ["bolide/blast.limits", "math/bits.divideError", "math/bits.overflowError"], apart := false, laid := [("bolide/blast.limits", laid_bolide_blast_limits)] }
def BlastHarmsSaid : Prop := blastHarmsRow.holds Tryd.pinned (OpenSpec.ofChange blastHarmsSpec)

/-- ITS FALSE NEIGHBOUR: 'it returns false'. Refute it at one input. -/
def blastHarmsWrong : ChangeSpec := { name := "blastHarms", fn := fun _ => fun
  | [d1, d2, d3, d4, d5, d6, d7] => { results := [.lit (.bool false)], args := [d1, d2, d3, d4, d5, d6, d7] }
  | _ => none }
def BlastHarmsWrongFalsely : Prop := blastHarmsRow.holds Tryd.pinned (OpenSpec.ofChange blastHarmsWrong)

/-- 'bolidelaw07.BlastTolls': WHATEVER THE INPUT: true; the input reads as it did. -/
def blastTollsSpec : ChangeSpec := { name := "blastTolls", fn := fun _ => fun
  | [d1, d2, d3, d4, d5, d6, d7, d8] => { results := [.lit (.bool true)], args := [d1, d2, d3, d4, d5, d6, d7, d8] }
  | _ => none }
def blastTollsRow : OpenClaim := { program := "ytfjieblihbnmjaadoor", sum := "3972bd122966d51ba3ee0c05793450430ac163ba56c63f0d6f450d3c8054369f", func := "bolide/bolidelaw07.BlastTolls", spec := "blastTolls", inPlace := ["math/bits.Sub64"], unfollowed := true, recurses := true, named := ["bolide/blast.limits", "math/bits.divideError", "math/bits.overflowError"], apart := false, laid := [("bolide/blast.limits", laid_bolide_blast_limits)] }
def BlastTollsSaid : Prop := blastTollsRow.holds Tryd.pinned (OpenSpec.ofChange blastTollsSpec)

/-- ITS FALSE NEIGHBOUR: 'it returns false'. Refute it at one input. -/
def blastTollsWrong : ChangeSpec := { name := "blastTolls", fn := fun _ => fun
  | [d1, d2, d3, d4, d5, d6, d7, d8] => { results := [.lit (.bool false)], args := [d1, d2, d3, d4, d5, d6, d7, d8] }
  | _ => none }
def BlastTollsWrongFalsely : Prop := blastTollsRow.holds Tryd.pinned (OpenSpec.ofChange blastTollsWrong)

/- THE SECOND FORM. 'bulk': how many values and letters a reading holds, each counted each time it is reached (what is shared counts as often as it is met; a slice's spare places count too). A statement '..UptoSaid' is the law's where the arguments, and the package variables that the reading takes, are together of bulk at most 1048576: NARROWER than '..Said'. Prove '..Said' where nothing that the law and all that it calls make is longer than what came in: it says more and counts as full. Else prove '..UptoSaid'. A law counts once. -/
mutual
def uptoBulk {H : Type} : DataW H → Nat
  | .lit (.string bytes) => bytes.length + 1
  | .lit _ => 1
  | .nil => 1
  | .ptr d => uptoBulk d + 1
  | .slice elems spare => uptoBulkAll elems + uptoBulkAll spare + 1
  | .agg parts => uptoBulkAll parts + 1
  | .iface _ d => uptoBulk d + 1
  | .map entries => uptoBulkEntries entries + 1
  | .held _ => 1
def uptoBulkAll {H : Type} : List (DataW H) → Nat
  | [] => 0
  | d :: r => uptoBulk d + uptoBulkAll r
def uptoBulkEntries {H : Type} : List (Lit × DataW H) → Nat
  | [] => 0
  | x :: r => uptoBulkEntry x + uptoBulkEntries r
def uptoBulkEntry {H : Type} : Lit × DataW H → Nat
  | (.string bytes, d) => bytes.length + uptoBulk d + 1
  | (_, d) => uptoBulk d + 1
 end
def uptoSmall : (H : Type) → List (DataW H) → Bool := fun _ ds => decide (uptoBulkAll ds ≤ 1048576)
def OpenSpec.upto (s : _root_.Go.ChangeSpec) : _root_.Go.OpenSpec := { _root_.Go.OpenSpec.ofChange s with cond := some uptoSmall }

/-- 'bolidelaw07.BlastFalls', WHERE WHAT IT READS IS OF BULK AT MOST 1048576: true; the input reads as it did. -/
def blastFallsUptoRow : OpenClaim := { program := "ytfjieblihbnmjaadoor", sum := "3972bd122966d51ba3ee0c05793450430ac163ba56c63f0d6f450d3c8054369f", func := "bolide/bolidelaw07.BlastFalls", spec := "blastFalls", inPlace := ["math/bits.Sub64"], unfollowed := true, recurses := true, named := ["bolide/blast.limits", "math/bits.divideError", "math/bits.overflowError"], apart := false, laid := [("bolide/blast.limits", laid_bolide_blast_limits)], narrowed := true }
def BlastFallsUptoSaid : Prop := blastFallsUptoRow.holds Tryd.pinned (OpenSpec.upto blastFallsSpec)

/-- 'bolidelaw07.BlastLands', WHERE WHAT IT READS IS OF BULK AT MOST 1048576: true; the input reads as it did. -/
def blastLandsUptoRow : OpenClaim := { program := "ytfjieblihbnmjaadoor", sum := "3972bd122966d51ba3ee0c05793450430ac163ba56c63f0d6f450d3c8054369f", func := "bolide/bolidelaw07.BlastLands", spec := "blastLands", inPlace := ["math/bits.Sub64"], unfollowed := true, recurses := true, named := ["bolide/blast.limits", "math/bits.divideError", "math/bits.overflowError"], apart := false, laid := [("bolide/blast.limits", laid_bolide_blast_limits)], narrowed := true }
def BlastLandsUptoSaid : Prop := blastLandsUptoRow.holds Tryd.pinned (OpenSpec.upto blastLandsSpec)

/-- 'bolidelaw07.BlastHarms', WHERE WHAT IT READS IS OF BULK AT MOST 1048576: true; the input reads as it did. -/
def blastHarmsUptoRow : OpenClaim := { program := "ytfjieblihbnmjaadoor", sum := "3972bd122966d51ba3ee0c05793450430ac163ba56c63f0d6f450d3c8054369f", func := "bolide/bolidelaw07.BlastHarms", spec := "blastHarms", inPlace := ["math/bits.Sub64"], unfollowed := true, recurses := true, named := ["bolide/blast.limits", "math/bits.divideError", "math/bits.overflowError"], apart := false, laid := [("bolide/blast.limits", laid_bolide_blast_limits)], narrowed := true }
def BlastHarmsUptoSaid : Prop := blastHarmsUptoRow.holds Tryd.pinned (OpenSpec.upto blastHarmsSpec)

/-- 'bolidelaw07.BlastTolls', WHERE WHAT IT READS IS OF BULK AT MOST 1048576: true; the input reads as it did. -/
def blastTollsUptoRow : OpenClaim := { program := "ytfjieblihbnmjaadoor", sum := "3972bd122966d51ba3ee0c05793450430ac163ba56c63f0d6f450d3c8054369f", func := "bolide/bolidelaw07.BlastTolls", spec := "blastTolls", inPlace := ["math/bits.Sub64"], unfollowed := true, recurses := true, named := ["bolide/blast.limits", "math/bits.divideError", "math/bits.overflowError"], apart := false, laid := [("bolide/blast.limits", laid_bolide_blast_limits)], narrowed := true }
def BlastTollsUptoSaid : Prop := blastTollsUptoRow.holds Tryd.pinned (OpenSpec.upto blastTollsSpec)

end Rows
end Go.Proofs.YtfjieblihbnmjaaDoor
