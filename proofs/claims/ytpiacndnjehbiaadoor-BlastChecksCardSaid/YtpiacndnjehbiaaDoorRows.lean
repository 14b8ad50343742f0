/-
  NARROWER THAN 'FOR EVERY INPUT', by the rows' own cells (each row's printed sentence says how): BlastChecks: laid · BlastSole: laid · BlastOrders: laid · BlastReaches: laid.
  DERIVED. THE GIVEN ROWS OF THIS SEAT. 4 by the template 'for every input the law returns true; each argument reads behind the call as it read before'; 0 by the template 'total and deterministic' (their statements: YtpiacndnjehbiaaDoorTotals.lean).
  GIVEN WITH THE SEED: the statements are not yours to turn. If you find one false, say at which input.
  Laid BY PROGRAM, IN A SANDBOX (cutbox-rows.mjs): the forced cells as the released guide's own fill.sh prints them over the translation 65d416c009f4b19c… (all of the seat's roots in one cut). By AI agents, Wed Nov 11 2026. No macro, syntax, notation, axiom, sorry.
-/
import Derived.Test.YtpiacndnjehbiaaDoorChecked
import GoSem.Claim
import GoSem.ClaimJoined
import GoSem.ClaimMapViews
import Derived.JoinedTies
import Derived.KernelRfl
namespace Go.Proofs.YtpiacndnjehbiaaDoor
/- THE CELL 'sum', in the pinned program and in every row, IS THE sha256 OF THE DUMP (.gsa) THAT YtpiacndnjehbiaaDoorProg.lean LOADS. Nothing in Lean hashes anything: it is a label: what it is worth is what the hold of that sum in a sandbox is worth. -/
noncomputable def Tryd.pinned : Pinned := { name := "ytpiacndnjehbiaadoor", sum := "65d416c009f4b19cf6194aa2a351a07cabf4439feae7fba0a7dc38c70bf0fc42", checked := Tryd.checked }
namespace Rows
def none {H : Type} : Left H := { results := [], args := [] }

/- WHAT THE LISTED PACKAGE-LEVEL VARIABLES READ AS WHEN THE CALL BEGINS. Each datum BY PROGRAM (the guide's laid-datum.mjs) off the statement by which the dump's own 'gosem.cut.vars' lays the variable. In a bare row this is a premise. The card (YtpiacndnjehbiaaDoorCards.lean) ties it to the program's text. -/
def laid_bolide_blast_limits {H : Type} : DataW H := .agg [.agg [.lit (.int .i64 1), .lit (.int .i64 1000)], .agg [.lit (.int .i64 1), .lit (.int .i64 9000)], .agg [.lit (.int .i64 0), .lit (.int .i64 1099511627776)], .agg [.lit (.int .i64 0), .lit (.int .i64 1000)], .agg [.lit (.int .i64 500), .lit (.int .i64 2000)], .agg [.lit (.int .i64 1), .lit (.int .i64 8000)], .agg [.lit (.int .i64 1), .lit (.int .i64 1000)]]

/-- 'bolidelaw07.BlastChecks': WHATEVER THE INPUT: true; the input reads as it did. -/
def blastChecksSpec : ChangeSpec := { name := "blastChecks", fn := fun _ => fun
  | [d1, d2, d3, d4, d5] => { results := [.lit (.bool true)], args := [d1, d2, d3, d4, d5] }
  | _ => none }
def blastChecksRow : OpenClaim := { program := "ytpiacndnjehbiaadoor", sum := "65d416c009f4b19cf6194aa2a351a07cabf4439feae7fba0a7dc38c70bf0fc42", func := "bolide/bolidelaw07.BlastChecks", spec := "blastChecks", inPlace := ["math/bits.Sub64"], unfollowed := true, recurses := true, named := ["bolide/blast.limits", "math/bits.divideError", "math/bits.overflowError"], apart := false, laid := [("bolide/blast.limits", laid_bolide_blast_limits)] }
def BlastChecksSaid : Prop := blastChecksRow.holds Tryd.pinned (OpenSpec.ofChange blastChecksSpec)

/-- ITS FALSE NEIGHBOUR: 'it returns false'. Refute it at one input. -/
def blastChecksWrong : ChangeSpec := { name := "blastChecks", fn := fun _ => fun
  | [d1, d2, d3, d4, d5] => { results := [.lit (.bool false)], args := [d1, d2, d3, d4, d5] }
  | _ => none }
def BlastChecksWrongFalsely : Prop := blastChecksRow.holds Tryd.pinned (OpenSpec.ofChange blastChecksWrong)

/-- 'bolidelaw07.BlastSole': WHATEVER THE INPUT: true; the input reads as it did. -/
def blastSoleSpec : ChangeSpec := { name := "blastSole", fn := fun _ => fun
  | [d] => { results := [.lit (.bool true)], args := [d] }
  | _ => none }
def blastSoleRow : OpenClaim := { program := "ytpiacndnjehbiaadoor", sum := "65d416c009f4b19cf6194aa2a351a07cabf4439feae7fba0a7dc38c70bf0fc42", func := "bolide/bolidelaw07.BlastSole", spec := "blastSole", inPlace := ["math/bits.Sub64"], unfollowed := true, recurses := true, named := ["bolide/blast.limits", "math/bits.divideError", "math/bits.overflowError"], apart := false, laid := [("bolide/blast.limits", laid_bolide_blast_limits)] }
def BlastSoleSaid : Prop := blastSoleRow.holds Tryd.pinned (OpenSpec.ofChange blastSoleSpec)

/-- ITS FALSE NEIGHBOUR: 'it returns false'. Refute it at one input. -/
def blastSoleWrong : ChangeSpec := { name := "blastSole", fn := fun _ => fun
  | [d] => { results := [.lit (.bool false)], args := [d] }
  | _ => none }
def BlastSoleWrongFalsely : Prop := blastSoleRow.holds Tryd.pinned (OpenSpec.ofChange blastSoleWrong)

/-- 'bolidelaw07.BlastOrders': WHATEVER THE INPUT: true; the input reads as it did. -/
def blastOrdersSpec : ChangeSpec := { name := "blastOrders", fn := fun _ => fun
  | [d1, d2, d3, d4] => { results := [.lit (.bool true)], args := [d1, d2, d3, d4] }
  | _ => none }
def blastOrdersRow : OpenClaim := { program := "ytpiacndnjehbiaadoor", sum := "65d416c009f4b19cf6194aa2a351a07cabf4439feae7fba0a7dc38c70bf0fc42", func := "bolide/bolidelaw07.BlastOrders", spec := "blastOrders", inPlace := ["math/bits.Sub64"], unfollowed := true, recurses := true, named := ["bolide/blast.limits", "math/bits.divideError", "math/bits.overflowError"], apart := false, laid := [("bolide/blast.limits", laid_bolide_blast_limits)] }
def BlastOrdersSaid : Prop := blastOrdersRow.holds Tryd.pinned (OpenSpec.ofChange blastOrdersSpec)

/-- ITS FALSE NEIGHBOUR: 'it returns false'. Refute it at one input. -/
def blastOrdersWrong : ChangeSpec := { name := "blastOrders", fn := fun _ => fun
  | [d1, d2, d3, d4] => { results := [.lit (.bool false)], args := [d1, d2, d3, d4] }
  | _ => none }
def BlastOrdersWrongFalsely : Prop := blastOrdersRow.holds Tryd.pinned (OpenSpec.ofChange blastOrdersWrong)

/-- 'bolidelaw07.BlastReaches': WHATEVER THE INPUT: true; the input reads as it did. -/
def blastReachesSpec : ChangeSpec := { name := "blastReaches", fn := fun _ => fun
  | [d1, d2, d3, d4, d5] => { results := [.lit (.bool true)], args := [d1, d2, d3, d4, d5] }
  | _ => none }
def blastReachesRow : OpenClaim := { program := "ytpiacndnjehbiaadoor", sum := "65d416c009f4b19cf6194aa2a351a07cabf4439feae7fba0a7dc38c70bf0fc42", func := "bolide/bolidelaw07.BlastReaches", spec := "blastReaches", inPlace := ["math/bits.Sub64"], unfollowed := true, recurses := true, named := ["bolide/blast.limits", "math/bits.divideError", "math/bits.overflowError"], apart := false, laid := [("bolide/blast.limits", laid_bolide_blast_limits)] }
def BlastReachesSaid : Prop := blastReachesRow.holds Tryd.pinned (OpenSpec.ofChange blastReachesSpec)

/-- ITS FALSE NEIGHBOUR: 'it returns false'. Refute it at one input. -/
def blastReachesWrong : ChangeSpec := { name := "blastReaches", fn := fun _ => fun
  | [d1, d2, d3, d4, d5] => { results := [.lit (.bool false)], args := [d1, d2, d3, d4, d5] }
  | _ => none }
def BlastReachesWrongFalsely : Prop := blastReachesRow.holds Tryd.pinned (OpenSpec.ofChange blastReachesWrong)

/- THE SECOND FORM. 'bulk': how many values and letters a reading holds, each counted each time it is reached (what is shared counts as often as it is met; a slice's spare places count too). A statement '..UptoSaid' is the law's where the arguments, and the package variables that the reading takes, are together of bulk at most 1048576: NARROWER than '..Said'. Prove '..Said' where nothing that the law and all that it calls make is longer than what came in: it says more and counts as full. Else prove '..UptoSaid'. A law counts once. -/
mutual
def uptoBulk {H : Type} : DataW H → Nat
  | .lit (.string bytes) => bytes.length + 1
  | .lit _ => 1
  | .nil => 1
  | .ptr d => uptoBulk d + 1
  | .slice elems spare => uptoBulkAll elems + uptoBulkAll spare + 1
  | .agg parts => uptoBulkAll parts + 1
  | .iface _ d => uptoBulk d + 1
  | .map entries => uptoBulkEntries entries + 1
  | .held _ => 1
def uptoBulkAll {H : Type} : List (DataW H) → Nat
  | [] => 0
  | d :: r => uptoBulk d + uptoBulkAll r
def uptoBulkEntries {H : Type} : List (Lit × DataW H) → Nat
  | [] => 0
  | x :: r => uptoBulkEntry x + uptoBulkEntries r
def uptoBulkEntry {H : Type} : Lit × DataW H → Nat
  | (.string bytes, d) => bytes.length + uptoBulk d + 1
  | (_, d) => uptoBulk d + 1
 end
def uptoSmall : (H : Type) → List (DataW H) → Bool := fun _ ds => decide (uptoBulkAll ds ≤ 1048576)
def OpenSpec.upto (s : _root_.Go.ChangeSpec) : _root_.Go.OpenSpec := { _root_.Go.OpenSpec.ofChange s with cond := some uptoSmall }

/-- 'bolidelaw07.BlastChecks', WHERE WHAT IT READS IS OF BULK AT MOST 1048576: true; the input reads as it did. -/
def blastChecksUptoRow : OpenClaim := { program := "ytpiacndnjehbiaadoor", sum := "65d416c009f4b19cf6194aa2a351a07cabf4439feae7fba0a7dc38c70bf0fc42", func := "bolide/bolidelaw07.BlastChecks", spec := "blastChecks", inPlace := ["math/bits.Sub64"], unfollowed := true, recurses := true, named := ["bolide/blast.limits", "math/bits.divideError", "math/bits.overflowError"], apart := false, laid := [("bolide/blast.limits", laid_bolide_blast_limits)], narrowed := true }
def BlastChecksUptoSaid : Prop := blastChecksUptoRow.holds Tryd.pinned (OpenSpec.upto blastChecksSpec)

/-- 'bolidelaw07.BlastSole', WHERE WHAT IT READS IS OF BULK AT MOST 1048576: true; the input reads as it did. -/
def blastSoleUptoRow : OpenClaim := { program := "ytpiacndnjehbiaadoor", sum := "65d416c009f4b19cf6194aa2a351a07cabf4439feae7fba0a7dc38c70bf0fc42", func := "bolide/bolidelaw07.BlastSole", spec := "blastSole", inPlace := ["math/bits.Sub64"], unfollowed := true, recurses := true, named := ["bolide/blast.limits", "math/bits.divideError", "math/bits.overflowError"], apart := false, laid := [("bolide/blast.limits", laid_bolide_blast_limits)], narrowed := true }
def BlastSoleUptoSaid : Prop := blastSoleUptoRow.holds Tryd.pinned (OpenSpec.upto blastSoleSpec)

/-- 'bolidelaw07.BlastOrders', WHERE WHAT IT READS IS OF BULK AT MOST 1048576: true; the input reads as it did. -/
def blastOrdersUptoRow : OpenClaim := { program := "ytpiacndnjehbiaadoor", sum := "65d416c009f4b19cf6194aa2a351a07cabf4439feae7fba0a7dc38c70bf0fc42", func := "bolide/bolidelaw07.BlastOrders", spec := "blastOrders", inPlace := ["math/bits.Sub64"], unfollowed := true, recurses := true, named := ["bolide/blast.limits", "math/bits.divideError", "math/bits.overflowError"], apart := false, laid := [("bolide/blast.limits", laid_bolide_blast_limits)], narrowed := true }
def BlastOrdersUptoSaid : Prop := blastOrdersUptoRow.holds Tryd.pinned (OpenSpec.upto blastOrdersSpec)

/-- 'bolidelaw07.BlastReaches', WHERE WHAT IT READS IS OF BULK AT MOST 1048576: true; the input reads as it did. -/
def blastReachesUptoRow : OpenClaim := { program := "ytpiacndnjehbiaadoor", sum := "65d416c009f4b19cf6194aa2a351a07cabf4439feae7fba0a7dc38c70bf0fc42", func := "bolide/bolidelaw07.BlastReaches", spec := "blastReaches", inPlace := ["math/bits.Sub64"], unfollowed := true, recurses := true, named := ["bolide/blast.limits", "math/bits.divideError", "math/bits.overflowError"], apart := false, laid := [("bolide/blast.limits", laid_bolide_blast_limits)], narrowed := true }
def BlastReachesUptoSaid : Prop := blastReachesUptoRow.holds Tryd.pinned (OpenSpec.upto blastReachesSpec)

end Rows
end Go.Proofs.YtpiacndnjehbiaaDoor
