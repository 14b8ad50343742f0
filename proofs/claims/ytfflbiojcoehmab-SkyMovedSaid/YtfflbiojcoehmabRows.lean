/-
  No cell of these rows narrows 'for every input' (looked for: loops, veiled, ifaces, maps, wideKeys, modest, calm, conditions, laid).
  DERIVED. THE GIVEN ROWS OF THIS SEAT. 4 by the template 'for every input the law returns true; each argument reads behind the call as it read before'; 0 by the template 'total and deterministic' (their statements: YtfflbiojcoehmabTotals.lean).
  GIVEN WITH THE SEED: the statements are not yours to turn. If you find one false, say at which input.
  Laid BY PROGRAM, IN A SANDBOX (cutbox-rows.mjs): the forced cells as the released guide's own fill.sh prints them over the translation 9c28e3d3fe89e72c… (all of the seat's roots in one cut). By AI agents, Wed Nov 11 2026. No macro, syntax, notation, axiom, sorry.
-/
import Derived.Test.YtfflbiojcoehmabChecked
import GoSem.Claim
import GoSem.ClaimJoined
import GoSem.ClaimMapViews
import Derived.JoinedTies
import Derived.KernelRfl
namespace Go.Proofs.Ytfflbiojcoehmab
/- THE CELL 'sum', in the pinned program and in every row, IS THE sha256 OF THE DUMP (.gsa) THAT YtfflbiojcoehmabProg.lean LOADS. Nothing in Lean hashes anything: it is a label: what it is worth is what the hold of that sum in a sandbox is worth. -/
noncomputable def Try.pinned : Pinned := { name := "ytfflbiojcoehmab", sum := "9c28e3d3fe89e72c6deb5493384bd8a05cb7cd261a4a527e7dccd9a0bda7bd5c", checked := Try.checked }
namespace Rows
def none {H : Type} : Left H := { results := [], args := [] }

/-- 'bolidelaw02.SkyChecks': WHATEVER THE INPUT: true; the input reads as it did. -/
def skyChecksSpec : ChangeSpec := { name := "skyChecks", fn := fun _ => fun
  | [d1, d2, d3, d4] => { results := [.lit (.bool true)], args := [d1, d2, d3, d4] }
  | _ => none }
def skyChecksRow : OpenClaim := { program := "ytfflbiojcoehmab", sum := "9c28e3d3fe89e72c6deb5493384bd8a05cb7cd261a4a527e7dccd9a0bda7bd5c", func := "bolide/bolidelaw02.SkyChecks", spec := "skyChecks", unfollowed := true, recurses := true, apart := false }
def SkyChecksSaid : Prop := skyChecksRow.holds Try.pinned (OpenSpec.ofChange skyChecksSpec)

/-- ITS FALSE NEIGHBOUR: 'it returns false'. Refute it at one input. -/
def skyChecksWrong : ChangeSpec := { name := "skyChecks", fn := fun _ => fun
  | [d1, d2, d3, d4] => { results := [.lit (.bool false)], args := [d1, d2, d3, d4] }
  | _ => none }
def SkyChecksWrongFalsely : Prop := skyChecksRow.holds Try.pinned (OpenSpec.ofChange skyChecksWrong)

/-- 'bolidelaw02.SkyLooks': WHATEVER THE INPUT: true; the input reads as it did. -/
def skyLooksSpec : ChangeSpec := { name := "skyLooks", fn := fun _ => fun
  | [d1, d2, d3] => { results := [.lit (.bool true)], args := [d1, d2, d3] }
  | _ => none }
def skyLooksRow : OpenClaim := { program := "ytfflbiojcoehmab", sum := "9c28e3d3fe89e72c6deb5493384bd8a05cb7cd261a4a527e7dccd9a0bda7bd5c", func := "bolide/bolidelaw02.SkyLooks", spec := "skyLooks", unfollowed := true, recurses := true, apart := false }
def SkyLooksSaid : Prop := skyLooksRow.holds Try.pinned (OpenSpec.ofChange skyLooksSpec)

/-- ITS FALSE NEIGHBOUR: 'it returns false'. Refute it at one input. -/
def skyLooksWrong : ChangeSpec := { name := "skyLooks", fn := fun _ => fun
  | [d1, d2, d3] => { results := [.lit (.bool false)], args := [d1, d2, d3] }
  | _ => none }
def SkyLooksWrongFalsely : Prop := skyLooksRow.holds Try.pinned (OpenSpec.ofChange skyLooksWrong)

/-- 'bolidelaw02.SkyMoved': WHATEVER THE INPUT: true; the input reads as it did. -/
def skyMovedSpec : ChangeSpec := { name := "skyMoved", fn := fun _ => fun
  | [d1, d2, d3, d4, d5, d6] => { results := [.lit (.bool true)], args := [d1, d2, d3, d4, d5, d6] }
  | _ => none }
def skyMovedRow : OpenClaim := { program := "ytfflbiojcoehmab", sum := "9c28e3d3fe89e72c6deb5493384bd8a05cb7cd261a4a527e7dccd9a0bda7bd5c", func := "bolide/bolidelaw02.SkyMoved", spec := "skyMoved", unfollowed := true, recurses := true, apart := false }
def SkyMovedSaid : Prop := skyMovedRow.holds Try.pinned (OpenSpec.ofChange skyMovedSpec)

/-- ITS FALSE NEIGHBOUR: 'it returns false'. Refute it at one input. -/
def skyMovedWrong : ChangeSpec := { name := "skyMoved", fn := fun _ => fun
  | [d1, d2, d3, d4, d5, d6] => { results := [.lit (.bool false)], args := [d1, d2, d3, d4, d5, d6] }
  | _ => none }
def SkyMovedWrongFalsely : Prop := skyMovedRow.holds Try.pinned (OpenSpec.ofChange skyMovedWrong)

/-- 'bolidelaw02.SkyOutside': WHATEVER THE INPUT: true; the input reads as it did. -/
def skyOutsideSpec : ChangeSpec := { name := "skyOutside", fn := fun _ => fun
  | [d1, d2, d3, d4, d5, d6, d7] => { results := [.lit (.bool true)], args := [d1, d2, d3, d4, d5, d6, d7] }
  | _ => none }
def skyOutsideRow : OpenClaim := { program := "ytfflbiojcoehmab", sum := "9c28e3d3fe89e72c6deb5493384bd8a05cb7cd261a4a527e7dccd9a0bda7bd5c", func := "bolide/bolidelaw02.SkyOutside", spec := "skyOutside", unfollowed := true, recurses := true, apart := false }
def SkyOutsideSaid : Prop := skyOutsideRow.holds Try.pinned (OpenSpec.ofChange skyOutsideSpec)

/-- ITS FALSE NEIGHBOUR: 'it returns false'. Refute it at one input. -/
def skyOutsideWrong : ChangeSpec := { name := "skyOutside", fn := fun _ => fun
  | [d1, d2, d3, d4, d5, d6, d7] => { results := [.lit (.bool false)], args := [d1, d2, d3, d4, d5, d6, d7] }
  | _ => none }
def SkyOutsideWrongFalsely : Prop := skyOutsideRow.holds Try.pinned (OpenSpec.ofChange skyOutsideWrong)

/- THE SECOND FORM. 'bulk': how many values and letters a reading holds, each counted each time it is reached (what is shared counts as often as it is met; a slice's spare places count too). A statement '..UptoSaid' is the law's where the arguments, and the package variables that the reading takes, are together of bulk at most 1048576: NARROWER than '..Said'. Prove '..Said' where nothing that the law and all that it calls make is longer than what came in: it says more and counts as full. Else prove '..UptoSaid'. A law counts once. -/
mutual
def uptoBulk {H : Type} : DataW H → Nat
  | .lit (.string bytes) => bytes.length + 1
  | .lit _ => 1
  | .nil => 1
  | .ptr d => uptoBulk d + 1
  | .slice elems spare => uptoBulkAll elems + uptoBulkAll spare + 1
  | .agg parts => uptoBulkAll parts + 1
  | .iface _ d => uptoBulk d + 1
  | .map entries => uptoBulkEntries entries + 1
  | .held _ => 1
def uptoBulkAll {H : Type} : List (DataW H) → Nat
  | [] => 0
  | d :: r => uptoBulk d + uptoBulkAll r
def uptoBulkEntries {H : Type} : List (Lit × DataW H) → Nat
  | [] => 0
  | x :: r => uptoBulkEntry x + uptoBulkEntries r
def uptoBulkEntry {H : Type} : Lit × DataW H → Nat
  | (.string bytes, d) => bytes.length + uptoBulk d + 1
  | (_, d) => uptoBulk d + 1
 end
def uptoSmall : (H : Type) → List (DataW H) → Bool := fun _ ds => decide (uptoBulkAll ds ≤ 1048576)
def OpenSpec.upto (s : _root_.Go.ChangeSpec) : _root_.Go.OpenSpec := { _root_.Go.OpenSpec.ofChange s with cond := some uptoSmall }

/-- 'bolidelaw02.SkyChecks', WHERE WHAT IT READS IS OF BULK AT MOST 1048576: true; the input reads as it did. -/
def skyChecksUptoRow : OpenClaim := { program := "ytfflbiojcoehmab", sum := "9c28e3d3fe89e72c6deb5493384bd8a05cb7cd261a4a527e7dccd9a0bda7bd5c", func := "bolide/bolidelaw02.SkyChecks", spec := "skyChecks", unfollowed := true, recurses := true, apart := false, narrowed := true }
def SkyChecksUptoSaid : Prop := skyChecksUptoRow.holds Try.pinned (OpenSpec.upto skyChecksSpec)

/-- 'bolidelaw02.SkyLooks', WHERE WHAT IT READS IS OF BULK AT MOST 1048576: true; the input reads as it did. -/
def skyLooksUptoRow : OpenClaim := { program := "ytfflbiojcoehmab", sum := "9c28e3d3fe89e72c6deb5493384bd8a05cb7cd261a4a527e7dccd9a0bda7bd5c", func := "bolide/bolidelaw02.SkyLooks", spec := "skyLooks", unfollowed := true, recurses := true, apart := false, narrowed := true }
def SkyLooksUptoSaid : Prop := skyLooksUptoRow.holds Try.pinned (OpenSpec.upto skyLooksSpec)

/-- 'bolidelaw02.SkyMoved', WHERE WHAT IT READS IS OF BULK AT MOST 1048576: true; the input reads as it did. -/
def skyMovedUptoRow : OpenClaim := { program := "ytfflbiojcoehmab", sum := "9c28e3d3fe89e72c6deb5493384bd8a05cb7cd261a4a527e7dccd9a0bda7bd5c", func := "bolide/bolidelaw02.SkyMoved", spec := "skyMoved", unfollowed := true, recurses := true, apart := false, narrowed := true }
def SkyMovedUptoSaid : Prop := skyMovedUptoRow.holds Try.pinned (OpenSpec.upto skyMovedSpec)

/-- 'bolidelaw02.SkyOutside', WHERE WHAT IT READS IS OF BULK AT MOST 1048576: true; the input reads as it did. -/
def skyOutsideUptoRow : OpenClaim := { program := "ytfflbiojcoehmab", sum := "9c28e3d3fe89e72c6deb5493384bd8a05cb7cd261a4a527e7dccd9a0bda7bd5c", func := "bolide/bolidelaw02.SkyOutside", spec := "skyOutside", unfollowed := true, recurses := true, apart := false, narrowed := true }
def SkyOutsideUptoSaid : Prop := skyOutsideUptoRow.holds Try.pinned (OpenSpec.upto skyOutsideSpec)

end Rows
end Go.Proofs.Ytfflbiojcoehmab
