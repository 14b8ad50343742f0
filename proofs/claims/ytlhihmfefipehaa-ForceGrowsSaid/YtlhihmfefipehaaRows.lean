/-
  No cell of these rows narrows 'for every input' (looked for: loops, veiled, ifaces, maps, wideKeys, modest, calm, conditions, laid).
  DERIVED. THE GIVEN ROWS OF THIS SEAT. 7 by the template 'for every input the law returns true; each argument reads behind the call as it read before'; 0 by the template 'total and deterministic' (their statements: YtlhihmfefipehaaTotals.lean).
  GIVEN WITH THE SEED: the statements are not yours to turn. If you find one false, say at which input.
  Laid BY PROGRAM, IN A SANDBOX (cutbox-rows.mjs): the forced cells as the released guide's own fill.sh prints them over the translation f2282f19eade63b5… (all of the seat's roots in one cut). By AI agents, Wed Nov 11 2026. No macro, syntax, notation, axiom, sorry.
-/
import Derived.Test.YtlhihmfefipehaaChecked
import GoSem.Claim
import GoSem.ClaimJoined
import GoSem.ClaimMapViews
import Derived.JoinedTies
import Derived.KernelRfl
namespace Go.Proofs.Ytlhihmfefipehaa
/- THE CELL 'sum', in the pinned program and in every row, IS THE sha256 OF THE DUMP (.gsa) THAT YtlhihmfefipehaaProg.lean LOADS. Nothing in Lean hashes anything: it is a label: what it is worth is what the hold of that sum in a sandbox is worth. -/
noncomputable def Try.pinned : Pinned := { name := "ytlhihmfefipehaa", sum := "f2282f19eade63b59f79b3219b1ecde92d2028fa573b1bc13ce124eff7bdd55f", checked := Try.checked }
namespace Rows
def none {H : Type} : Left H := { results := [], args := [] }

/-- 'bolidelaw03.ForceKnown': WHATEVER THE INPUT: true; the input reads as it did. -/
def forceKnownSpec : ChangeSpec := { name := "forceKnown", fn := fun _ => fun
  | [] => { results := [.lit (.bool true)], args := [] }
  | _ => none }
def forceKnownRow : OpenClaim := { program := "ytlhihmfefipehaa", sum := "f2282f19eade63b59f79b3219b1ecde92d2028fa573b1bc13ce124eff7bdd55f", func := "bolide/bolidelaw03.ForceKnown", spec := "forceKnown", inPlace := ["math/bits.Sub64", "math/bits.Add64"], unfollowed := true, recurses := true, named := ["math/bits.divideError", "math/bits.overflowError"], apart := false }
def ForceKnownSaid : Prop := forceKnownRow.holds Try.pinned (OpenSpec.ofChange forceKnownSpec)

/-- ITS FALSE NEIGHBOUR: 'it returns false'. Refute it at one input. -/
def forceKnownWrong : ChangeSpec := { name := "forceKnown", fn := fun _ => fun
  | [] => { results := [.lit (.bool false)], args := [] }
  | _ => none }
def ForceKnownWrongFalsely : Prop := forceKnownRow.holds Try.pinned (OpenSpec.ofChange forceKnownWrong)

/-- 'bolidelaw03.ForceExact': WHATEVER THE INPUT: true; the input reads as it did. -/
def forceExactSpec : ChangeSpec := { name := "forceExact", fn := fun _ => fun
  | [d] => { results := [.lit (.bool true)], args := [d] }
  | _ => none }
def forceExactRow : OpenClaim := { program := "ytlhihmfefipehaa", sum := "f2282f19eade63b59f79b3219b1ecde92d2028fa573b1bc13ce124eff7bdd55f", func := "bolide/bolidelaw03.ForceExact", spec := "forceExact", inPlace := ["math/bits.Sub64", "math/bits.Add64"], unfollowed := true, recurses := true, named := ["math/bits.divideError", "math/bits.overflowError"], apart := false }
def ForceExactSaid : Prop := forceExactRow.holds Try.pinned (OpenSpec.ofChange forceExactSpec)

/-- ITS FALSE NEIGHBOUR: 'it returns false'. Refute it at one input. -/
def forceExactWrong : ChangeSpec := { name := "forceExact", fn := fun _ => fun
  | [d] => { results := [.lit (.bool false)], args := [d] }
  | _ => none }
def ForceExactWrongFalsely : Prop := forceExactRow.holds Try.pinned (OpenSpec.ofChange forceExactWrong)

/-- 'bolidelaw03.ForceInside': WHATEVER THE INPUT: true; the input reads as it did. -/
def forceInsideSpec : ChangeSpec := { name := "forceInside", fn := fun _ => fun
  | [d] => { results := [.lit (.bool true)], args := [d] }
  | _ => none }
def forceInsideRow : OpenClaim := { program := "ytlhihmfefipehaa", sum := "f2282f19eade63b59f79b3219b1ecde92d2028fa573b1bc13ce124eff7bdd55f", func := "bolide/bolidelaw03.ForceInside", spec := "forceInside", inPlace := ["math/bits.Sub64", "math/bits.Add64"], unfollowed := true, recurses := true, named := ["math/bits.divideError", "math/bits.overflowError"], apart := false }
def ForceInsideSaid : Prop := forceInsideRow.holds Try.pinned (OpenSpec.ofChange forceInsideSpec)

/-- ITS FALSE NEIGHBOUR: 'it returns false'. Refute it at one input. -/
def forceInsideWrong : ChangeSpec := { name := "forceInside", fn := fun _ => fun
  | [d] => { results := [.lit (.bool false)], args := [d] }
  | _ => none }
def ForceInsideWrongFalsely : Prop := forceInsideRow.holds Try.pinned (OpenSpec.ofChange forceInsideWrong)

/-- 'bolidelaw03.ForceSums': WHATEVER THE INPUT: true; the input reads as it did. -/
def forceSumsSpec : ChangeSpec := { name := "forceSums", fn := fun _ => fun
  | [d] => { results := [.lit (.bool true)], args := [d] }
  | _ => none }
def forceSumsRow : OpenClaim := { program := "ytlhihmfefipehaa", sum := "f2282f19eade63b59f79b3219b1ecde92d2028fa573b1bc13ce124eff7bdd55f", func := "bolide/bolidelaw03.ForceSums", spec := "forceSums", inPlace := ["math/bits.Sub64", "math/bits.Add64"], unfollowed := true, recurses := true, named := ["math/bits.divideError", "math/bits.overflowError"], apart := false }
def ForceSumsSaid : Prop := forceSumsRow.holds Try.pinned (OpenSpec.ofChange forceSumsSpec)

/-- ITS FALSE NEIGHBOUR: 'it returns false'. Refute it at one input. -/
def forceSumsWrong : ChangeSpec := { name := "forceSums", fn := fun _ => fun
  | [d] => { results := [.lit (.bool false)], args := [d] }
  | _ => none }
def ForceSumsWrongFalsely : Prop := forceSumsRow.holds Try.pinned (OpenSpec.ofChange forceSumsWrong)

/-- 'bolidelaw03.ForceMirrors': WHATEVER THE INPUT: true; the input reads as it did. -/
def forceMirrorsSpec : ChangeSpec := { name := "forceMirrors", fn := fun _ => fun
  | [d] => { results := [.lit (.bool true)], args := [d] }
  | _ => none }
def forceMirrorsRow : OpenClaim := { program := "ytlhihmfefipehaa", sum := "f2282f19eade63b59f79b3219b1ecde92d2028fa573b1bc13ce124eff7bdd55f", func := "bolide/bolidelaw03.ForceMirrors", spec := "forceMirrors", inPlace := ["math/bits.Sub64", "math/bits.Add64"], unfollowed := true, recurses := true, named := ["math/bits.divideError", "math/bits.overflowError"], apart := false }
def ForceMirrorsSaid : Prop := forceMirrorsRow.holds Try.pinned (OpenSpec.ofChange forceMirrorsSpec)

/-- ITS FALSE NEIGHBOUR: 'it returns false'. Refute it at one input. -/
def forceMirrorsWrong : ChangeSpec := { name := "forceMirrors", fn := fun _ => fun
  | [d] => { results := [.lit (.bool false)], args := [d] }
  | _ => none }
def ForceMirrorsWrongFalsely : Prop := forceMirrorsRow.holds Try.pinned (OpenSpec.ofChange forceMirrorsWrong)

/-- 'bolidelaw03.ForceGrows': WHATEVER THE INPUT: true; the input reads as it did. -/
def forceGrowsSpec : ChangeSpec := { name := "forceGrows", fn := fun _ => fun
  | [d1, d2, d3] => { results := [.lit (.bool true)], args := [d1, d2, d3] }
  | _ => none }
def forceGrowsRow : OpenClaim := { program := "ytlhihmfefipehaa", sum := "f2282f19eade63b59f79b3219b1ecde92d2028fa573b1bc13ce124eff7bdd55f", func := "bolide/bolidelaw03.ForceGrows", spec := "forceGrows", inPlace := ["math/bits.Sub64", "math/bits.Add64"], unfollowed := true, recurses := true, named := ["math/bits.divideError", "math/bits.overflowError"], apart := false }
def ForceGrowsSaid : Prop := forceGrowsRow.holds Try.pinned (OpenSpec.ofChange forceGrowsSpec)

/-- ITS FALSE NEIGHBOUR: 'it returns false'. Refute it at one input. -/
def forceGrowsWrong : ChangeSpec := { name := "forceGrows", fn := fun _ => fun
  | [d1, d2, d3] => { results := [.lit (.bool false)], args := [d1, d2, d3] }
  | _ => none }
def ForceGrowsWrongFalsely : Prop := forceGrowsRow.holds Try.pinned (OpenSpec.ofChange forceGrowsWrong)

/-- 'bolidelaw03.ForceEnergies': WHATEVER THE INPUT: true; the input reads as it did. -/
def forceEnergiesSpec : ChangeSpec := { name := "forceEnergies", fn := fun _ => fun
  | [d1, d2, d3, d4] => { results := [.lit (.bool true)], args := [d1, d2, d3, d4] }
  | _ => none }
def forceEnergiesRow : OpenClaim := { program := "ytlhihmfefipehaa", sum := "f2282f19eade63b59f79b3219b1ecde92d2028fa573b1bc13ce124eff7bdd55f", func := "bolide/bolidelaw03.ForceEnergies", spec := "forceEnergies", inPlace := ["math/bits.Sub64", "math/bits.Add64"], unfollowed := true, recurses := true, named := ["math/bits.divideError", "math/bits.overflowError"], apart := false }
def ForceEnergiesSaid : Prop := forceEnergiesRow.holds Try.pinned (OpenSpec.ofChange forceEnergiesSpec)

/-- ITS FALSE NEIGHBOUR: 'it returns false'. Refute it at one input. -/
def forceEnergiesWrong : ChangeSpec := { name := "forceEnergies", fn := fun _ => fun
  | [d1, d2, d3, d4] => { results := [.lit (.bool false)], args := [d1, d2, d3, d4] }
  | _ => none }
def ForceEnergiesWrongFalsely : Prop := forceEnergiesRow.holds Try.pinned (OpenSpec.ofChange forceEnergiesWrong)

/- THE SECOND FORM. 'bulk': how many values and letters a reading holds, each counted each time it is reached (what is shared counts as often as it is met; a slice's spare places count too). A statement '..UptoSaid' is the law's where the arguments, and the package variables that the reading takes, are together of bulk at most 1048576: NARROWER than '..Said'. Prove '..Said' where nothing that the law and all that it calls make is longer than what came in: it says more and counts as full. Else prove '..UptoSaid'. A law counts once. -/
mutual
def uptoBulk {H : Type} : DataW H → Nat
  | .lit (.string bytes) => bytes.length + 1
  | .lit _ => 1
  | .nil => 1
  | .ptr d => uptoBulk d + 1
  | .slice elems spare => uptoBulkAll elems + uptoBulkAll spare + 1
  | .agg parts => uptoBulkAll parts + 1
  | .iface _ d => uptoBulk d + 1
  | .map entries => uptoBulkEntries entries + 1
  | .held _ => 1
def uptoBulkAll {H : Type} : List (DataW H) → Nat
  | [] => 0
  | d :: r => uptoBulk d + uptoBulkAll r
def uptoBulkEntries {H : Type} : List (Lit × DataW H) → Nat
  | [] => 0
  | x :: r => uptoBulkEntry x + uptoBulkEntries r
def uptoBulkEntry {H : Type} : Lit × DataW H → Nat
  | (.string bytes, d) => bytes.length + uptoBulk d + 1
  | (_, d) => uptoBulk d + 1
 end
def uptoSmall : (H : Type) → List (DataW H) → Bool := fun _ ds => decide (uptoBulkAll ds ≤ 1048576)
def OpenSpec.upto (s : _root_.Go.ChangeSpec) : _root_.Go.OpenSpec := { _root_.Go.OpenSpec.ofChange s with cond := some uptoSmall }

/-- 'bolidelaw03.ForceKnown', WHERE WHAT IT READS IS OF BULK AT MOST 1048576: true; the input reads as it did. -/
def forceKnownUptoRow : OpenClaim := { program := "ytlhihmfefipehaa", sum := "f2282f19eade63b59f79b3219b1ecde92d2028fa573b1bc13ce124eff7bdd55f", func := "bolide/bolidelaw03.ForceKnown", spec := "forceKnown", inPlace := ["math/bits.Sub64", "math/bits.Add64"], unfollowed := true, recurses := true, named := ["math/bits.divideError", "math/bits.overflowError"], apart := false, narrowed := true }
def ForceKnownUptoSaid : Prop := forceKnownUptoRow.holds Try.pinned (OpenSpec.upto forceKnownSpec)

/-- 'bolidelaw03.ForceExact', WHERE WHAT IT READS IS OF BULK AT MOST 1048576: true; the input reads as it did. -/
def forceExactUptoRow : OpenClaim := { program := "ytlhihmfefipehaa", sum := "f2282f19eade63b59f79b3219b1ecde92d2028fa573b1bc13ce124eff7bdd55f", func := "bolide/bolidelaw03.ForceExact", spec := "forceExact", inPlace := ["math/bits.Sub64", "math/bits.Add64"], unfollowed := true, recurses := true, named := ["math/bits.divideError", "math/bits.overflowError"], apart := false, narrowed := true }
def ForceExactUptoSaid : Prop := forceExactUptoRow.holds Try.pinned (OpenSpec.upto forceExactSpec)

/-- 'bolidelaw03.ForceInside', WHERE WHAT IT READS IS OF BULK AT MOST 1048576: true; the input reads as it did. -/
def forceInsideUptoRow : OpenClaim := { program := "ytlhihmfefipehaa", sum := "f2282f19eade63b59f79b3219b1ecde92d2028fa573b1bc13ce124eff7bdd55f", func := "bolide/bolidelaw03.ForceInside", spec := "forceInside", inPlace := ["math/bits.Sub64", "math/bits.Add64"], unfollowed := true, recurses := true, named := ["math/bits.divideError", "math/bits.overflowError"], apart := false, narrowed := true }
def ForceInsideUptoSaid : Prop := forceInsideUptoRow.holds Try.pinned (OpenSpec.upto forceInsideSpec)

/-- 'bolidelaw03.ForceSums', WHERE WHAT IT READS IS OF BULK AT MOST 1048576: true; the input reads as it did. -/
def forceSumsUptoRow : OpenClaim := { program := "ytlhihmfefipehaa", sum := "f2282f19eade63b59f79b3219b1ecde92d2028fa573b1bc13ce124eff7bdd55f", func := "bolide/bolidelaw03.ForceSums", spec := "forceSums", inPlace := ["math/bits.Sub64", "math/bits.Add64"], unfollowed := true, recurses := true, named := ["math/bits.divideError", "math/bits.overflowError"], apart := false, narrowed := true }
def ForceSumsUptoSaid : Prop := forceSumsUptoRow.holds Try.pinned (OpenSpec.upto forceSumsSpec)

/-- 'bolidelaw03.ForceMirrors', WHERE WHAT IT READS IS OF BULK AT MOST 1048576: true; the input reads as it did. -/
def forceMirrorsUptoRow : OpenClaim := { program := "ytlhihmfefipehaa", sum := "f2282f19eade63b59f79b3219b1ecde92d2028fa573b1bc13ce124eff7bdd55f", func := "bolide/bolidelaw03.ForceMirrors", spec := "forceMirrors", inPlace := ["math/bits.Sub64", "math/bits.Add64"], unfollowed := true, recurses := true, named := ["math/bits.divideError", "math/bits.overflowError"], apart := false, narrowed := true }
def ForceMirrorsUptoSaid : Prop := forceMirrorsUptoRow.holds Try.pinned (OpenSpec.upto forceMirrorsSpec)

/-- 'bolidelaw03.ForceGrows', WHERE WHAT IT READS IS OF BULK AT MOST 1048576: true; the input reads as it did. -/
def forceGrowsUptoRow : OpenClaim := { program := "ytlhihmfefipehaa", sum := "f2282f19eade63b59f79b3219b1ecde92d2028fa573b1bc13ce124eff7bdd55f", func := "bolide/bolidelaw03.ForceGrows", spec := "forceGrows", inPlace := ["math/bits.Sub64", "math/bits.Add64"], unfollowed := true, recurses := true, named := ["math/bits.divideError", "math/bits.overflowError"], apart := false, narrowed := true }
def ForceGrowsUptoSaid : Prop := forceGrowsUptoRow.holds Try.pinned (OpenSpec.upto forceGrowsSpec)

/-- 'bolidelaw03.ForceEnergies', WHERE WHAT IT READS IS OF BULK AT MOST 1048576: true; the input reads as it did. -/
def forceEnergiesUptoRow : OpenClaim := { program := "ytlhihmfefipehaa", sum := "f2282f19eade63b59f79b3219b1ecde92d2028fa573b1bc13ce124eff7bdd55f", func := "bolide/bolidelaw03.ForceEnergies", spec := "forceEnergies", inPlace := ["math/bits.Sub64", "math/bits.Add64"], unfollowed := true, recurses := true, named := ["math/bits.divideError", "math/bits.overflowError"], apart := false, narrowed := true }
def ForceEnergiesUptoSaid : Prop := forceEnergiesUptoRow.holds Try.pinned (OpenSpec.upto forceEnergiesSpec)

end Rows
end Go.Proofs.Ytlhihmfefipehaa
