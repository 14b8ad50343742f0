/-
  DERIVED. GIVEN WITH THE SEED: THE CARDS: each row of YtlmhbggigbmeaaaDoorRows.lean that lists a variable, with what it lists TIED to the program's text (the seventh form; the later family's looks); each row that meets fmt, with fmt's text TOLD by the authors' own Lean function (tested against real Go, not proved from fmt's source: count such statements apart). THE CARD IS WHAT COUNTS. Prove the row's statement (the work); the ties are given (YtlmhbggigbmeaaaDoorTie.lean); close each card by the builder's one call (the guide's Derived/Test/ToyasCard.lean, 'card_holds'). Laid BY PROGRAM, IN A SANDBOX (cutbox-door.mjs). By AI agents, Wed Nov 11 2026. No macro, syntax, notation, axiom, sorry.
-/
import Derived.Test.YtlmhbggigbmeaaaDoorRows
import GoSem.ClaimSeven
namespace Go.Proofs.YtlmhbggigbmeaaaDoor
namespace Rows

/-- THE TIED CARD OF 'bolidelaw07.BlastTolls'. -/
def blastTollsCard : Claim7 := { stood := { row := blastTollsRow, standIns := [], harness := (true, "aef36a8adaf1d9ab3e2c22f9c8e8e46539002d42e97b9ae43a82d8b1983b2de4"), looks := false }, kinds := [], alts := [], laidByText := true, laidKinds := [.data], laidTests := true, laidLooks := .later }
def BlastTollsCardSaid : Prop := Claim7.holds Tryd.pinned (.plain (OpenSpec.ofChange blastTollsSpec)) blastTollsCard

/-- THE TIED CARD OF 'bolidelaw07.BlastKnown'. -/
def blastKnownCard : Claim7 := { stood := { row := blastKnownRow, standIns := [], harness := (true, "aef36a8adaf1d9ab3e2c22f9c8e8e46539002d42e97b9ae43a82d8b1983b2de4"), looks := false }, kinds := [], alts := [], laidByText := true, laidKinds := [.data], laidTests := true, laidLooks := .later }
def BlastKnownCardSaid : Prop := Claim7.holds Tryd.pinned (.plain (OpenSpec.ofChange blastKnownSpec)) blastKnownCard

/-- THE TIED CARD OF 'bolidelaw07.BlastEncloses'. -/
def blastEnclosesCard : Claim7 := { stood := { row := blastEnclosesRow, standIns := [], harness := (true, "aef36a8adaf1d9ab3e2c22f9c8e8e46539002d42e97b9ae43a82d8b1983b2de4"), looks := false }, kinds := [], alts := [], laidByText := true, laidKinds := [.data], laidTests := true, laidLooks := .later }
def BlastEnclosesCardSaid : Prop := Claim7.holds Tryd.pinned (.plain (OpenSpec.ofChange blastEnclosesSpec)) blastEnclosesCard

/-- THE TIED CARD OF 'bolidelaw07.BlastInside'. -/
def blastInsideCard : Claim7 := { stood := { row := blastInsideRow, standIns := [], harness := (true, "aef36a8adaf1d9ab3e2c22f9c8e8e46539002d42e97b9ae43a82d8b1983b2de4"), looks := false }, kinds := [], alts := [], laidByText := true, laidKinds := [.data], laidTests := true, laidLooks := .later }
def BlastInsideCardSaid : Prop := Claim7.holds Tryd.pinned (.plain (OpenSpec.ofChange blastInsideSpec)) blastInsideCard

/-- THE TIED CARD OF 'bolidelaw07.BlastWorst'. -/
def blastWorstCard : Claim7 := { stood := { row := blastWorstRow, standIns := [], harness := (true, "aef36a8adaf1d9ab3e2c22f9c8e8e46539002d42e97b9ae43a82d8b1983b2de4"), looks := false }, kinds := [], alts := [], laidByText := true, laidKinds := [.data], laidTests := true, laidLooks := .later }
def BlastWorstCardSaid : Prop := Claim7.holds Tryd.pinned (.plain (OpenSpec.ofChange blastWorstSpec)) blastWorstCard

/-- THE SECOND FORM's CARD OF 'bolidelaw07.BlastTolls'. -/
def blastTollsUptoCard : Claim7 := { stood := { row := blastTollsUptoRow, standIns := [], harness := (true, "aef36a8adaf1d9ab3e2c22f9c8e8e46539002d42e97b9ae43a82d8b1983b2de4"), looks := false }, kinds := [], alts := [], laidByText := true, laidKinds := [.data], laidTests := true, laidLooks := .later }
def BlastTollsUptoCardSaid : Prop := Claim7.holds Tryd.pinned (.plain (OpenSpec.upto blastTollsSpec)) blastTollsUptoCard

/-- THE SECOND FORM's CARD OF 'bolidelaw07.BlastKnown'. -/
def blastKnownUptoCard : Claim7 := { stood := { row := blastKnownUptoRow, standIns := [], harness := (true, "aef36a8adaf1d9ab3e2c22f9c8e8e46539002d42e97b9ae43a82d8b1983b2de4"), looks := false }, kinds := [], alts := [], laidByText := true, laidKinds := [.data], laidTests := true, laidLooks := .later }
def BlastKnownUptoCardSaid : Prop := Claim7.holds Tryd.pinned (.plain (OpenSpec.upto blastKnownSpec)) blastKnownUptoCard

/-- THE SECOND FORM's CARD OF 'bolidelaw07.BlastEncloses'. -/
def blastEnclosesUptoCard : Claim7 := { stood := { row := blastEnclosesUptoRow, standIns := [], harness := (true, "aef36a8adaf1d9ab3e2c22f9c8e8e46539002d42e97b9ae43a82d8b1983b2de4"), looks := false }, kinds := [], alts := [], laidByText := true, laidKinds := [.data], laidTests := true, laidLooks := .later }
def BlastEnclosesUptoCardSaid : Prop := Claim7.holds Tryd.pinned (.plain (OpenSpec.upto blastEnclosesSpec)) blastEnclosesUptoCard

/-- THE SECOND FORM's CARD OF 'bolidelaw07.BlastInside'. -/
def blastInsideUptoCard : Claim7 := { stood := { row := blastInsideUptoRow, standIns := [], harness := (true, "aef36a8adaf1d9ab3e2c22f9c8e8e46539002d42e97b9ae43a82d8b1983b2de4"), looks := false }, kinds := [], alts := [], laidByText := true, laidKinds := [.data], laidTests := true, laidLooks := .later }
def BlastInsideUptoCardSaid : Prop := Claim7.holds Tryd.pinned (.plain (OpenSpec.upto blastInsideSpec)) blastInsideUptoCard

/-- THE SECOND FORM's CARD OF 'bolidelaw07.BlastWorst'. -/
def blastWorstUptoCard : Claim7 := { stood := { row := blastWorstUptoRow, standIns := [], harness := (true, "aef36a8adaf1d9ab3e2c22f9c8e8e46539002d42e97b9ae43a82d8b1983b2de4"), looks := false }, kinds := [], alts := [], laidByText := true, laidKinds := [.data], laidTests := true, laidLooks := .later }
def BlastWorstUptoCardSaid : Prop := Claim7.holds Tryd.pinned (.plain (OpenSpec.upto blastWorstSpec)) blastWorstUptoCard
end Rows
end Go.Proofs.YtlmhbggigbmeaaaDoor
