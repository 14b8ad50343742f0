/-
  DERIVED. GIVEN WITH THE SEED: THE CARDS: each row of YtpiacndnjehbiaaDoorRows.lean that lists a variable, with what it lists TIED to the program's text (the seventh form; the later family's looks); each row that meets fmt, with fmt's text TOLD by the authors' own Lean function (tested against real Go, not proved from fmt's source: count such statements apart). THE CARD IS WHAT COUNTS. Prove the row's statement (the work); the ties are given (YtpiacndnjehbiaaDoorTie.lean); close each card by the builder's one call (the guide's Derived/Test/ToyasCard.lean, 'card_holds'). Laid BY PROGRAM, IN A SANDBOX (cutbox-door.mjs). By AI agents, Wed Nov 11 2026. No macro, syntax, notation, axiom, sorry.
-/
import Derived.Test.YtpiacndnjehbiaaDoorRows
import GoSem.ClaimSeven
namespace Go.Proofs.YtpiacndnjehbiaaDoor
namespace Rows

/-- THE TIED CARD OF 'bolidelaw07.BlastChecks'. -/
def blastChecksCard : Claim7 := { stood := { row := blastChecksRow, standIns := [], harness := (true, "be079b7d13c1f30e07b45bd909bbd3acd518ff04cabf681e1d555f6faf78d1f7"), looks := false }, kinds := [], alts := [], laidByText := true, laidKinds := [.data], laidTests := true, laidLooks := .later }
def BlastChecksCardSaid : Prop := Claim7.holds Tryd.pinned (.plain (OpenSpec.ofChange blastChecksSpec)) blastChecksCard

/-- THE TIED CARD OF 'bolidelaw07.BlastSole'. -/
def blastSoleCard : Claim7 := { stood := { row := blastSoleRow, standIns := [], harness := (true, "be079b7d13c1f30e07b45bd909bbd3acd518ff04cabf681e1d555f6faf78d1f7"), looks := false }, kinds := [], alts := [], laidByText := true, laidKinds := [.data], laidTests := true, laidLooks := .later }
def BlastSoleCardSaid : Prop := Claim7.holds Tryd.pinned (.plain (OpenSpec.ofChange blastSoleSpec)) blastSoleCard

/-- THE TIED CARD OF 'bolidelaw07.BlastOrders'. -/
def blastOrdersCard : Claim7 := { stood := { row := blastOrdersRow, standIns := [], harness := (true, "be079b7d13c1f30e07b45bd909bbd3acd518ff04cabf681e1d555f6faf78d1f7"), looks := false }, kinds := [], alts := [], laidByText := true, laidKinds := [.data], laidTests := true, laidLooks := .later }
def BlastOrdersCardSaid : Prop := Claim7.holds Tryd.pinned (.plain (OpenSpec.ofChange blastOrdersSpec)) blastOrdersCard

/-- THE TIED CARD OF 'bolidelaw07.BlastReaches'. -/
def blastReachesCard : Claim7 := { stood := { row := blastReachesRow, standIns := [], harness := (true, "be079b7d13c1f30e07b45bd909bbd3acd518ff04cabf681e1d555f6faf78d1f7"), looks := false }, kinds := [], alts := [], laidByText := true, laidKinds := [.data], laidTests := true, laidLooks := .later }
def BlastReachesCardSaid : Prop := Claim7.holds Tryd.pinned (.plain (OpenSpec.ofChange blastReachesSpec)) blastReachesCard

/-- THE SECOND FORM's CARD OF 'bolidelaw07.BlastChecks'. -/
def blastChecksUptoCard : Claim7 := { stood := { row := blastChecksUptoRow, standIns := [], harness := (true, "be079b7d13c1f30e07b45bd909bbd3acd518ff04cabf681e1d555f6faf78d1f7"), looks := false }, kinds := [], alts := [], laidByText := true, laidKinds := [.data], laidTests := true, laidLooks := .later }
def BlastChecksUptoCardSaid : Prop := Claim7.holds Tryd.pinned (.plain (OpenSpec.upto blastChecksSpec)) blastChecksUptoCard

/-- THE SECOND FORM's CARD OF 'bolidelaw07.BlastSole'. -/
def blastSoleUptoCard : Claim7 := { stood := { row := blastSoleUptoRow, standIns := [], harness := (true, "be079b7d13c1f30e07b45bd909bbd3acd518ff04cabf681e1d555f6faf78d1f7"), looks := false }, kinds := [], alts := [], laidByText := true, laidKinds := [.data], laidTests := true, laidLooks := .later }
def BlastSoleUptoCardSaid : Prop := Claim7.holds Tryd.pinned (.plain (OpenSpec.upto blastSoleSpec)) blastSoleUptoCard

/-- THE SECOND FORM's CARD OF 'bolidelaw07.BlastOrders'. -/
def blastOrdersUptoCard : Claim7 := { stood := { row := blastOrdersUptoRow, standIns := [], harness := (true, "be079b7d13c1f30e07b45bd909bbd3acd518ff04cabf681e1d555f6faf78d1f7"), looks := false }, kinds := [], alts := [], laidByText := true, laidKinds := [.data], laidTests := true, laidLooks := .later }
def BlastOrdersUptoCardSaid : Prop := Claim7.holds Tryd.pinned (.plain (OpenSpec.upto blastOrdersSpec)) blastOrdersUptoCard

/-- THE SECOND FORM's CARD OF 'bolidelaw07.BlastReaches'. -/
def blastReachesUptoCard : Claim7 := { stood := { row := blastReachesUptoRow, standIns := [], harness := (true, "be079b7d13c1f30e07b45bd909bbd3acd518ff04cabf681e1d555f6faf78d1f7"), looks := false }, kinds := [], alts := [], laidByText := true, laidKinds := [.data], laidTests := true, laidLooks := .later }
def BlastReachesUptoCardSaid : Prop := Claim7.holds Tryd.pinned (.plain (OpenSpec.upto blastReachesSpec)) blastReachesUptoCard
end Rows
end Go.Proofs.YtpiacndnjehbiaaDoor
