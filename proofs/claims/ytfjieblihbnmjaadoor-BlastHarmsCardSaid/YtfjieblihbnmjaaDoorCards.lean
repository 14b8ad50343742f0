/-
  DERIVED. GIVEN WITH THE SEED: THE CARDS: each row of YtfjieblihbnmjaaDoorRows.lean that lists a variable, with what it lists TIED to the program's text (the seventh form; the later family's looks); each row that meets fmt, with fmt's text TOLD by the authors' own Lean function (tested against real Go, not proved from fmt's source: count such statements apart). THE CARD IS WHAT COUNTS. Prove the row's statement (the work); the ties are given (YtfjieblihbnmjaaDoorTie.lean); close each card by the builder's one call (the guide's Derived/Test/ToyasCard.lean, 'card_holds'). Laid BY PROGRAM, IN A SANDBOX (cutbox-door.mjs). By AI agents, Wed Nov 11 2026. No macro, syntax, notation, axiom, sorry.
-/
import Derived.Test.YtfjieblihbnmjaaDoorRows
import GoSem.ClaimSeven
namespace Go.Proofs.YtfjieblihbnmjaaDoor
namespace Rows

/-- THE TIED CARD OF 'bolidelaw07.BlastFalls'. -/
def blastFallsCard : Claim7 := { stood := { row := blastFallsRow, standIns := [], harness := (true, "dd229fe47334941cf090a8ff92174a711f9b26b7d0b2c3fe706bcfec6e1e423d"), looks := false }, kinds := [], alts := [], laidByText := true, laidKinds := [.data], laidTests := true, laidLooks := .later }
def BlastFallsCardSaid : Prop := Claim7.holds Tryd.pinned (.plain (OpenSpec.ofChange blastFallsSpec)) blastFallsCard

/-- THE TIED CARD OF 'bolidelaw07.BlastLands'. -/
def blastLandsCard : Claim7 := { stood := { row := blastLandsRow, standIns := [], harness := (true, "dd229fe47334941cf090a8ff92174a711f9b26b7d0b2c3fe706bcfec6e1e423d"), looks := false }, kinds := [], alts := [], laidByText := true, laidKinds := [.data], laidTests := true, laidLooks := .later }
def BlastLandsCardSaid : Prop := Claim7.holds Tryd.pinned (.plain (OpenSpec.ofChange blastLandsSpec)) blastLandsCard

/-- THE TIED CARD OF 'bolidelaw07.BlastHarms'. -/
def blastHarmsCard : Claim7 := { stood := { row := blastHarmsRow, standIns := [], harness := (true, "dd229fe47334941cf090a8ff92174a711f9b26b7d0b2c3fe706bcfec6e1e423d"), looks := false }, kinds := [], alts := [], laidByText := true, laidKinds := [.data], laidTests := true, laidLooks := .later }
def BlastHarmsCardSaid : Prop := Claim7.holds Tryd.pinned (.plain (OpenSpec.ofChange blastHarmsSpec)) blastHarmsCard

/-- THE TIED CARD OF 'bolidelaw07.BlastTolls'. -/
def blastTollsCard : Claim7 := { stood := { row := blastTollsRow, standIns := [], harness := (true, "dd229fe47334941cf090a8ff92174a711f9b26b7d0b2c3fe706bcfec6e1e423d"), looks := false }, kinds := [], alts := [], laidByText := true, laidKinds := [.data], laidTests := true, laidLooks := .later }
def BlastTollsCardSaid : Prop := Claim7.holds Tryd.pinned (.plain (OpenSpec.ofChange blastTollsSpec)) blastTollsCard

/-- THE SECOND FORM's CARD OF 'bolidelaw07.BlastFalls'. -/
def blastFallsUptoCard : Claim7 := { stood := { row := blastFallsUptoRow, standIns := [], harness := (true, "dd229fe47334941cf090a8ff92174a711f9b26b7d0b2c3fe706bcfec6e1e423d"), looks := false }, kinds := [], alts := [], laidByText := true, laidKinds := [.data], laidTests := true, laidLooks := .later }
def BlastFallsUptoCardSaid : Prop := Claim7.holds Tryd.pinned (.plain (OpenSpec.upto blastFallsSpec)) blastFallsUptoCard

/-- THE SECOND FORM's CARD OF 'bolidelaw07.BlastLands'. -/
def blastLandsUptoCard : Claim7 := { stood := { row := blastLandsUptoRow, standIns := [], harness := (true, "dd229fe47334941cf090a8ff92174a711f9b26b7d0b2c3fe706bcfec6e1e423d"), looks := false }, kinds := [], alts := [], laidByText := true, laidKinds := [.data], laidTests := true, laidLooks := .later }
def BlastLandsUptoCardSaid : Prop := Claim7.holds Tryd.pinned (.plain (OpenSpec.upto blastLandsSpec)) blastLandsUptoCard

/-- THE SECOND FORM's CARD OF 'bolidelaw07.BlastHarms'. -/
def blastHarmsUptoCard : Claim7 := { stood := { row := blastHarmsUptoRow, standIns := [], harness := (true, "dd229fe47334941cf090a8ff92174a711f9b26b7d0b2c3fe706bcfec6e1e423d"), looks := false }, kinds := [], alts := [], laidByText := true, laidKinds := [.data], laidTests := true, laidLooks := .later }
def BlastHarmsUptoCardSaid : Prop := Claim7.holds Tryd.pinned (.plain (OpenSpec.upto blastHarmsSpec)) blastHarmsUptoCard

/-- THE SECOND FORM's CARD OF 'bolidelaw07.BlastTolls'. -/
def blastTollsUptoCard : Claim7 := { stood := { row := blastTollsUptoRow, standIns := [], harness := (true, "dd229fe47334941cf090a8ff92174a711f9b26b7d0b2c3fe706bcfec6e1e423d"), looks := false }, kinds := [], alts := [], laidByText := true, laidKinds := [.data], laidTests := true, laidLooks := .later }
def BlastTollsUptoCardSaid : Prop := Claim7.holds Tryd.pinned (.plain (OpenSpec.upto blastTollsSpec)) blastTollsUptoCard
end Rows
end Go.Proofs.YtfjieblihbnmjaaDoor
