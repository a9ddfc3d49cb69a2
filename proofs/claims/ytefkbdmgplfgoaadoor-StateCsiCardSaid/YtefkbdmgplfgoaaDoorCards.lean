/-
  DERIVED. GIVEN WITH THE SEED: THE CARDS: each row of YtefkbdmgplfgoaaDoorRows.lean that lists a variable, with what it lists TIED to the program's text (the seventh form; the later family's looks); each row that meets fmt, with fmt's text TOLD by the authors' own Lean function (tested against real Go, not proved from fmt's source: count such statements apart). THE CARD IS WHAT COUNTS. Prove the row's statement (the work); the ties are given (YtefkbdmgplfgoaaDoorTie.lean); close each card by the builder's one call (the guide's Derived/Test/ToyasCard.lean, 'card_holds'). Laid BY PROGRAM, IN A SANDBOX (cutbox-door.mjs). By AI agents, Wed Nov 11 2026. No macro, syntax, notation, axiom, sorry.
-/
import Derived.Test.YtefkbdmgplfgoaaDoorRows
import GoSem.ClaimSeven
namespace Go.Proofs.YtefkbdmgplfgoaaDoor
namespace Rows

/-- THE TIED CARD OF 'fenestralaw06.StateChunks'. -/
def stateChunksCard : Claim7 := { stood := { row := stateChunksRow, standIns := [], harness := (true, "2ded48866f91baf53f4deeb385d13387be1927f299318115dc986b9c3a70cf2d"), looks := false }, kinds := [], alts := [], laidByText := true, laidKinds := [.data, .data], laidTests := true, laidLooks := .later }
def StateChunksCardSaid : Prop := Claim7.holds Tryd.pinned (.plain (OpenSpec.ofChange stateChunksSpec)) stateChunksCard

/-- THE TIED CARD OF 'fenestralaw06.StateEnds'. -/
def stateEndsCard : Claim7 := { stood := { row := stateEndsRow, standIns := [], harness := (true, "2ded48866f91baf53f4deeb385d13387be1927f299318115dc986b9c3a70cf2d"), looks := false }, kinds := [], alts := [], laidByText := true, laidKinds := [.data, .data], laidTests := true, laidLooks := .later }
def StateEndsCardSaid : Prop := Claim7.holds Tryd.pinned (.plain (OpenSpec.ofChange stateEndsSpec)) stateEndsCard

/-- THE TIED CARD OF 'fenestralaw06.StateCsi'. -/
def stateCsiCard : Claim7 := { stood := { row := stateCsiRow, standIns := [], harness := (true, "2ded48866f91baf53f4deeb385d13387be1927f299318115dc986b9c3a70cf2d"), looks := false }, kinds := [], alts := [], laidByText := true, laidKinds := [.data, .data], laidTests := true, laidLooks := .later }
def StateCsiCardSaid : Prop := Claim7.holds Tryd.pinned (.plain (OpenSpec.ofChange stateCsiSpec)) stateCsiCard

/-- THE TIED CARD OF 'fenestralaw06.StateTexts'. -/
def stateTextsCard : Claim7 := { stood := { row := stateTextsRow, standIns := [], harness := (true, "2ded48866f91baf53f4deeb385d13387be1927f299318115dc986b9c3a70cf2d"), looks := false }, kinds := [], alts := [], laidByText := true, laidKinds := [.data, .data], laidTests := true, laidLooks := .later }
def StateTextsCardSaid : Prop := Claim7.holds Tryd.pinned (.plain (OpenSpec.ofChange stateTextsSpec)) stateTextsCard

/-- THE SECOND FORM's CARD OF 'fenestralaw06.StateChunks'. -/
def stateChunksUptoCard : Claim7 := { stood := { row := stateChunksUptoRow, standIns := [], harness := (true, "2ded48866f91baf53f4deeb385d13387be1927f299318115dc986b9c3a70cf2d"), looks := false }, kinds := [], alts := [], laidByText := true, laidKinds := [.data, .data], laidTests := true, laidLooks := .later }
def StateChunksUptoCardSaid : Prop := Claim7.holds Tryd.pinned (.plain (OpenSpec.upto stateChunksSpec)) stateChunksUptoCard

/-- THE SECOND FORM's CARD OF 'fenestralaw06.StateEnds'. -/
def stateEndsUptoCard : Claim7 := { stood := { row := stateEndsUptoRow, standIns := [], harness := (true, "2ded48866f91baf53f4deeb385d13387be1927f299318115dc986b9c3a70cf2d"), looks := false }, kinds := [], alts := [], laidByText := true, laidKinds := [.data, .data], laidTests := true, laidLooks := .later }
def StateEndsUptoCardSaid : Prop := Claim7.holds Tryd.pinned (.plain (OpenSpec.upto stateEndsSpec)) stateEndsUptoCard

/-- THE SECOND FORM's CARD OF 'fenestralaw06.StateCsi'. -/
def stateCsiUptoCard : Claim7 := { stood := { row := stateCsiUptoRow, standIns := [], harness := (true, "2ded48866f91baf53f4deeb385d13387be1927f299318115dc986b9c3a70cf2d"), looks := false }, kinds := [], alts := [], laidByText := true, laidKinds := [.data, .data], laidTests := true, laidLooks := .later }
def StateCsiUptoCardSaid : Prop := Claim7.holds Tryd.pinned (.plain (OpenSpec.upto stateCsiSpec)) stateCsiUptoCard

/-- THE SECOND FORM's CARD OF 'fenestralaw06.StateTexts'. -/
def stateTextsUptoCard : Claim7 := { stood := { row := stateTextsUptoRow, standIns := [], harness := (true, "2ded48866f91baf53f4deeb385d13387be1927f299318115dc986b9c3a70cf2d"), looks := false }, kinds := [], alts := [], laidByText := true, laidKinds := [.data, .data], laidTests := true, laidLooks := .later }
def StateTextsUptoCardSaid : Prop := Claim7.holds Tryd.pinned (.plain (OpenSpec.upto stateTextsSpec)) stateTextsUptoCard
end Rows
end Go.Proofs.YtefkbdmgplfgoaaDoor
