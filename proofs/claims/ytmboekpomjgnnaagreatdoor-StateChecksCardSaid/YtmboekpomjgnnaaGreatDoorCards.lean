/-
  DERIVED. GIVEN WITH THE SEED: THE CARDS: each row of YtmboekpomjgnnaaGreatDoorRows.lean that lists a variable, with what it lists TIED to the program's text (the seventh form; the later family's looks); each row that meets fmt, with fmt's text TOLD by the authors' own Lean function (tested against real Go, not proved from fmt's source: count such statements apart). THE CARD IS WHAT COUNTS. Prove the row's statement (the work); the ties are given (YtmboekpomjgnnaaGreatDoorTie.lean); close each card by the builder's one call (the guide's Derived/Test/ToyasCard.lean, 'card_holds'). Laid BY PROGRAM, IN A SANDBOX (cutbox-door.mjs). By AI agents, Wed Nov 11 2026. No macro, syntax, notation, axiom, sorry.
-/
import Derived.Test.YtmboekpomjgnnaaGreatDoorRows
import GoSem.ClaimSeven
namespace Go.Proofs.YtmboekpomjgnnaaGreatDoor
namespace Rows

/-- THE TIED CARD OF 'fenestralaw06.StateChecks'. -/
def stateChecksCard : Claim7 := { stood := { row := stateChecksRow, standIns := [], harness := (true, "e62fe1233567f9b46eb9f6f769e0b65995bb4e0746d9fe87e81e45b7d68eb087"), looks := false }, kinds := [], alts := [], laidByText := true, laidKinds := [.data, .data], laidTests := true, laidLooks := .later }
def StateChecksCardSaid : Prop := Claim7.holds Tryz.pinned (.plain (OpenSpec.ofChange stateChecksSpec)) stateChecksCard

/-- THE TIED CARD OF 'fenestralaw06.StateSteps'. -/
def stateStepsCard : Claim7 := { stood := { row := stateStepsRow, standIns := [], harness := (true, "e62fe1233567f9b46eb9f6f769e0b65995bb4e0746d9fe87e81e45b7d68eb087"), looks := false }, kinds := [], alts := [], laidByText := true, laidKinds := [.data, .data], laidTests := true, laidLooks := .later }
def StateStepsCardSaid : Prop := Claim7.holds Tryz.pinned (.plain (OpenSpec.ofChange stateStepsSpec)) stateStepsCard

/-- THE TIED CARD OF 'fenestralaw06.StateFeeds'. -/
def stateFeedsCard : Claim7 := { stood := { row := stateFeedsRow, standIns := [], harness := (true, "e62fe1233567f9b46eb9f6f769e0b65995bb4e0746d9fe87e81e45b7d68eb087"), looks := false }, kinds := [], alts := [], laidByText := true, laidKinds := [.data, .data], laidTests := true, laidLooks := .later }
def StateFeedsCardSaid : Prop := Claim7.holds Tryz.pinned (.plain (OpenSpec.ofChange stateFeedsSpec)) stateFeedsCard

/-- THE SECOND FORM's CARD OF 'fenestralaw06.StateChecks'. -/
def stateChecksUptoCard : Claim7 := { stood := { row := stateChecksUptoRow, standIns := [], harness := (true, "e62fe1233567f9b46eb9f6f769e0b65995bb4e0746d9fe87e81e45b7d68eb087"), looks := false }, kinds := [], alts := [], laidByText := true, laidKinds := [.data, .data], laidTests := true, laidLooks := .later }
def StateChecksUptoCardSaid : Prop := Claim7.holds Tryz.pinned (.plain (OpenSpec.upto stateChecksSpec)) stateChecksUptoCard

/-- THE SECOND FORM's CARD OF 'fenestralaw06.StateSteps'. -/
def stateStepsUptoCard : Claim7 := { stood := { row := stateStepsUptoRow, standIns := [], harness := (true, "e62fe1233567f9b46eb9f6f769e0b65995bb4e0746d9fe87e81e45b7d68eb087"), looks := false }, kinds := [], alts := [], laidByText := true, laidKinds := [.data, .data], laidTests := true, laidLooks := .later }
def StateStepsUptoCardSaid : Prop := Claim7.holds Tryz.pinned (.plain (OpenSpec.upto stateStepsSpec)) stateStepsUptoCard

/-- THE SECOND FORM's CARD OF 'fenestralaw06.StateFeeds'. -/
def stateFeedsUptoCard : Claim7 := { stood := { row := stateFeedsUptoRow, standIns := [], harness := (true, "e62fe1233567f9b46eb9f6f769e0b65995bb4e0746d9fe87e81e45b7d68eb087"), looks := false }, kinds := [], alts := [], laidByText := true, laidKinds := [.data, .data], laidTests := true, laidLooks := .later }
def StateFeedsUptoCardSaid : Prop := Claim7.holds Tryz.pinned (.plain (OpenSpec.upto stateFeedsSpec)) stateFeedsUptoCard
end Rows
end Go.Proofs.YtmboekpomjgnnaaGreatDoor
