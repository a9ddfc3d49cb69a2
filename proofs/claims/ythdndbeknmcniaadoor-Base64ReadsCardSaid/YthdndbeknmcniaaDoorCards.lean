/-
  DERIVED. GIVEN WITH THE SEED: THE CARDS: each row of YthdndbeknmcniaaDoorRows.lean that lists a variable, with what it lists TIED to the program's text (the seventh form; the later family's looks); each row that meets fmt, with fmt's text TOLD by the authors' own Lean function (tested against real Go, not proved from fmt's source: count such statements apart). THE CARD IS WHAT COUNTS. Prove the row's statement (the work); the ties are given (YthdndbeknmcniaaDoorTie.lean); close each card by the builder's one call (the guide's Derived/Test/ToyasCard.lean, 'card_holds'). Laid BY PROGRAM, IN A SANDBOX (cutbox-door.mjs). By AI agents, Wed Nov 11 2026. No macro, syntax, notation, axiom, sorry.
-/
import Derived.Test.YthdndbeknmcniaaDoorRows
import GoSem.ClaimSeven
namespace Go.Proofs.YthdndbeknmcniaaDoor
namespace Rows

/-- THE TIED CARD OF 'fenestralaw07.Base64Tells'. -/
def base64TellsCard : Claim7 := { stood := { row := base64TellsRow, standIns := [], harness := (true, "2791f288e903287950b96588f36af52ac06e5b7f7d925edadcb0a84443d882e3"), looks := false }, kinds := [], alts := [], laidByText := true, laidKinds := [.data, .pinned], laidTests := true, laidLooks := .later }
def Base64TellsCardSaid : Prop := Claim7.holds Tryd.pinned (.plain (OpenSpec.ofChange base64TellsSpec)) base64TellsCard

/-- THE TIED CARD OF 'fenestralaw07.Base64Reads'. -/
def base64ReadsCard : Claim7 := { stood := { row := base64ReadsRow, standIns := [], harness := (true, "2791f288e903287950b96588f36af52ac06e5b7f7d925edadcb0a84443d882e3"), looks := false }, kinds := [], alts := [], laidByText := true, laidKinds := [.data, .pinned], laidTests := true, laidLooks := .later }
def Base64ReadsCardSaid : Prop := Claim7.holds Tryd.pinned (.plain (OpenSpec.ofChange base64ReadsSpec)) base64ReadsCard

/-- THE TIED CARD OF 'fenestralaw07.Base64Back'. -/
def base64BackCard : Claim7 := { stood := { row := base64BackRow, standIns := [], harness := (true, "2791f288e903287950b96588f36af52ac06e5b7f7d925edadcb0a84443d882e3"), looks := false }, kinds := [], alts := [], laidByText := true, laidKinds := [.data, .pinned], laidTests := true, laidLooks := .later }
def Base64BackCardSaid : Prop := Claim7.holds Tryd.pinned (.plain (OpenSpec.ofChange base64BackSpec)) base64BackCard

/-- THE TIED CARD OF 'fenestralaw07.Base64Only'. -/
def base64OnlyCard : Claim7 := { stood := { row := base64OnlyRow, standIns := [], harness := (true, "2791f288e903287950b96588f36af52ac06e5b7f7d925edadcb0a84443d882e3"), looks := false }, kinds := [], alts := [], laidByText := true, laidKinds := [.data, .pinned], laidTests := true, laidLooks := .later }
def Base64OnlyCardSaid : Prop := Claim7.holds Tryd.pinned (.plain (OpenSpec.ofChange base64OnlySpec)) base64OnlyCard

/-- THE TIED CARD OF 'fenestralaw07.Base64Known'. -/
def base64KnownCard : Claim7 := { stood := { row := base64KnownRow, standIns := [], harness := (true, "2791f288e903287950b96588f36af52ac06e5b7f7d925edadcb0a84443d882e3"), looks := false }, kinds := [], alts := [], laidByText := true, laidKinds := [.data, .pinned], laidTests := true, laidLooks := .later }
def Base64KnownCardSaid : Prop := Claim7.holds Tryd.pinned (.plain (OpenSpec.ofChange base64KnownSpec)) base64KnownCard

/-- THE SECOND FORM's CARD OF 'fenestralaw07.Base64Tells'. -/
def base64TellsUptoCard : Claim7 := { stood := { row := base64TellsUptoRow, standIns := [], harness := (true, "2791f288e903287950b96588f36af52ac06e5b7f7d925edadcb0a84443d882e3"), looks := false }, kinds := [], alts := [], laidByText := true, laidKinds := [.data, .pinned], laidTests := true, laidLooks := .later }
def Base64TellsUptoCardSaid : Prop := Claim7.holds Tryd.pinned (.plain (OpenSpec.upto base64TellsSpec)) base64TellsUptoCard

/-- THE SECOND FORM's CARD OF 'fenestralaw07.Base64Reads'. -/
def base64ReadsUptoCard : Claim7 := { stood := { row := base64ReadsUptoRow, standIns := [], harness := (true, "2791f288e903287950b96588f36af52ac06e5b7f7d925edadcb0a84443d882e3"), looks := false }, kinds := [], alts := [], laidByText := true, laidKinds := [.data, .pinned], laidTests := true, laidLooks := .later }
def Base64ReadsUptoCardSaid : Prop := Claim7.holds Tryd.pinned (.plain (OpenSpec.upto base64ReadsSpec)) base64ReadsUptoCard

/-- THE SECOND FORM's CARD OF 'fenestralaw07.Base64Back'. -/
def base64BackUptoCard : Claim7 := { stood := { row := base64BackUptoRow, standIns := [], harness := (true, "2791f288e903287950b96588f36af52ac06e5b7f7d925edadcb0a84443d882e3"), looks := false }, kinds := [], alts := [], laidByText := true, laidKinds := [.data, .pinned], laidTests := true, laidLooks := .later }
def Base64BackUptoCardSaid : Prop := Claim7.holds Tryd.pinned (.plain (OpenSpec.upto base64BackSpec)) base64BackUptoCard

/-- THE SECOND FORM's CARD OF 'fenestralaw07.Base64Only'. -/
def base64OnlyUptoCard : Claim7 := { stood := { row := base64OnlyUptoRow, standIns := [], harness := (true, "2791f288e903287950b96588f36af52ac06e5b7f7d925edadcb0a84443d882e3"), looks := false }, kinds := [], alts := [], laidByText := true, laidKinds := [.data, .pinned], laidTests := true, laidLooks := .later }
def Base64OnlyUptoCardSaid : Prop := Claim7.holds Tryd.pinned (.plain (OpenSpec.upto base64OnlySpec)) base64OnlyUptoCard

/-- THE SECOND FORM's CARD OF 'fenestralaw07.Base64Known'. -/
def base64KnownUptoCard : Claim7 := { stood := { row := base64KnownUptoRow, standIns := [], harness := (true, "2791f288e903287950b96588f36af52ac06e5b7f7d925edadcb0a84443d882e3"), looks := false }, kinds := [], alts := [], laidByText := true, laidKinds := [.data, .pinned], laidTests := true, laidLooks := .later }
def Base64KnownUptoCardSaid : Prop := Claim7.holds Tryd.pinned (.plain (OpenSpec.upto base64KnownSpec)) base64KnownUptoCard
end Rows
end Go.Proofs.YthdndbeknmcniaaDoor
