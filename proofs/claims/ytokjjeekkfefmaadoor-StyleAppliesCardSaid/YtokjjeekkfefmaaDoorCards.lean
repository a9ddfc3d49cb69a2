/-
  DERIVED. GIVEN WITH THE SEED: THE CARDS: each row of YtokjjeekkfefmaaDoorRows.lean that lists a variable, with what it lists TIED to the program's text (the seventh form; the later family's looks); each row that meets fmt, with fmt's text TOLD by the authors' own Lean function (tested against real Go, not proved from fmt's source: count such statements apart). THE CARD IS WHAT COUNTS. Prove the row's statement (the work); the ties are given (YtokjjeekkfefmaaDoorTie.lean); close each card by the builder's one call (the guide's Derived/Test/ToyasCard.lean, 'card_holds'). Laid BY PROGRAM, IN A SANDBOX (cutbox-door.mjs). By AI agents, Wed Nov 11 2026. No macro, syntax, notation, axiom, sorry.
-/
import Derived.Test.YtokjjeekkfefmaaDoorRows
import GoSem.ClaimSeven
namespace Go.Proofs.YtokjjeekkfefmaaDoor
namespace Rows

/-- THE TIED CARD OF 'fenestralaw04.StyleChecks'. -/
def styleChecksCard : Claim7 := { stood := { row := styleChecksRow, standIns := [], harness := (true, "bf89da50a92809d175529bfba1f60036727fbfc1d000474d45cb3fe52134cf36"), looks := false }, kinds := [], alts := [], laidByText := true, laidKinds := [.data], laidTests := true, laidLooks := .later }
def StyleChecksCardSaid : Prop := Claim7.holds Tryd.pinned (.plain (OpenSpec.ofChange styleChecksSpec)) styleChecksCard

/-- THE TIED CARD OF 'fenestralaw04.StyleApplies'. -/
def styleAppliesCard : Claim7 := { stood := { row := styleAppliesRow, standIns := [], harness := (true, "bf89da50a92809d175529bfba1f60036727fbfc1d000474d45cb3fe52134cf36"), looks := false }, kinds := [], alts := [], laidByText := true, laidKinds := [.data], laidTests := true, laidLooks := .later }
def StyleAppliesCardSaid : Prop := Claim7.holds Tryd.pinned (.plain (OpenSpec.ofChange styleAppliesSpec)) styleAppliesCard

/-- THE TIED CARD OF 'fenestralaw04.StyleSeen'. -/
def styleSeenCard : Claim7 := { stood := { row := styleSeenRow, standIns := [], harness := (true, "bf89da50a92809d175529bfba1f60036727fbfc1d000474d45cb3fe52134cf36"), looks := false }, kinds := [], alts := [], laidByText := true, laidKinds := [.data], laidTests := true, laidLooks := .later }
def StyleSeenCardSaid : Prop := Claim7.holds Tryd.pinned (.plain (OpenSpec.ofChange styleSeenSpec)) styleSeenCard

/-- THE TIED CARD OF 'fenestralaw04.StyleStays'. -/
def styleStaysCard : Claim7 := { stood := { row := styleStaysRow, standIns := [], harness := (true, "bf89da50a92809d175529bfba1f60036727fbfc1d000474d45cb3fe52134cf36"), looks := false }, kinds := [], alts := [], laidByText := true, laidKinds := [.data], laidTests := true, laidLooks := .later }
def StyleStaysCardSaid : Prop := Claim7.holds Tryd.pinned (.plain (OpenSpec.ofChange styleStaysSpec)) styleStaysCard

/-- THE TIED CARD OF 'fenestralaw04.StyleBits'. -/
def styleBitsCard : Claim7 := { stood := { row := styleBitsRow, standIns := [], harness := (true, "bf89da50a92809d175529bfba1f60036727fbfc1d000474d45cb3fe52134cf36"), looks := false }, kinds := [], alts := [], laidByText := true, laidKinds := [.data], laidTests := true, laidLooks := .later }
def StyleBitsCardSaid : Prop := Claim7.holds Tryd.pinned (.plain (OpenSpec.ofChange styleBitsSpec)) styleBitsCard

/-- THE TIED CARD OF 'fenestralaw04.StyleTurns'. -/
def styleTurnsCard : Claim7 := { stood := { row := styleTurnsRow, standIns := [], harness := (true, "bf89da50a92809d175529bfba1f60036727fbfc1d000474d45cb3fe52134cf36"), looks := false }, kinds := [], alts := [], laidByText := true, laidKinds := [.data], laidTests := true, laidLooks := .later }
def StyleTurnsCardSaid : Prop := Claim7.holds Tryd.pinned (.plain (OpenSpec.ofChange styleTurnsSpec)) styleTurnsCard

/-- THE TIED CARD OF 'fenestralaw04.StyleKnown'. -/
def styleKnownCard : Claim7 := { stood := { row := styleKnownRow, standIns := [], harness := (true, "bf89da50a92809d175529bfba1f60036727fbfc1d000474d45cb3fe52134cf36"), looks := false }, kinds := [], alts := [], laidByText := true, laidKinds := [.data], laidTests := true, laidLooks := .later }
def StyleKnownCardSaid : Prop := Claim7.holds Tryd.pinned (.plain (OpenSpec.ofChange styleKnownSpec)) styleKnownCard

/-- THE SECOND FORM's CARD OF 'fenestralaw04.StyleChecks'. -/
def styleChecksUptoCard : Claim7 := { stood := { row := styleChecksUptoRow, standIns := [], harness := (true, "bf89da50a92809d175529bfba1f60036727fbfc1d000474d45cb3fe52134cf36"), looks := false }, kinds := [], alts := [], laidByText := true, laidKinds := [.data], laidTests := true, laidLooks := .later }
def StyleChecksUptoCardSaid : Prop := Claim7.holds Tryd.pinned (.plain (OpenSpec.upto styleChecksSpec)) styleChecksUptoCard

/-- THE SECOND FORM's CARD OF 'fenestralaw04.StyleApplies'. -/
def styleAppliesUptoCard : Claim7 := { stood := { row := styleAppliesUptoRow, standIns := [], harness := (true, "bf89da50a92809d175529bfba1f60036727fbfc1d000474d45cb3fe52134cf36"), looks := false }, kinds := [], alts := [], laidByText := true, laidKinds := [.data], laidTests := true, laidLooks := .later }
def StyleAppliesUptoCardSaid : Prop := Claim7.holds Tryd.pinned (.plain (OpenSpec.upto styleAppliesSpec)) styleAppliesUptoCard

/-- THE SECOND FORM's CARD OF 'fenestralaw04.StyleSeen'. -/
def styleSeenUptoCard : Claim7 := { stood := { row := styleSeenUptoRow, standIns := [], harness := (true, "bf89da50a92809d175529bfba1f60036727fbfc1d000474d45cb3fe52134cf36"), looks := false }, kinds := [], alts := [], laidByText := true, laidKinds := [.data], laidTests := true, laidLooks := .later }
def StyleSeenUptoCardSaid : Prop := Claim7.holds Tryd.pinned (.plain (OpenSpec.upto styleSeenSpec)) styleSeenUptoCard

/-- THE SECOND FORM's CARD OF 'fenestralaw04.StyleStays'. -/
def styleStaysUptoCard : Claim7 := { stood := { row := styleStaysUptoRow, standIns := [], harness := (true, "bf89da50a92809d175529bfba1f60036727fbfc1d000474d45cb3fe52134cf36"), looks := false }, kinds := [], alts := [], laidByText := true, laidKinds := [.data], laidTests := true, laidLooks := .later }
def StyleStaysUptoCardSaid : Prop := Claim7.holds Tryd.pinned (.plain (OpenSpec.upto styleStaysSpec)) styleStaysUptoCard

/-- THE SECOND FORM's CARD OF 'fenestralaw04.StyleBits'. -/
def styleBitsUptoCard : Claim7 := { stood := { row := styleBitsUptoRow, standIns := [], harness := (true, "bf89da50a92809d175529bfba1f60036727fbfc1d000474d45cb3fe52134cf36"), looks := false }, kinds := [], alts := [], laidByText := true, laidKinds := [.data], laidTests := true, laidLooks := .later }
def StyleBitsUptoCardSaid : Prop := Claim7.holds Tryd.pinned (.plain (OpenSpec.upto styleBitsSpec)) styleBitsUptoCard

/-- THE SECOND FORM's CARD OF 'fenestralaw04.StyleTurns'. -/
def styleTurnsUptoCard : Claim7 := { stood := { row := styleTurnsUptoRow, standIns := [], harness := (true, "bf89da50a92809d175529bfba1f60036727fbfc1d000474d45cb3fe52134cf36"), looks := false }, kinds := [], alts := [], laidByText := true, laidKinds := [.data], laidTests := true, laidLooks := .later }
def StyleTurnsUptoCardSaid : Prop := Claim7.holds Tryd.pinned (.plain (OpenSpec.upto styleTurnsSpec)) styleTurnsUptoCard

/-- THE SECOND FORM's CARD OF 'fenestralaw04.StyleKnown'. -/
def styleKnownUptoCard : Claim7 := { stood := { row := styleKnownUptoRow, standIns := [], harness := (true, "bf89da50a92809d175529bfba1f60036727fbfc1d000474d45cb3fe52134cf36"), looks := false }, kinds := [], alts := [], laidByText := true, laidKinds := [.data], laidTests := true, laidLooks := .later }
def StyleKnownUptoCardSaid : Prop := Claim7.holds Tryd.pinned (.plain (OpenSpec.upto styleKnownSpec)) styleKnownUptoCard
end Rows
end Go.Proofs.YtokjjeekkfefmaaDoor
