/-
  DERIVED. GIVEN WITH THE SEED: THE CARDS: each row of YteepfecplabinaaDoorRows.lean that lists a variable, with what it lists TIED to the program's text (the seventh form; the later family's looks); each row that meets fmt, with fmt's text TOLD by the authors' own Lean function (tested against real Go, not proved from fmt's source: count such statements apart). THE CARD IS WHAT COUNTS. Prove the row's statement (the work); the ties are given (YteepfecplabinaaDoorTie.lean); close each card by the builder's one call (the guide's Derived/Test/ToyasCard.lean, 'card_holds'). Laid BY PROGRAM, IN A SANDBOX (cutbox-door.mjs). By AI agents, Wed Nov 11 2026. No macro, syntax, notation, axiom, sorry.
-/
import Derived.Test.YteepfecplabinaaDoorRows
import GoSem.ClaimSeven
namespace Go.Proofs.YteepfecplabinaaDoor
namespace Rows

/-- THE TIED CARD OF 'fenestralaw09.SgrPens'. -/
def sgrPensCard : Claim7 := { stood := { row := sgrPensRow, standIns := [], harness := (true, "8d224259f767aa8779970b4709bdd7e305486e666dce4ac54a83f70757b70849"), looks := false }, kinds := [], alts := [], laidByText := true, laidKinds := [.data, .data, .data, .data, .data, .data], laidTests := true, laidLooks := .later }
def SgrPensCardSaid : Prop := Claim7.holds Tryd.pinned (.plain (OpenSpec.ofChange sgrPensSpec)) sgrPensCard

/-- THE TIED CARD OF 'fenestralaw09.SgrValues'. -/
def sgrValuesCard : Claim7 := { stood := { row := sgrValuesRow, standIns := [], harness := (true, "8d224259f767aa8779970b4709bdd7e305486e666dce4ac54a83f70757b70849"), looks := false }, kinds := [], alts := [], laidByText := true, laidKinds := [.data, .data, .data, .data, .data, .data], laidTests := true, laidLooks := .later }
def SgrValuesCardSaid : Prop := Claim7.holds Tryd.pinned (.plain (OpenSpec.ofChange sgrValuesSpec)) sgrValuesCard

/-- THE TIED CARD OF 'fenestralaw09.SgrParams'. -/
def sgrParamsCard : Claim7 := { stood := { row := sgrParamsRow, standIns := [], harness := (true, "8d224259f767aa8779970b4709bdd7e305486e666dce4ac54a83f70757b70849"), looks := false }, kinds := [], alts := [], laidByText := true, laidKinds := [.data, .data, .data, .data, .data, .data], laidTests := true, laidLooks := .later }
def SgrParamsCardSaid : Prop := Claim7.holds Tryd.pinned (.plain (OpenSpec.ofChange sgrParamsSpec)) sgrParamsCard

/-- THE TIED CARD OF 'fenestralaw09.SgrBack'. -/
def sgrBackCard : Claim7 := { stood := { row := sgrBackRow, standIns := [], harness := (true, "8d224259f767aa8779970b4709bdd7e305486e666dce4ac54a83f70757b70849"), looks := false }, kinds := [], alts := [], laidByText := true, laidKinds := [.data, .data, .data, .data, .data, .data], laidTests := true, laidLooks := .later }
def SgrBackCardSaid : Prop := Claim7.holds Tryd.pinned (.plain (OpenSpec.ofChange sgrBackSpec)) sgrBackCard

/-- THE TIED CARD OF 'fenestralaw09.SgrSound'. -/
def sgrSoundCard : Claim7 := { stood := { row := sgrSoundRow, standIns := [], harness := (true, "8d224259f767aa8779970b4709bdd7e305486e666dce4ac54a83f70757b70849"), looks := false }, kinds := [], alts := [], laidByText := true, laidKinds := [.data, .data, .data, .data, .data, .data], laidTests := true, laidLooks := .later }
def SgrSoundCardSaid : Prop := Claim7.holds Tryd.pinned (.plain (OpenSpec.ofChange sgrSoundSpec)) sgrSoundCard

/-- THE TIED CARD OF 'fenestralaw09.SgrApart'. -/
def sgrApartCard : Claim7 := { stood := { row := sgrApartRow, standIns := [], harness := (true, "8d224259f767aa8779970b4709bdd7e305486e666dce4ac54a83f70757b70849"), looks := false }, kinds := [], alts := [], laidByText := true, laidKinds := [.data, .data, .data, .data, .data, .data], laidTests := true, laidLooks := .later }
def SgrApartCardSaid : Prop := Claim7.holds Tryd.pinned (.plain (OpenSpec.ofChange sgrApartSpec)) sgrApartCard

/-- THE TIED CARD OF 'fenestralaw09.SgrKnown'. -/
def sgrKnownCard : Claim7 := { stood := { row := sgrKnownRow, standIns := [], harness := (true, "8d224259f767aa8779970b4709bdd7e305486e666dce4ac54a83f70757b70849"), looks := false }, kinds := [], alts := [], laidByText := true, laidKinds := [.data, .data, .data, .data, .data, .data], laidTests := true, laidLooks := .later }
def SgrKnownCardSaid : Prop := Claim7.holds Tryd.pinned (.plain (OpenSpec.ofChange sgrKnownSpec)) sgrKnownCard

/-- THE SECOND FORM's CARD OF 'fenestralaw09.SgrPens'. -/
def sgrPensUptoCard : Claim7 := { stood := { row := sgrPensUptoRow, standIns := [], harness := (true, "8d224259f767aa8779970b4709bdd7e305486e666dce4ac54a83f70757b70849"), looks := false }, kinds := [], alts := [], laidByText := true, laidKinds := [.data, .data, .data, .data, .data, .data], laidTests := true, laidLooks := .later }
def SgrPensUptoCardSaid : Prop := Claim7.holds Tryd.pinned (.plain (OpenSpec.upto sgrPensSpec)) sgrPensUptoCard

/-- THE SECOND FORM's CARD OF 'fenestralaw09.SgrValues'. -/
def sgrValuesUptoCard : Claim7 := { stood := { row := sgrValuesUptoRow, standIns := [], harness := (true, "8d224259f767aa8779970b4709bdd7e305486e666dce4ac54a83f70757b70849"), looks := false }, kinds := [], alts := [], laidByText := true, laidKinds := [.data, .data, .data, .data, .data, .data], laidTests := true, laidLooks := .later }
def SgrValuesUptoCardSaid : Prop := Claim7.holds Tryd.pinned (.plain (OpenSpec.upto sgrValuesSpec)) sgrValuesUptoCard

/-- THE SECOND FORM's CARD OF 'fenestralaw09.SgrParams'. -/
def sgrParamsUptoCard : Claim7 := { stood := { row := sgrParamsUptoRow, standIns := [], harness := (true, "8d224259f767aa8779970b4709bdd7e305486e666dce4ac54a83f70757b70849"), looks := false }, kinds := [], alts := [], laidByText := true, laidKinds := [.data, .data, .data, .data, .data, .data], laidTests := true, laidLooks := .later }
def SgrParamsUptoCardSaid : Prop := Claim7.holds Tryd.pinned (.plain (OpenSpec.upto sgrParamsSpec)) sgrParamsUptoCard

/-- THE SECOND FORM's CARD OF 'fenestralaw09.SgrBack'. -/
def sgrBackUptoCard : Claim7 := { stood := { row := sgrBackUptoRow, standIns := [], harness := (true, "8d224259f767aa8779970b4709bdd7e305486e666dce4ac54a83f70757b70849"), looks := false }, kinds := [], alts := [], laidByText := true, laidKinds := [.data, .data, .data, .data, .data, .data], laidTests := true, laidLooks := .later }
def SgrBackUptoCardSaid : Prop := Claim7.holds Tryd.pinned (.plain (OpenSpec.upto sgrBackSpec)) sgrBackUptoCard

/-- THE SECOND FORM's CARD OF 'fenestralaw09.SgrSound'. -/
def sgrSoundUptoCard : Claim7 := { stood := { row := sgrSoundUptoRow, standIns := [], harness := (true, "8d224259f767aa8779970b4709bdd7e305486e666dce4ac54a83f70757b70849"), looks := false }, kinds := [], alts := [], laidByText := true, laidKinds := [.data, .data, .data, .data, .data, .data], laidTests := true, laidLooks := .later }
def SgrSoundUptoCardSaid : Prop := Claim7.holds Tryd.pinned (.plain (OpenSpec.upto sgrSoundSpec)) sgrSoundUptoCard

/-- THE SECOND FORM's CARD OF 'fenestralaw09.SgrApart'. -/
def sgrApartUptoCard : Claim7 := { stood := { row := sgrApartUptoRow, standIns := [], harness := (true, "8d224259f767aa8779970b4709bdd7e305486e666dce4ac54a83f70757b70849"), looks := false }, kinds := [], alts := [], laidByText := true, laidKinds := [.data, .data, .data, .data, .data, .data], laidTests := true, laidLooks := .later }
def SgrApartUptoCardSaid : Prop := Claim7.holds Tryd.pinned (.plain (OpenSpec.upto sgrApartSpec)) sgrApartUptoCard

/-- THE SECOND FORM's CARD OF 'fenestralaw09.SgrKnown'. -/
def sgrKnownUptoCard : Claim7 := { stood := { row := sgrKnownUptoRow, standIns := [], harness := (true, "8d224259f767aa8779970b4709bdd7e305486e666dce4ac54a83f70757b70849"), looks := false }, kinds := [], alts := [], laidByText := true, laidKinds := [.data, .data, .data, .data, .data, .data], laidTests := true, laidLooks := .later }
def SgrKnownUptoCardSaid : Prop := Claim7.holds Tryd.pinned (.plain (OpenSpec.upto sgrKnownSpec)) sgrKnownUptoCard
end Rows
end Go.Proofs.YteepfecplabinaaDoor
