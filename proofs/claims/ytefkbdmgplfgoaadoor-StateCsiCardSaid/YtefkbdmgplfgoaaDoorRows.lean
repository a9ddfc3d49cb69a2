/-
  NARROWER THAN 'FOR EVERY INPUT', by the rows' own cells (each row's printed sentence says how): StateChunks: laid · StateEnds: laid · StateCsi: laid · StateTexts: laid.
  DERIVED. THE GIVEN ROWS OF THIS SEAT. 4 by the template 'for every input the law returns true; each argument reads behind the call as it read before'; 0 by the template 'total and deterministic' (their statements: YtefkbdmgplfgoaaDoorTotals.lean).
  GIVEN WITH THE SEED: the statements are not yours to turn. If you find one false, say at which input.
  Laid BY PROGRAM, IN A SANDBOX (cutbox-rows.mjs): the forced cells as the released guide's own fill.sh prints them over the translation 708d5086d0e44d7e… (all of the seat's roots in one cut). By AI agents, Wed Nov 11 2026. No macro, syntax, notation, axiom, sorry.
-/
import Derived.Test.YtefkbdmgplfgoaaDoorChecked
import GoSem.Claim
import GoSem.ClaimJoined
import GoSem.ClaimMapViews
import Derived.JoinedTies
import Derived.KernelRfl
namespace Go.Proofs.YtefkbdmgplfgoaaDoor
/- THE CELL 'sum', in the pinned program and in every row, IS THE sha256 OF THE DUMP (.gsa) THAT YtefkbdmgplfgoaaDoorProg.lean LOADS. Nothing in Lean hashes anything: it is a label: what it is worth is what the hold of that sum in a sandbox is worth. -/
noncomputable def Tryd.pinned : Pinned := { name := "ytefkbdmgplfgoaadoor", sum := "708d5086d0e44d7e8f28955d258bf4afbc810ead926f15e99b6dba69f18901cd", checked := Tryd.checked }
namespace Rows
def none {H : Type} : Left H := { results := [], args := [] }

/- WHAT THE LISTED PACKAGE-LEVEL VARIABLES READ AS WHEN THE CALL BEGINS. Each datum BY PROGRAM (the guide's laid-datum.mjs) off the statement by which the dump's own 'gosem.cut.vars' lays the variable. In a bare row this is a premise. The card (YtefkbdmgplfgoaaDoorCards.lean) ties it to the program's text. -/
def laid_fenestra_utf_marks {H : Type} : DataW H := .agg [.lit (.int .i64 0), .lit (.int .i64 0), .lit (.int .i64 192), .lit (.int .i64 224), .lit (.int .i64 240)]
def laid_fenestra_state_fields {H : Type} : DataW H := .agg [.lit (.int .i64 1), .lit (.int .i64 0), .lit (.int .i64 8), .lit (.int .i64 0), .lit (.int .i64 6), .lit (.int .i64 14), .lit (.int .i64 32), .lit (.int .i64 32), .lit (.int .i64 0), .lit (.int .i64 6), .lit (.int .i64 14), .lit (.int .i64 62), .lit (.int .i64 62), .lit (.int .i64 0), .lit (.int .i64 0)]

/-- 'fenestralaw06.StateChunks': WHATEVER THE INPUT: true; the input reads as it did. -/
def stateChunksSpec : ChangeSpec := { name := "stateChunks", fn := fun _ => fun
  | [d1, d2] => { results := [.lit (.bool true)], args := [d1, d2] }
  | _ => none }
def stateChunksRow : OpenClaim := { program := "ytefkbdmgplfgoaadoor", sum := "708d5086d0e44d7e8f28955d258bf4afbc810ead926f15e99b6dba69f18901cd", func := "fenestra/fenestralaw06.StateChunks", spec := "stateChunks", unfollowed := true, recurses := true, named := ["fenestra/state.fields", "fenestra/utf.marks"], apart := false, laid := [("fenestra/utf.marks", laid_fenestra_utf_marks), ("fenestra/state.fields", laid_fenestra_state_fields)] }
def StateChunksSaid : Prop := stateChunksRow.holds Tryd.pinned (OpenSpec.ofChange stateChunksSpec)

/-- ITS FALSE NEIGHBOUR: 'it returns false'. Refute it at one input. -/
def stateChunksWrong : ChangeSpec := { name := "stateChunks", fn := fun _ => fun
  | [d1, d2] => { results := [.lit (.bool false)], args := [d1, d2] }
  | _ => none }
def StateChunksWrongFalsely : Prop := stateChunksRow.holds Tryd.pinned (OpenSpec.ofChange stateChunksWrong)

/-- 'fenestralaw06.StateEnds': WHATEVER THE INPUT: true; the input reads as it did. -/
def stateEndsSpec : ChangeSpec := { name := "stateEnds", fn := fun _ => fun
  | [d1, d2] => { results := [.lit (.bool true)], args := [d1, d2] }
  | _ => none }
def stateEndsRow : OpenClaim := { program := "ytefkbdmgplfgoaadoor", sum := "708d5086d0e44d7e8f28955d258bf4afbc810ead926f15e99b6dba69f18901cd", func := "fenestra/fenestralaw06.StateEnds", spec := "stateEnds", unfollowed := true, recurses := true, named := ["fenestra/state.fields", "fenestra/utf.marks"], apart := false, laid := [("fenestra/utf.marks", laid_fenestra_utf_marks), ("fenestra/state.fields", laid_fenestra_state_fields)] }
def StateEndsSaid : Prop := stateEndsRow.holds Tryd.pinned (OpenSpec.ofChange stateEndsSpec)

/-- ITS FALSE NEIGHBOUR: 'it returns false'. Refute it at one input. -/
def stateEndsWrong : ChangeSpec := { name := "stateEnds", fn := fun _ => fun
  | [d1, d2] => { results := [.lit (.bool false)], args := [d1, d2] }
  | _ => none }
def StateEndsWrongFalsely : Prop := stateEndsRow.holds Tryd.pinned (OpenSpec.ofChange stateEndsWrong)

/-- 'fenestralaw06.StateCsi': WHATEVER THE INPUT: true; the input reads as it did. -/
def stateCsiSpec : ChangeSpec := { name := "stateCsi", fn := fun _ => fun
  | [d] => { results := [.lit (.bool true)], args := [d] }
  | _ => none }
def stateCsiRow : OpenClaim := { program := "ytefkbdmgplfgoaadoor", sum := "708d5086d0e44d7e8f28955d258bf4afbc810ead926f15e99b6dba69f18901cd", func := "fenestra/fenestralaw06.StateCsi", spec := "stateCsi", unfollowed := true, recurses := true, named := ["fenestra/state.fields", "fenestra/utf.marks"], apart := false, laid := [("fenestra/utf.marks", laid_fenestra_utf_marks), ("fenestra/state.fields", laid_fenestra_state_fields)] }
def StateCsiSaid : Prop := stateCsiRow.holds Tryd.pinned (OpenSpec.ofChange stateCsiSpec)

/-- ITS FALSE NEIGHBOUR: 'it returns false'. Refute it at one input. -/
def stateCsiWrong : ChangeSpec := { name := "stateCsi", fn := fun _ => fun
  | [d] => { results := [.lit (.bool false)], args := [d] }
  | _ => none }
def StateCsiWrongFalsely : Prop := stateCsiRow.holds Tryd.pinned (OpenSpec.ofChange stateCsiWrong)

/-- 'fenestralaw06.StateTexts': WHATEVER THE INPUT: true; the input reads as it did. -/
def stateTextsSpec : ChangeSpec := { name := "stateTexts", fn := fun _ => fun
  | [d1, d2] => { results := [.lit (.bool true)], args := [d1, d2] }
  | _ => none }
def stateTextsRow : OpenClaim := { program := "ytefkbdmgplfgoaadoor", sum := "708d5086d0e44d7e8f28955d258bf4afbc810ead926f15e99b6dba69f18901cd", func := "fenestra/fenestralaw06.StateTexts", spec := "stateTexts", unfollowed := true, recurses := true, named := ["fenestra/state.fields", "fenestra/utf.marks"], apart := false, laid := [("fenestra/utf.marks", laid_fenestra_utf_marks), ("fenestra/state.fields", laid_fenestra_state_fields)] }
def StateTextsSaid : Prop := stateTextsRow.holds Tryd.pinned (OpenSpec.ofChange stateTextsSpec)

/-- ITS FALSE NEIGHBOUR: 'it returns false'. Refute it at one input. -/
def stateTextsWrong : ChangeSpec := { name := "stateTexts", fn := fun _ => fun
  | [d1, d2] => { results := [.lit (.bool false)], args := [d1, d2] }
  | _ => none }
def StateTextsWrongFalsely : Prop := stateTextsRow.holds Tryd.pinned (OpenSpec.ofChange stateTextsWrong)

/- THE SECOND FORM. 'bulk': how many values and letters a reading holds, each counted each time it is reached (what is shared counts as often as it is met; a slice's spare places count too). A statement '..UptoSaid' is the law's where the arguments, and the package variables that the reading takes, are together of bulk at most 1048576: NARROWER than '..Said'. Prove '..Said' where nothing that the law and all that it calls make is longer than what came in: it says more and counts as full. Else prove '..UptoSaid'. A law counts once. -/
mutual
def uptoBulk {H : Type} : DataW H → Nat
  | .lit (.string bytes) => bytes.length + 1
  | .lit _ => 1
  | .nil => 1
  | .ptr d => uptoBulk d + 1
  | .slice elems spare => uptoBulkAll elems + uptoBulkAll spare + 1
  | .agg parts => uptoBulkAll parts + 1
  | .iface _ d => uptoBulk d + 1
  | .map entries => uptoBulkEntries entries + 1
  | .held _ => 1
def uptoBulkAll {H : Type} : List (DataW H) → Nat
  | [] => 0
  | d :: r => uptoBulk d + uptoBulkAll r
def uptoBulkEntries {H : Type} : List (Lit × DataW H) → Nat
  | [] => 0
  | x :: r => uptoBulkEntry x + uptoBulkEntries r
def uptoBulkEntry {H : Type} : Lit × DataW H → Nat
  | (.string bytes, d) => bytes.length + uptoBulk d + 1
  | (_, d) => uptoBulk d + 1
 end
def uptoSmall : (H : Type) → List (DataW H) → Bool := fun _ ds => decide (uptoBulkAll ds ≤ 1048576)
def OpenSpec.upto (s : _root_.Go.ChangeSpec) : _root_.Go.OpenSpec := { _root_.Go.OpenSpec.ofChange s with cond := some uptoSmall }

/-- 'fenestralaw06.StateChunks', WHERE WHAT IT READS IS OF BULK AT MOST 1048576: true; the input reads as it did. -/
def stateChunksUptoRow : OpenClaim := { program := "ytefkbdmgplfgoaadoor", sum := "708d5086d0e44d7e8f28955d258bf4afbc810ead926f15e99b6dba69f18901cd", func := "fenestra/fenestralaw06.StateChunks", spec := "stateChunks", unfollowed := true, recurses := true, named := ["fenestra/state.fields", "fenestra/utf.marks"], apart := false, laid := [("fenestra/utf.marks", laid_fenestra_utf_marks), ("fenestra/state.fields", laid_fenestra_state_fields)], narrowed := true }
def StateChunksUptoSaid : Prop := stateChunksUptoRow.holds Tryd.pinned (OpenSpec.upto stateChunksSpec)

/-- 'fenestralaw06.StateEnds', WHERE WHAT IT READS IS OF BULK AT MOST 1048576: true; the input reads as it did. -/
def stateEndsUptoRow : OpenClaim := { program := "ytefkbdmgplfgoaadoor", sum := "708d5086d0e44d7e8f28955d258bf4afbc810ead926f15e99b6dba69f18901cd", func := "fenestra/fenestralaw06.StateEnds", spec := "stateEnds", unfollowed := true, recurses := true, named := ["fenestra/state.fields", "fenestra/utf.marks"], apart := false, laid := [("fenestra/utf.marks", laid_fenestra_utf_marks), ("fenestra/state.fields", laid_fenestra_state_fields)], narrowed := true }
def StateEndsUptoSaid : Prop := stateEndsUptoRow.holds Tryd.pinned (OpenSpec.upto stateEndsSpec)

/-- 'fenestralaw06.StateCsi', WHERE WHAT IT READS IS OF BULK AT MOST 1048576: true; the input reads as it did. -/
def stateCsiUptoRow : OpenClaim := { program := "ytefkbdmgplfgoaadoor", sum := "708d5086d0e44d7e8f28955d258bf4afbc810ead926f15e99b6dba69f18901cd", func := "fenestra/fenestralaw06.StateCsi", spec := "stateCsi", unfollowed := true, recurses := true, named := ["fenestra/state.fields", "fenestra/utf.marks"], apart := false, laid := [("fenestra/utf.marks", laid_fenestra_utf_marks), ("fenestra/state.fields", laid_fenestra_state_fields)], narrowed := true }
def StateCsiUptoSaid : Prop := stateCsiUptoRow.holds Tryd.pinned (OpenSpec.upto stateCsiSpec)

/-- 'fenestralaw06.StateTexts', WHERE WHAT IT READS IS OF BULK AT MOST 1048576: true; the input reads as it did. -/
def stateTextsUptoRow : OpenClaim := { program := "ytefkbdmgplfgoaadoor", sum := "708d5086d0e44d7e8f28955d258bf4afbc810ead926f15e99b6dba69f18901cd", func := "fenestra/fenestralaw06.StateTexts", spec := "stateTexts", unfollowed := true, recurses := true, named := ["fenestra/state.fields", "fenestra/utf.marks"], apart := false, laid := [("fenestra/utf.marks", laid_fenestra_utf_marks), ("fenestra/state.fields", laid_fenestra_state_fields)], narrowed := true }
def StateTextsUptoSaid : Prop := stateTextsUptoRow.holds Tryd.pinned (OpenSpec.upto stateTextsSpec)

end Rows
end Go.Proofs.YtefkbdmgplfgoaaDoor
