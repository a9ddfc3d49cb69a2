/-
  NARROWER THAN 'FOR EVERY INPUT', by the rows' own cells (each row's printed sentence says how): StateChecks: laid · StateSteps: laid · StateFeeds: laid.
  DERIVED. THE GIVEN ROWS OF THIS SEAT. 3 by the template 'for every input the law returns true; each argument reads behind the call as it read before'; 0 by the template 'total and deterministic' (their statements: YtmboekpomjgnnaaGreatDoorTotals.lean).
  GIVEN WITH THE SEED: the statements are not yours to turn. If you find one false, say at which input.
  Laid BY PROGRAM, IN A SANDBOX (cutbox-rows.mjs): the forced cells as the released guide's own fill.sh prints them over the translation 76fed269af3b23c0… (all of the seat's roots in one cut). By AI agents, Wed Nov 11 2026. No macro, syntax, notation, axiom, sorry.
-/
import Derived.Test.YtmboekpomjgnnaaGreatDoorChecked
import GoSem.Claim
import GoSem.ClaimJoined
import GoSem.ClaimMapViews
import Derived.JoinedTies
import Derived.KernelRfl
namespace Go.Proofs.YtmboekpomjgnnaaGreatDoor
/- THE CELL 'sum', in the pinned program and in every row, IS THE sha256 OF THE DUMP (.gsa) THAT YtmboekpomjgnnaaGreatDoorProg.lean LOADS. Nothing in Lean hashes anything: it is a label: what it is worth is what the hold of that sum in a sandbox is worth. -/
noncomputable def Tryz.pinned : Pinned := { name := "ytmboekpomjgnnaagreatdoor", sum := "76fed269af3b23c07dd4feafe0e03de59c8953c4df2a806191952a201a9c50f5", checked := Tryz.checked }
namespace Rows
def none {H : Type} : Left H := { results := [], args := [] }

/- WHAT THE LISTED PACKAGE-LEVEL VARIABLES READ AS WHEN THE CALL BEGINS. Each datum BY PROGRAM (the guide's laid-datum.mjs) off the statement by which the dump's own 'gosem.cut.vars' lays the variable. In a bare row this is a premise. The card (YtmboekpomjgnnaaGreatDoorCards.lean) ties it to the program's text. -/
def laid_fenestra_utf_marks {H : Type} : DataW H := .agg [.lit (.int .i64 0), .lit (.int .i64 0), .lit (.int .i64 192), .lit (.int .i64 224), .lit (.int .i64 240)]
def laid_fenestra_state_fields {H : Type} : DataW H := .agg [.lit (.int .i64 1), .lit (.int .i64 0), .lit (.int .i64 8), .lit (.int .i64 0), .lit (.int .i64 6), .lit (.int .i64 14), .lit (.int .i64 32), .lit (.int .i64 32), .lit (.int .i64 0), .lit (.int .i64 6), .lit (.int .i64 14), .lit (.int .i64 62), .lit (.int .i64 62), .lit (.int .i64 0), .lit (.int .i64 0)]

/-- 'fenestralaw06.StateChecks': WHATEVER THE INPUT: true; the input reads as it did. -/
def stateChecksSpec : ChangeSpec := { name := "stateChecks", fn := fun _ => fun
  | [d1, d2, d3, d4] => { results := [.lit (.bool true)], args := [d1, d2, d3, d4] }
  | _ => none }
def stateChecksRow : OpenClaim := { program := "ytmboekpomjgnnaagreatdoor", sum := "76fed269af3b23c07dd4feafe0e03de59c8953c4df2a806191952a201a9c50f5", func := "fenestra/fenestralaw06.StateChecks", spec := "stateChecks", unfollowed := true, recurses := true, named := ["fenestra/state.fields", "fenestra/utf.marks"], apart := false, laid := [("fenestra/utf.marks", laid_fenestra_utf_marks), ("fenestra/state.fields", laid_fenestra_state_fields)] }
def StateChecksSaid : Prop := stateChecksRow.holds Tryz.pinned (OpenSpec.ofChange stateChecksSpec)

/-- ITS FALSE NEIGHBOUR: 'it returns false'. Refute it at one input. -/
def stateChecksWrong : ChangeSpec := { name := "stateChecks", fn := fun _ => fun
  | [d1, d2, d3, d4] => { results := [.lit (.bool false)], args := [d1, d2, d3, d4] }
  | _ => none }
def StateChecksWrongFalsely : Prop := stateChecksRow.holds Tryz.pinned (OpenSpec.ofChange stateChecksWrong)

/-- 'fenestralaw06.StateSteps': WHATEVER THE INPUT: true; the input reads as it did. -/
def stateStepsSpec : ChangeSpec := { name := "stateSteps", fn := fun _ => fun
  | [d1, d2, d3] => { results := [.lit (.bool true)], args := [d1, d2, d3] }
  | _ => none }
def stateStepsRow : OpenClaim := { program := "ytmboekpomjgnnaagreatdoor", sum := "76fed269af3b23c07dd4feafe0e03de59c8953c4df2a806191952a201a9c50f5", func := "fenestra/fenestralaw06.StateSteps", spec := "stateSteps", unfollowed := true, recurses := true, named := ["fenestra/state.fields", "fenestra/utf.marks"], apart := false, laid := [("fenestra/utf.marks", laid_fenestra_utf_marks), ("fenestra/state.fields", laid_fenestra_state_fields)] }
def StateStepsSaid : Prop := stateStepsRow.holds Tryz.pinned (OpenSpec.ofChange stateStepsSpec)

/-- ITS FALSE NEIGHBOUR: 'it returns false'. Refute it at one input. -/
def stateStepsWrong : ChangeSpec := { name := "stateSteps", fn := fun _ => fun
  | [d1, d2, d3] => { results := [.lit (.bool false)], args := [d1, d2, d3] }
  | _ => none }
def StateStepsWrongFalsely : Prop := stateStepsRow.holds Tryz.pinned (OpenSpec.ofChange stateStepsWrong)

/-- 'fenestralaw06.StateFeeds': WHATEVER THE INPUT: true; the input reads as it did. -/
def stateFeedsSpec : ChangeSpec := { name := "stateFeeds", fn := fun _ => fun
  | [d1, d2, d3] => { results := [.lit (.bool true)], args := [d1, d2, d3] }
  | _ => none }
def stateFeedsRow : OpenClaim := { program := "ytmboekpomjgnnaagreatdoor", sum := "76fed269af3b23c07dd4feafe0e03de59c8953c4df2a806191952a201a9c50f5", func := "fenestra/fenestralaw06.StateFeeds", spec := "stateFeeds", unfollowed := true, recurses := true, named := ["fenestra/state.fields", "fenestra/utf.marks"], apart := false, laid := [("fenestra/utf.marks", laid_fenestra_utf_marks), ("fenestra/state.fields", laid_fenestra_state_fields)] }
def StateFeedsSaid : Prop := stateFeedsRow.holds Tryz.pinned (OpenSpec.ofChange stateFeedsSpec)

/-- ITS FALSE NEIGHBOUR: 'it returns false'. Refute it at one input. -/
def stateFeedsWrong : ChangeSpec := { name := "stateFeeds", fn := fun _ => fun
  | [d1, d2, d3] => { results := [.lit (.bool false)], args := [d1, d2, d3] }
  | _ => none }
def StateFeedsWrongFalsely : Prop := stateFeedsRow.holds Tryz.pinned (OpenSpec.ofChange stateFeedsWrong)

/- THE SECOND FORM. 'bulk': how many values and letters a reading holds, each counted each time it is reached (what is shared counts as often as it is met; a slice's spare places count too). A statement '..UptoSaid' is the law's where the arguments, and the package variables that the reading takes, are together of bulk at most 1048576: NARROWER than '..Said'. Prove '..Said' where nothing that the law and all that it calls make is longer than what came in: it says more and counts as full. Else prove '..UptoSaid'. A law counts once. -/
mutual
def uptoBulk {H : Type} : DataW H → Nat
  | .lit (.string bytes) => bytes.length + 1
  | .lit _ => 1
  | .nil => 1
  | .ptr d => uptoBulk d + 1
  | .slice elems spare => uptoBulkAll elems + uptoBulkAll spare + 1
  | .agg parts => uptoBulkAll parts + 1
  | .iface _ d => uptoBulk d + 1
  | .map entries => uptoBulkEntries entries + 1
  | .held _ => 1
def uptoBulkAll {H : Type} : List (DataW H) → Nat
  | [] => 0
  | d :: r => uptoBulk d + uptoBulkAll r
def uptoBulkEntries {H : Type} : List (Lit × DataW H) → Nat
  | [] => 0
  | x :: r => uptoBulkEntry x + uptoBulkEntries r
def uptoBulkEntry {H : Type} : Lit × DataW H → Nat
  | (.string bytes, d) => bytes.length + uptoBulk d + 1
  | (_, d) => uptoBulk d + 1
 end
def uptoSmall : (H : Type) → List (DataW H) → Bool := fun _ ds => decide (uptoBulkAll ds ≤ 1048576)
def OpenSpec.upto (s : _root_.Go.ChangeSpec) : _root_.Go.OpenSpec := { _root_.Go.OpenSpec.ofChange s with cond := some uptoSmall }

/-- 'fenestralaw06.StateChecks', WHERE WHAT IT READS IS OF BULK AT MOST 1048576: true; the input reads as it did. -/
def stateChecksUptoRow : OpenClaim := { program := "ytmboekpomjgnnaagreatdoor", sum := "76fed269af3b23c07dd4feafe0e03de59c8953c4df2a806191952a201a9c50f5", func := "fenestra/fenestralaw06.StateChecks", spec := "stateChecks", unfollowed := true, recurses := true, named := ["fenestra/state.fields", "fenestra/utf.marks"], apart := false, laid := [("fenestra/utf.marks", laid_fenestra_utf_marks), ("fenestra/state.fields", laid_fenestra_state_fields)], narrowed := true }
def StateChecksUptoSaid : Prop := stateChecksUptoRow.holds Tryz.pinned (OpenSpec.upto stateChecksSpec)

/-- 'fenestralaw06.StateSteps', WHERE WHAT IT READS IS OF BULK AT MOST 1048576: true; the input reads as it did. -/
def stateStepsUptoRow : OpenClaim := { program := "ytmboekpomjgnnaagreatdoor", sum := "76fed269af3b23c07dd4feafe0e03de59c8953c4df2a806191952a201a9c50f5", func := "fenestra/fenestralaw06.StateSteps", spec := "stateSteps", unfollowed := true, recurses := true, named := ["fenestra/state.fields", "fenestra/utf.marks"], apart := false, laid := [("fenestra/utf.marks", laid_fenestra_utf_marks), ("fenestra/state.fields", laid_fenestra_state_fields)], narrowed := true }
def StateStepsUptoSaid : Prop := stateStepsUptoRow.holds Tryz.pinned (OpenSpec.upto stateStepsSpec)

/-- 'fenestralaw06.StateFeeds', WHERE WHAT IT READS IS OF BULK AT MOST 1048576: true; the input reads as it did. -/
def stateFeedsUptoRow : OpenClaim := { program := "ytmboekpomjgnnaagreatdoor", sum := "76fed269af3b23c07dd4feafe0e03de59c8953c4df2a806191952a201a9c50f5", func := "fenestra/fenestralaw06.StateFeeds", spec := "stateFeeds", unfollowed := true, recurses := true, named := ["fenestra/state.fields", "fenestra/utf.marks"], apart := false, laid := [("fenestra/utf.marks", laid_fenestra_utf_marks), ("fenestra/state.fields", laid_fenestra_state_fields)], narrowed := true }
def StateFeedsUptoSaid : Prop := stateFeedsUptoRow.holds Tryz.pinned (OpenSpec.upto stateFeedsSpec)

end Rows
end Go.Proofs.YtmboekpomjgnnaaGreatDoor
