/-
  NARROWER THAN 'FOR EVERY INPUT', by the rows' own cells (each row's printed sentence says how): UtfPuts: laid · UtfSteps: laid · UtfReads: laid · UtfBack: laid · UtfPieces: laid · UtfFinds: laid · UtfKnown: laid.
  DERIVED. THE GIVEN ROWS OF THIS SEAT. 7 by the template 'for every input the law returns true; each argument reads behind the call as it read before'; 0 by the template 'total and deterministic' (their statements: YtciklknbllblmaaDoorTotals.lean).
  GIVEN WITH THE SEED: the statements are not yours to turn. If you find one false, say at which input.
  Laid BY PROGRAM, IN A SANDBOX (cutbox-rows.mjs): the forced cells as the released guide's own fill.sh prints them over the translation e8f6cc01b9495d6d… (all of the seat's roots in one cut). By AI agents, Wed Nov 11 2026. No macro, syntax, notation, axiom, sorry.
-/
import Derived.Test.YtciklknbllblmaaDoorChecked
import GoSem.Claim
import GoSem.ClaimJoined
import GoSem.ClaimMapViews
import Derived.JoinedTies
import Derived.KernelRfl
namespace Go.Proofs.YtciklknbllblmaaDoor
/- THE CELL 'sum', in the pinned program and in every row, IS THE sha256 OF THE DUMP (.gsa) THAT YtciklknbllblmaaDoorProg.lean LOADS. Nothing in Lean hashes anything: it is a label: what it is worth is what the hold of that sum in a sandbox is worth. -/
noncomputable def Tryd.pinned : Pinned := { name := "ytciklknbllblmaadoor", sum := "e8f6cc01b9495d6d21972c3528565d7354e5ad0e4ddb27b38eebfaa0a54de074", checked := Tryd.checked }
namespace Rows
def none {H : Type} : Left H := { results := [], args := [] }

/- WHAT THE LISTED PACKAGE-LEVEL VARIABLES READ AS WHEN THE CALL BEGINS. Each datum BY PROGRAM (the guide's laid-datum.mjs) off the statement by which the dump's own 'gosem.cut.vars' lays the variable. In a bare row this is a premise. The card (YtciklknbllblmaaDoorCards.lean) ties it to the program's text. -/
def laid_fenestra_utf_marks {H : Type} : DataW H := .agg [.lit (.int .i64 0), .lit (.int .i64 0), .lit (.int .i64 192), .lit (.int .i64 224), .lit (.int .i64 240)]

/-- 'fenestralaw01.UtfPuts': WHATEVER THE INPUT: true; the input reads as it did. -/
def utfPutsSpec : ChangeSpec := { name := "utfPuts", fn := fun _ => fun
  | [d1, d2] => { results := [.lit (.bool true)], args := [d1, d2] }
  | _ => none }
def utfPutsRow : OpenClaim := { program := "ytciklknbllblmaadoor", sum := "e8f6cc01b9495d6d21972c3528565d7354e5ad0e4ddb27b38eebfaa0a54de074", func := "fenestra/fenestralaw01.UtfPuts", spec := "utfPuts", unfollowed := true, recurses := true, named := ["fenestra/utf.marks"], apart := false, laid := [("fenestra/utf.marks", laid_fenestra_utf_marks)] }
def UtfPutsSaid : Prop := utfPutsRow.holds Tryd.pinned (OpenSpec.ofChange utfPutsSpec)

/-- ITS FALSE NEIGHBOUR: 'it returns false'. Refute it at one input. -/
def utfPutsWrong : ChangeSpec := { name := "utfPuts", fn := fun _ => fun
  | [d1, d2] => { results := [.lit (.bool false)], args := [d1, d2] }
  | _ => none }
def UtfPutsWrongFalsely : Prop := utfPutsRow.holds Tryd.pinned (OpenSpec.ofChange utfPutsWrong)

/-- 'fenestralaw01.UtfSteps': WHATEVER THE INPUT: true; the input reads as it did. -/
def utfStepsSpec : ChangeSpec := { name := "utfSteps", fn := fun _ => fun
  | [d1, d2, d3, d4] => { results := [.lit (.bool true)], args := [d1, d2, d3, d4] }
  | _ => none }
def utfStepsRow : OpenClaim := { program := "ytciklknbllblmaadoor", sum := "e8f6cc01b9495d6d21972c3528565d7354e5ad0e4ddb27b38eebfaa0a54de074", func := "fenestra/fenestralaw01.UtfSteps", spec := "utfSteps", unfollowed := true, recurses := true, named := ["fenestra/utf.marks"], apart := false, laid := [("fenestra/utf.marks", laid_fenestra_utf_marks)] }
def UtfStepsSaid : Prop := utfStepsRow.holds Tryd.pinned (OpenSpec.ofChange utfStepsSpec)

/-- ITS FALSE NEIGHBOUR: 'it returns false'. Refute it at one input. -/
def utfStepsWrong : ChangeSpec := { name := "utfSteps", fn := fun _ => fun
  | [d1, d2, d3, d4] => { results := [.lit (.bool false)], args := [d1, d2, d3, d4] }
  | _ => none }
def UtfStepsWrongFalsely : Prop := utfStepsRow.holds Tryd.pinned (OpenSpec.ofChange utfStepsWrong)

/-- 'fenestralaw01.UtfReads': WHATEVER THE INPUT: true; the input reads as it did. -/
def utfReadsSpec : ChangeSpec := { name := "utfReads", fn := fun _ => fun
  | [d1, d2, d3, d4] => { results := [.lit (.bool true)], args := [d1, d2, d3, d4] }
  | _ => none }
def utfReadsRow : OpenClaim := { program := "ytciklknbllblmaadoor", sum := "e8f6cc01b9495d6d21972c3528565d7354e5ad0e4ddb27b38eebfaa0a54de074", func := "fenestra/fenestralaw01.UtfReads", spec := "utfReads", unfollowed := true, recurses := true, named := ["fenestra/utf.marks"], apart := false, laid := [("fenestra/utf.marks", laid_fenestra_utf_marks)] }
def UtfReadsSaid : Prop := utfReadsRow.holds Tryd.pinned (OpenSpec.ofChange utfReadsSpec)

/-- ITS FALSE NEIGHBOUR: 'it returns false'. Refute it at one input. -/
def utfReadsWrong : ChangeSpec := { name := "utfReads", fn := fun _ => fun
  | [d1, d2, d3, d4] => { results := [.lit (.bool false)], args := [d1, d2, d3, d4] }
  | _ => none }
def UtfReadsWrongFalsely : Prop := utfReadsRow.holds Tryd.pinned (OpenSpec.ofChange utfReadsWrong)

/-- 'fenestralaw01.UtfBack': WHATEVER THE INPUT: true; the input reads as it did. -/
def utfBackSpec : ChangeSpec := { name := "utfBack", fn := fun _ => fun
  | [d1, d2] => { results := [.lit (.bool true)], args := [d1, d2] }
  | _ => none }
def utfBackRow : OpenClaim := { program := "ytciklknbllblmaadoor", sum := "e8f6cc01b9495d6d21972c3528565d7354e5ad0e4ddb27b38eebfaa0a54de074", func := "fenestra/fenestralaw01.UtfBack", spec := "utfBack", unfollowed := true, recurses := true, named := ["fenestra/utf.marks"], apart := false, laid := [("fenestra/utf.marks", laid_fenestra_utf_marks)] }
def UtfBackSaid : Prop := utfBackRow.holds Tryd.pinned (OpenSpec.ofChange utfBackSpec)

/-- ITS FALSE NEIGHBOUR: 'it returns false'. Refute it at one input. -/
def utfBackWrong : ChangeSpec := { name := "utfBack", fn := fun _ => fun
  | [d1, d2] => { results := [.lit (.bool false)], args := [d1, d2] }
  | _ => none }
def UtfBackWrongFalsely : Prop := utfBackRow.holds Tryd.pinned (OpenSpec.ofChange utfBackWrong)

/-- 'fenestralaw01.UtfPieces': WHATEVER THE INPUT: true; the input reads as it did. -/
def utfPiecesSpec : ChangeSpec := { name := "utfPieces", fn := fun _ => fun
  | [d] => { results := [.lit (.bool true)], args := [d] }
  | _ => none }
def utfPiecesRow : OpenClaim := { program := "ytciklknbllblmaadoor", sum := "e8f6cc01b9495d6d21972c3528565d7354e5ad0e4ddb27b38eebfaa0a54de074", func := "fenestra/fenestralaw01.UtfPieces", spec := "utfPieces", unfollowed := true, recurses := true, named := ["fenestra/utf.marks"], apart := false, laid := [("fenestra/utf.marks", laid_fenestra_utf_marks)] }
def UtfPiecesSaid : Prop := utfPiecesRow.holds Tryd.pinned (OpenSpec.ofChange utfPiecesSpec)

/-- ITS FALSE NEIGHBOUR: 'it returns false'. Refute it at one input. -/
def utfPiecesWrong : ChangeSpec := { name := "utfPieces", fn := fun _ => fun
  | [d] => { results := [.lit (.bool false)], args := [d] }
  | _ => none }
def UtfPiecesWrongFalsely : Prop := utfPiecesRow.holds Tryd.pinned (OpenSpec.ofChange utfPiecesWrong)

/-- 'fenestralaw01.UtfFinds': WHATEVER THE INPUT: true; the input reads as it did. -/
def utfFindsSpec : ChangeSpec := { name := "utfFinds", fn := fun _ => fun
  | [d1, d2, d3] => { results := [.lit (.bool true)], args := [d1, d2, d3] }
  | _ => none }
def utfFindsRow : OpenClaim := { program := "ytciklknbllblmaadoor", sum := "e8f6cc01b9495d6d21972c3528565d7354e5ad0e4ddb27b38eebfaa0a54de074", func := "fenestra/fenestralaw01.UtfFinds", spec := "utfFinds", unfollowed := true, recurses := true, named := ["fenestra/utf.marks"], apart := false, laid := [("fenestra/utf.marks", laid_fenestra_utf_marks)] }
def UtfFindsSaid : Prop := utfFindsRow.holds Tryd.pinned (OpenSpec.ofChange utfFindsSpec)

/-- ITS FALSE NEIGHBOUR: 'it returns false'. Refute it at one input. -/
def utfFindsWrong : ChangeSpec := { name := "utfFinds", fn := fun _ => fun
  | [d1, d2, d3] => { results := [.lit (.bool false)], args := [d1, d2, d3] }
  | _ => none }
def UtfFindsWrongFalsely : Prop := utfFindsRow.holds Tryd.pinned (OpenSpec.ofChange utfFindsWrong)

/-- 'fenestralaw01.UtfKnown': WHATEVER THE INPUT: true; the input reads as it did. -/
def utfKnownSpec : ChangeSpec := { name := "utfKnown", fn := fun _ => fun
  | [] => { results := [.lit (.bool true)], args := [] }
  | _ => none }
def utfKnownRow : OpenClaim := { program := "ytciklknbllblmaadoor", sum := "e8f6cc01b9495d6d21972c3528565d7354e5ad0e4ddb27b38eebfaa0a54de074", func := "fenestra/fenestralaw01.UtfKnown", spec := "utfKnown", unfollowed := true, recurses := true, named := ["fenestra/utf.marks"], apart := false, laid := [("fenestra/utf.marks", laid_fenestra_utf_marks)] }
def UtfKnownSaid : Prop := utfKnownRow.holds Tryd.pinned (OpenSpec.ofChange utfKnownSpec)

/-- ITS FALSE NEIGHBOUR: 'it returns false'. Refute it at one input. -/
def utfKnownWrong : ChangeSpec := { name := "utfKnown", fn := fun _ => fun
  | [] => { results := [.lit (.bool false)], args := [] }
  | _ => none }
def UtfKnownWrongFalsely : Prop := utfKnownRow.holds Tryd.pinned (OpenSpec.ofChange utfKnownWrong)

/- THE SECOND FORM. 'bulk': how many values and letters a reading holds, each counted each time it is reached (what is shared counts as often as it is met; a slice's spare places count too). A statement '..UptoSaid' is the law's where the arguments, and the package variables that the reading takes, are together of bulk at most 1048576: NARROWER than '..Said'. Prove '..Said' where nothing that the law and all that it calls make is longer than what came in: it says more and counts as full. Else prove '..UptoSaid'. A law counts once. -/
mutual
def uptoBulk {H : Type} : DataW H → Nat
  | .lit (.string bytes) => bytes.length + 1
  | .lit _ => 1
  | .nil => 1
  | .ptr d => uptoBulk d + 1
  | .slice elems spare => uptoBulkAll elems + uptoBulkAll spare + 1
  | .agg parts => uptoBulkAll parts + 1
  | .iface _ d => uptoBulk d + 1
  | .map entries => uptoBulkEntries entries + 1
  | .held _ => 1
def uptoBulkAll {H : Type} : List (DataW H) → Nat
  | [] => 0
  | d :: r => uptoBulk d + uptoBulkAll r
def uptoBulkEntries {H : Type} : List (Lit × DataW H) → Nat
  | [] => 0
  | x :: r => uptoBulkEntry x + uptoBulkEntries r
def uptoBulkEntry {H : Type} : Lit × DataW H → Nat
  | (.string bytes, d) => bytes.length + uptoBulk d + 1
  | (_, d) => uptoBulk d + 1
 end
def uptoSmall : (H : Type) → List (DataW H) → Bool := fun _ ds => decide (uptoBulkAll ds ≤ 1048576)
def OpenSpec.upto (s : _root_.Go.ChangeSpec) : _root_.Go.OpenSpec := { _root_.Go.OpenSpec.ofChange s with cond := some uptoSmall }

/-- 'fenestralaw01.UtfPuts', WHERE WHAT IT READS IS OF BULK AT MOST 1048576: true; the input reads as it did. -/
def utfPutsUptoRow : OpenClaim := { program := "ytciklknbllblmaadoor", sum := "e8f6cc01b9495d6d21972c3528565d7354e5ad0e4ddb27b38eebfaa0a54de074", func := "fenestra/fenestralaw01.UtfPuts", spec := "utfPuts", unfollowed := true, recurses := true, named := ["fenestra/utf.marks"], apart := false, laid := [("fenestra/utf.marks", laid_fenestra_utf_marks)], narrowed := true }
def UtfPutsUptoSaid : Prop := utfPutsUptoRow.holds Tryd.pinned (OpenSpec.upto utfPutsSpec)

/-- 'fenestralaw01.UtfSteps', WHERE WHAT IT READS IS OF BULK AT MOST 1048576: true; the input reads as it did. -/
def utfStepsUptoRow : OpenClaim := { program := "ytciklknbllblmaadoor", sum := "e8f6cc01b9495d6d21972c3528565d7354e5ad0e4ddb27b38eebfaa0a54de074", func := "fenestra/fenestralaw01.UtfSteps", spec := "utfSteps", unfollowed := true, recurses := true, named := ["fenestra/utf.marks"], apart := false, laid := [("fenestra/utf.marks", laid_fenestra_utf_marks)], narrowed := true }
def UtfStepsUptoSaid : Prop := utfStepsUptoRow.holds Tryd.pinned (OpenSpec.upto utfStepsSpec)

/-- 'fenestralaw01.UtfReads', WHERE WHAT IT READS IS OF BULK AT MOST 1048576: true; the input reads as it did. -/
def utfReadsUptoRow : OpenClaim := { program := "ytciklknbllblmaadoor", sum := "e8f6cc01b9495d6d21972c3528565d7354e5ad0e4ddb27b38eebfaa0a54de074", func := "fenestra/fenestralaw01.UtfReads", spec := "utfReads", unfollowed := true, recurses := true, named := ["fenestra/utf.marks"], apart := false, laid := [("fenestra/utf.marks", laid_fenestra_utf_marks)], narrowed := true }
def UtfReadsUptoSaid : Prop := utfReadsUptoRow.holds Tryd.pinned (OpenSpec.upto utfReadsSpec)

/-- 'fenestralaw01.UtfBack', WHERE WHAT IT READS IS OF BULK AT MOST 1048576: true; the input reads as it did. -/
def utfBackUptoRow : OpenClaim := { program := "ytciklknbllblmaadoor", sum := "e8f6cc01b9495d6d21972c3528565d7354e5ad0e4ddb27b38eebfaa0a54de074", func := "fenestra/fenestralaw01.UtfBack", spec := "utfBack", unfollowed := true, recurses := true, named := ["fenestra/utf.marks"], apart := false, laid := [("fenestra/utf.marks", laid_fenestra_utf_marks)], narrowed := true }
def UtfBackUptoSaid : Prop := utfBackUptoRow.holds Tryd.pinned (OpenSpec.upto utfBackSpec)

/-- 'fenestralaw01.UtfPieces', WHERE WHAT IT READS IS OF BULK AT MOST 1048576: true; the input reads as it did. -/
def utfPiecesUptoRow : OpenClaim := { program := "ytciklknbllblmaadoor", sum := "e8f6cc01b9495d6d21972c3528565d7354e5ad0e4ddb27b38eebfaa0a54de074", func := "fenestra/fenestralaw01.UtfPieces", spec := "utfPieces", unfollowed := true, recurses := true, named := ["fenestra/utf.marks"], apart := false, laid := [("fenestra/utf.marks", laid_fenestra_utf_marks)], narrowed := true }
def UtfPiecesUptoSaid : Prop := utfPiecesUptoRow.holds Tryd.pinned (OpenSpec.upto utfPiecesSpec)

/-- 'fenestralaw01.UtfFinds', WHERE WHAT IT READS IS OF BULK AT MOST 1048576: true; the input reads as it did. -/
def utfFindsUptoRow : OpenClaim := { program := "ytciklknbllblmaadoor", sum := "e8f6cc01b9495d6d21972c3528565d7354e5ad0e4ddb27b38eebfaa0a54de074", func := "fenestra/fenestralaw01.UtfFinds", spec := "utfFinds", unfollowed := true, recurses := true, named := ["fenestra/utf.marks"], apart := false, laid := [("fenestra/utf.marks", laid_fenestra_utf_marks)], narrowed := true }
def UtfFindsUptoSaid : Prop := utfFindsUptoRow.holds Tryd.pinned (OpenSpec.upto utfFindsSpec)

/-- 'fenestralaw01.UtfKnown', WHERE WHAT IT READS IS OF BULK AT MOST 1048576: true; the input reads as it did. -/
def utfKnownUptoRow : OpenClaim := { program := "ytciklknbllblmaadoor", sum := "e8f6cc01b9495d6d21972c3528565d7354e5ad0e4ddb27b38eebfaa0a54de074", func := "fenestra/fenestralaw01.UtfKnown", spec := "utfKnown", unfollowed := true, recurses := true, named := ["fenestra/utf.marks"], apart := false, laid := [("fenestra/utf.marks", laid_fenestra_utf_marks)], narrowed := true }
def UtfKnownUptoSaid : Prop := utfKnownUptoRow.holds Tryd.pinned (OpenSpec.upto utfKnownSpec)

end Rows
end Go.Proofs.YtciklknbllblmaaDoor
