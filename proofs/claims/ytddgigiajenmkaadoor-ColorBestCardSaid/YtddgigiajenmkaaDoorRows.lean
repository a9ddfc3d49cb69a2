/-
  NARROWER THAN 'FOR EVERY INPUT', by the rows' own cells (each row's printed sentence says how): ColorTells: laid · ColorNears: laid · ColorParses: laid · ColorBest: laid · ColorBack: laid · ColorCube: laid · ColorKnown: laid.
  DERIVED. THE GIVEN ROWS OF THIS SEAT. 7 by the template 'for every input the law returns true; each argument reads behind the call as it read before'; 0 by the template 'total and deterministic' (their statements: YtddgigiajenmkaaDoorTotals.lean).
  GIVEN WITH THE SEED: the statements are not yours to turn. If you find one false, say at which input.
  Laid BY PROGRAM, IN A SANDBOX (cutbox-rows.mjs): the forced cells as the released guide's own fill.sh prints them over the translation 60bd7640ec850ea1… (all of the seat's roots in one cut). By AI agents, Wed Nov 11 2026. No macro, syntax, notation, axiom, sorry.
-/
import Derived.Test.YtddgigiajenmkaaDoorChecked
import GoSem.Claim
import GoSem.ClaimJoined
import GoSem.ClaimMapViews
import Derived.JoinedTies
import Derived.KernelRfl
namespace Go.Proofs.YtddgigiajenmkaaDoor
/- THE CELL 'sum', in the pinned program and in every row, IS THE sha256 OF THE DUMP (.gsa) THAT YtddgigiajenmkaaDoorProg.lean LOADS. Nothing in Lean hashes anything: it is a label: what it is worth is what the hold of that sum in a sandbox is worth. -/
noncomputable def Tryd.pinned : Pinned := { name := "ytddgigiajenmkaadoor", sum := "60bd7640ec850ea1b47e1030cfde231702685c3aa8e986f31aed06c3c2ef2bcb", checked := Tryd.checked }
namespace Rows
def none {H : Type} : Left H := { results := [], args := [] }

/- WHAT THE LISTED PACKAGE-LEVEL VARIABLES READ AS WHEN THE CALL BEGINS. Each datum BY PROGRAM (the guide's laid-datum.mjs) off the statement by which the dump's own 'gosem.cut.vars' lays the variable. In a bare row this is a premise. The card (YtddgigiajenmkaaDoorCards.lean) ties it to the program's text. -/
def laid_fenestra_color_limits {H : Type} : DataW H := .agg [.lit (.int .i64 0), .lit (.int .i64 255), .lit (.int .i64 16777215)]
def laid_fenestra_color_basics {H : Type} : DataW H := .agg [.lit (.int .i64 0), .lit (.int .i64 13434880), .lit (.int .i64 52480), .lit (.int .i64 13487360), .lit (.int .i64 238), .lit (.int .i64 13435085), .lit (.int .i64 52685), .lit (.int .i64 15066597), .lit (.int .i64 8355711), .lit (.int .i64 16711680), .lit (.int .i64 65280), .lit (.int .i64 16776960), .lit (.int .i64 6053119), .lit (.int .i64 16711935), .lit (.int .i64 65535), .lit (.int .i64 16777215)]
def laid_fenestra_color_levels {H : Type} : DataW H := .agg [.lit (.int .i64 0), .lit (.int .i64 95), .lit (.int .i64 135), .lit (.int .i64 175), .lit (.int .i64 215), .lit (.int .i64 255)]

/-- 'fenestralaw03.ColorTells': WHATEVER THE INPUT: true; the input reads as it did. -/
def colorTellsSpec : ChangeSpec := { name := "colorTells", fn := fun _ => fun
  | [d] => { results := [.lit (.bool true)], args := [d] }
  | _ => none }
def colorTellsRow : OpenClaim := { program := "ytddgigiajenmkaadoor", sum := "60bd7640ec850ea1b47e1030cfde231702685c3aa8e986f31aed06c3c2ef2bcb", func := "fenestra/fenestralaw03.ColorTells", spec := "colorTells", unfollowed := true, recurses := true, named := ["fenestra/color.limits", "fenestra/color.basics", "fenestra/color.levels"], apart := false, laid := [("fenestra/color.limits", laid_fenestra_color_limits), ("fenestra/color.basics", laid_fenestra_color_basics), ("fenestra/color.levels", laid_fenestra_color_levels)] }
def ColorTellsSaid : Prop := colorTellsRow.holds Tryd.pinned (OpenSpec.ofChange colorTellsSpec)

/-- ITS FALSE NEIGHBOUR: 'it returns false'. Refute it at one input. -/
def colorTellsWrong : ChangeSpec := { name := "colorTells", fn := fun _ => fun
  | [d] => { results := [.lit (.bool false)], args := [d] }
  | _ => none }
def ColorTellsWrongFalsely : Prop := colorTellsRow.holds Tryd.pinned (OpenSpec.ofChange colorTellsWrong)

/-- 'fenestralaw03.ColorNears': WHATEVER THE INPUT: true; the input reads as it did. -/
def colorNearsSpec : ChangeSpec := { name := "colorNears", fn := fun _ => fun
  | [d1, d2, d3] => { results := [.lit (.bool true)], args := [d1, d2, d3] }
  | _ => none }
def colorNearsRow : OpenClaim := { program := "ytddgigiajenmkaadoor", sum := "60bd7640ec850ea1b47e1030cfde231702685c3aa8e986f31aed06c3c2ef2bcb", func := "fenestra/fenestralaw03.ColorNears", spec := "colorNears", unfollowed := true, recurses := true, named := ["fenestra/color.limits", "fenestra/color.basics", "fenestra/color.levels"], apart := false, laid := [("fenestra/color.limits", laid_fenestra_color_limits), ("fenestra/color.basics", laid_fenestra_color_basics), ("fenestra/color.levels", laid_fenestra_color_levels)] }
def ColorNearsSaid : Prop := colorNearsRow.holds Tryd.pinned (OpenSpec.ofChange colorNearsSpec)

/-- ITS FALSE NEIGHBOUR: 'it returns false'. Refute it at one input. -/
def colorNearsWrong : ChangeSpec := { name := "colorNears", fn := fun _ => fun
  | [d1, d2, d3] => { results := [.lit (.bool false)], args := [d1, d2, d3] }
  | _ => none }
def ColorNearsWrongFalsely : Prop := colorNearsRow.holds Tryd.pinned (OpenSpec.ofChange colorNearsWrong)

/-- 'fenestralaw03.ColorParses': WHATEVER THE INPUT: true; the input reads as it did. -/
def colorParsesSpec : ChangeSpec := { name := "colorParses", fn := fun _ => fun
  | [d1, d2, d3, d4] => { results := [.lit (.bool true)], args := [d1, d2, d3, d4] }
  | _ => none }
def colorParsesRow : OpenClaim := { program := "ytddgigiajenmkaadoor", sum := "60bd7640ec850ea1b47e1030cfde231702685c3aa8e986f31aed06c3c2ef2bcb", func := "fenestra/fenestralaw03.ColorParses", spec := "colorParses", unfollowed := true, recurses := true, named := ["fenestra/color.limits", "fenestra/color.basics", "fenestra/color.levels"], apart := false, laid := [("fenestra/color.limits", laid_fenestra_color_limits), ("fenestra/color.basics", laid_fenestra_color_basics), ("fenestra/color.levels", laid_fenestra_color_levels)] }
def ColorParsesSaid : Prop := colorParsesRow.holds Tryd.pinned (OpenSpec.ofChange colorParsesSpec)

/-- ITS FALSE NEIGHBOUR: 'it returns false'. Refute it at one input. -/
def colorParsesWrong : ChangeSpec := { name := "colorParses", fn := fun _ => fun
  | [d1, d2, d3, d4] => { results := [.lit (.bool false)], args := [d1, d2, d3, d4] }
  | _ => none }
def ColorParsesWrongFalsely : Prop := colorParsesRow.holds Tryd.pinned (OpenSpec.ofChange colorParsesWrong)

/-- 'fenestralaw03.ColorBest': WHATEVER THE INPUT: true; the input reads as it did. -/
def colorBestSpec : ChangeSpec := { name := "colorBest", fn := fun _ => fun
  | [d1, d2] => { results := [.lit (.bool true)], args := [d1, d2] }
  | _ => none }
def colorBestRow : OpenClaim := { program := "ytddgigiajenmkaadoor", sum := "60bd7640ec850ea1b47e1030cfde231702685c3aa8e986f31aed06c3c2ef2bcb", func := "fenestra/fenestralaw03.ColorBest", spec := "colorBest", unfollowed := true, recurses := true, named := ["fenestra/color.limits", "fenestra/color.basics", "fenestra/color.levels"], apart := false, laid := [("fenestra/color.limits", laid_fenestra_color_limits), ("fenestra/color.basics", laid_fenestra_color_basics), ("fenestra/color.levels", laid_fenestra_color_levels)] }
def ColorBestSaid : Prop := colorBestRow.holds Tryd.pinned (OpenSpec.ofChange colorBestSpec)

/-- ITS FALSE NEIGHBOUR: 'it returns false'. Refute it at one input. -/
def colorBestWrong : ChangeSpec := { name := "colorBest", fn := fun _ => fun
  | [d1, d2] => { results := [.lit (.bool false)], args := [d1, d2] }
  | _ => none }
def ColorBestWrongFalsely : Prop := colorBestRow.holds Tryd.pinned (OpenSpec.ofChange colorBestWrong)

/-- 'fenestralaw03.ColorBack': WHATEVER THE INPUT: true; the input reads as it did. -/
def colorBackSpec : ChangeSpec := { name := "colorBack", fn := fun _ => fun
  | [d1, d2, d3] => { results := [.lit (.bool true)], args := [d1, d2, d3] }
  | _ => none }
def colorBackRow : OpenClaim := { program := "ytddgigiajenmkaadoor", sum := "60bd7640ec850ea1b47e1030cfde231702685c3aa8e986f31aed06c3c2ef2bcb", func := "fenestra/fenestralaw03.ColorBack", spec := "colorBack", unfollowed := true, recurses := true, named := ["fenestra/color.limits", "fenestra/color.basics", "fenestra/color.levels"], apart := false, laid := [("fenestra/color.limits", laid_fenestra_color_limits), ("fenestra/color.basics", laid_fenestra_color_basics), ("fenestra/color.levels", laid_fenestra_color_levels)] }
def ColorBackSaid : Prop := colorBackRow.holds Tryd.pinned (OpenSpec.ofChange colorBackSpec)

/-- ITS FALSE NEIGHBOUR: 'it returns false'. Refute it at one input. -/
def colorBackWrong : ChangeSpec := { name := "colorBack", fn := fun _ => fun
  | [d1, d2, d3] => { results := [.lit (.bool false)], args := [d1, d2, d3] }
  | _ => none }
def ColorBackWrongFalsely : Prop := colorBackRow.holds Tryd.pinned (OpenSpec.ofChange colorBackWrong)

/-- 'fenestralaw03.ColorCube': WHATEVER THE INPUT: true; the input reads as it did. -/
def colorCubeSpec : ChangeSpec := { name := "colorCube", fn := fun _ => fun
  | [d1, d2] => { results := [.lit (.bool true)], args := [d1, d2] }
  | _ => none }
def colorCubeRow : OpenClaim := { program := "ytddgigiajenmkaadoor", sum := "60bd7640ec850ea1b47e1030cfde231702685c3aa8e986f31aed06c3c2ef2bcb", func := "fenestra/fenestralaw03.ColorCube", spec := "colorCube", unfollowed := true, recurses := true, named := ["fenestra/color.limits", "fenestra/color.basics", "fenestra/color.levels"], apart := false, laid := [("fenestra/color.limits", laid_fenestra_color_limits), ("fenestra/color.basics", laid_fenestra_color_basics), ("fenestra/color.levels", laid_fenestra_color_levels)] }
def ColorCubeSaid : Prop := colorCubeRow.holds Tryd.pinned (OpenSpec.ofChange colorCubeSpec)

/-- ITS FALSE NEIGHBOUR: 'it returns false'. Refute it at one input. -/
def colorCubeWrong : ChangeSpec := { name := "colorCube", fn := fun _ => fun
  | [d1, d2] => { results := [.lit (.bool false)], args := [d1, d2] }
  | _ => none }
def ColorCubeWrongFalsely : Prop := colorCubeRow.holds Tryd.pinned (OpenSpec.ofChange colorCubeWrong)

/-- 'fenestralaw03.ColorKnown': WHATEVER THE INPUT: true; the input reads as it did. -/
def colorKnownSpec : ChangeSpec := { name := "colorKnown", fn := fun _ => fun
  | [] => { results := [.lit (.bool true)], args := [] }
  | _ => none }
def colorKnownRow : OpenClaim := { program := "ytddgigiajenmkaadoor", sum := "60bd7640ec850ea1b47e1030cfde231702685c3aa8e986f31aed06c3c2ef2bcb", func := "fenestra/fenestralaw03.ColorKnown", spec := "colorKnown", unfollowed := true, recurses := true, named := ["fenestra/color.limits", "fenestra/color.basics", "fenestra/color.levels"], apart := false, laid := [("fenestra/color.limits", laid_fenestra_color_limits), ("fenestra/color.basics", laid_fenestra_color_basics), ("fenestra/color.levels", laid_fenestra_color_levels)] }
def ColorKnownSaid : Prop := colorKnownRow.holds Tryd.pinned (OpenSpec.ofChange colorKnownSpec)

/-- ITS FALSE NEIGHBOUR: 'it returns false'. Refute it at one input. -/
def colorKnownWrong : ChangeSpec := { name := "colorKnown", fn := fun _ => fun
  | [] => { results := [.lit (.bool false)], args := [] }
  | _ => none }
def ColorKnownWrongFalsely : Prop := colorKnownRow.holds Tryd.pinned (OpenSpec.ofChange colorKnownWrong)

/- THE SECOND FORM. 'bulk': how many values and letters a reading holds, each counted each time it is reached (what is shared counts as often as it is met; a slice's spare places count too). A statement '..UptoSaid' is the law's where the arguments, and the package variables that the reading takes, are together of bulk at most 1048576: NARROWER than '..Said'. Prove '..Said' where nothing that the law and all that it calls make is longer than what came in: it says more and counts as full. Else prove '..UptoSaid'. A law counts once. -/
mutual
def uptoBulk {H : Type} : DataW H → Nat
  | .lit (.string bytes) => bytes.length + 1
  | .lit _ => 1
  | .nil => 1
  | .ptr d => uptoBulk d + 1
  | .slice elems spare => uptoBulkAll elems + uptoBulkAll spare + 1
  | .agg parts => uptoBulkAll parts + 1
  | .iface _ d => uptoBulk d + 1
  | .map entries => uptoBulkEntries entries + 1
  | .held _ => 1
def uptoBulkAll {H : Type} : List (DataW H) → Nat
  | [] => 0
  | d :: r => uptoBulk d + uptoBulkAll r
def uptoBulkEntries {H : Type} : List (Lit × DataW H) → Nat
  | [] => 0
  | x :: r => uptoBulkEntry x + uptoBulkEntries r
def uptoBulkEntry {H : Type} : Lit × DataW H → Nat
  | (.string bytes, d) => bytes.length + uptoBulk d + 1
  | (_, d) => uptoBulk d + 1
 end
def uptoSmall : (H : Type) → List (DataW H) → Bool := fun _ ds => decide (uptoBulkAll ds ≤ 1048576)
def OpenSpec.upto (s : _root_.Go.ChangeSpec) : _root_.Go.OpenSpec := { _root_.Go.OpenSpec.ofChange s with cond := some uptoSmall }

/-- 'fenestralaw03.ColorTells', WHERE WHAT IT READS IS OF BULK AT MOST 1048576: true; the input reads as it did. -/
def colorTellsUptoRow : OpenClaim := { program := "ytddgigiajenmkaadoor", sum := "60bd7640ec850ea1b47e1030cfde231702685c3aa8e986f31aed06c3c2ef2bcb", func := "fenestra/fenestralaw03.ColorTells", spec := "colorTells", unfollowed := true, recurses := true, named := ["fenestra/color.limits", "fenestra/color.basics", "fenestra/color.levels"], apart := false, laid := [("fenestra/color.limits", laid_fenestra_color_limits), ("fenestra/color.basics", laid_fenestra_color_basics), ("fenestra/color.levels", laid_fenestra_color_levels)], narrowed := true }
def ColorTellsUptoSaid : Prop := colorTellsUptoRow.holds Tryd.pinned (OpenSpec.upto colorTellsSpec)

/-- 'fenestralaw03.ColorNears', WHERE WHAT IT READS IS OF BULK AT MOST 1048576: true; the input reads as it did. -/
def colorNearsUptoRow : OpenClaim := { program := "ytddgigiajenmkaadoor", sum := "60bd7640ec850ea1b47e1030cfde231702685c3aa8e986f31aed06c3c2ef2bcb", func := "fenestra/fenestralaw03.ColorNears", spec := "colorNears", unfollowed := true, recurses := true, named := ["fenestra/color.limits", "fenestra/color.basics", "fenestra/color.levels"], apart := false, laid := [("fenestra/color.limits", laid_fenestra_color_limits), ("fenestra/color.basics", laid_fenestra_color_basics), ("fenestra/color.levels", laid_fenestra_color_levels)], narrowed := true }
def ColorNearsUptoSaid : Prop := colorNearsUptoRow.holds Tryd.pinned (OpenSpec.upto colorNearsSpec)

/-- 'fenestralaw03.ColorParses', WHERE WHAT IT READS IS OF BULK AT MOST 1048576: true; the input reads as it did. -/
def colorParsesUptoRow : OpenClaim := { program := "ytddgigiajenmkaadoor", sum := "60bd7640ec850ea1b47e1030cfde231702685c3aa8e986f31aed06c3c2ef2bcb", func := "fenestra/fenestralaw03.ColorParses", spec := "colorParses", unfollowed := true, recurses := true, named := ["fenestra/color.limits", "fenestra/color.basics", "fenestra/color.levels"], apart := false, laid := [("fenestra/color.limits", laid_fenestra_color_limits), ("fenestra/color.basics", laid_fenestra_color_basics), ("fenestra/color.levels", laid_fenestra_color_levels)], narrowed := true }
def ColorParsesUptoSaid : Prop := colorParsesUptoRow.holds Tryd.pinned (OpenSpec.upto colorParsesSpec)

/-- 'fenestralaw03.ColorBest', WHERE WHAT IT READS IS OF BULK AT MOST 1048576: true; the input reads as it did. -/
def colorBestUptoRow : OpenClaim := { program := "ytddgigiajenmkaadoor", sum := "60bd7640ec850ea1b47e1030cfde231702685c3aa8e986f31aed06c3c2ef2bcb", func := "fenestra/fenestralaw03.ColorBest", spec := "colorBest", unfollowed := true, recurses := true, named := ["fenestra/color.limits", "fenestra/color.basics", "fenestra/color.levels"], apart := false, laid := [("fenestra/color.limits", laid_fenestra_color_limits), ("fenestra/color.basics", laid_fenestra_color_basics), ("fenestra/color.levels", laid_fenestra_color_levels)], narrowed := true }
def ColorBestUptoSaid : Prop := colorBestUptoRow.holds Tryd.pinned (OpenSpec.upto colorBestSpec)

/-- 'fenestralaw03.ColorBack', WHERE WHAT IT READS IS OF BULK AT MOST 1048576: true; the input reads as it did. -/
def colorBackUptoRow : OpenClaim := { program := "ytddgigiajenmkaadoor", sum := "60bd7640ec850ea1b47e1030cfde231702685c3aa8e986f31aed06c3c2ef2bcb", func := "fenestra/fenestralaw03.ColorBack", spec := "colorBack", unfollowed := true, recurses := true, named := ["fenestra/color.limits", "fenestra/color.basics", "fenestra/color.levels"], apart := false, laid := [("fenestra/color.limits", laid_fenestra_color_limits), ("fenestra/color.basics", laid_fenestra_color_basics), ("fenestra/color.levels", laid_fenestra_color_levels)], narrowed := true }
def ColorBackUptoSaid : Prop := colorBackUptoRow.holds Tryd.pinned (OpenSpec.upto colorBackSpec)

/-- 'fenestralaw03.ColorCube', WHERE WHAT IT READS IS OF BULK AT MOST 1048576: true; the input reads as it did. -/
def colorCubeUptoRow : OpenClaim := { program := "ytddgigiajenmkaadoor", sum := "60bd7640ec850ea1b47e1030cfde231702685c3aa8e986f31aed06c3c2ef2bcb", func := "fenestra/fenestralaw03.ColorCube", spec := "colorCube", unfollowed := true, recurses := true, named := ["fenestra/color.limits", "fenestra/color.basics", "fenestra/color.levels"], apart := false, laid := [("fenestra/color.limits", laid_fenestra_color_limits), ("fenestra/color.basics", laid_fenestra_color_basics), ("fenestra/color.levels", laid_fenestra_color_levels)], narrowed := true }
def ColorCubeUptoSaid : Prop := colorCubeUptoRow.holds Tryd.pinned (OpenSpec.upto colorCubeSpec)

/-- 'fenestralaw03.ColorKnown', WHERE WHAT IT READS IS OF BULK AT MOST 1048576: true; the input reads as it did. -/
def colorKnownUptoRow : OpenClaim := { program := "ytddgigiajenmkaadoor", sum := "60bd7640ec850ea1b47e1030cfde231702685c3aa8e986f31aed06c3c2ef2bcb", func := "fenestra/fenestralaw03.ColorKnown", spec := "colorKnown", unfollowed := true, recurses := true, named := ["fenestra/color.limits", "fenestra/color.basics", "fenestra/color.levels"], apart := false, laid := [("fenestra/color.limits", laid_fenestra_color_limits), ("fenestra/color.basics", laid_fenestra_color_basics), ("fenestra/color.levels", laid_fenestra_color_levels)], narrowed := true }
def ColorKnownUptoSaid : Prop := colorKnownUptoRow.holds Tryd.pinned (OpenSpec.upto colorKnownSpec)

end Rows
end Go.Proofs.YtddgigiajenmkaaDoor
