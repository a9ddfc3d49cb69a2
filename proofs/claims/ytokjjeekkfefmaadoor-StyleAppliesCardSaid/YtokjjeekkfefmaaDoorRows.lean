/-
  NARROWER THAN 'FOR EVERY INPUT', by the rows' own cells (each row's printed sentence says how): StyleChecks: laid · StyleApplies: laid · StyleSeen: laid · StyleStays: laid · StyleBits: laid · StyleTurns: laid · StyleKnown: laid.
  DERIVED. THE GIVEN ROWS OF THIS SEAT. 7 by the template 'for every input the law returns true; each argument reads behind the call as it read before'; 0 by the template 'total and deterministic' (their statements: YtokjjeekkfefmaaDoorTotals.lean).
  GIVEN WITH THE SEED: the statements are not yours to turn. If you find one false, say at which input.
  Laid BY PROGRAM, IN A SANDBOX (cutbox-rows.mjs): the forced cells as the released guide's own fill.sh prints them over the translation c935fa0c6dd44c56… (all of the seat's roots in one cut). By AI agents, Wed Nov 11 2026. No macro, syntax, notation, axiom, sorry.
-/
import Derived.Test.YtokjjeekkfefmaaDoorChecked
import GoSem.Claim
import GoSem.ClaimJoined
import GoSem.ClaimMapViews
import Derived.JoinedTies
import Derived.KernelRfl
namespace Go.Proofs.YtokjjeekkfefmaaDoor
/- THE CELL 'sum', in the pinned program and in every row, IS THE sha256 OF THE DUMP (.gsa) THAT YtokjjeekkfefmaaDoorProg.lean LOADS. Nothing in Lean hashes anything: it is a label: what it is worth is what the hold of that sum in a sandbox is worth. -/
noncomputable def Tryd.pinned : Pinned := { name := "ytokjjeekkfefmaadoor", sum := "c935fa0c6dd44c56f708a4232c0b1a1d661baf8267cad1b1f24478188c34489d", checked := Tryd.checked }
namespace Rows
def none {H : Type} : Left H := { results := [], args := [] }

/- WHAT THE LISTED PACKAGE-LEVEL VARIABLES READ AS WHEN THE CALL BEGINS. Each datum BY PROGRAM (the guide's laid-datum.mjs) off the statement by which the dump's own 'gosem.cut.vars' lays the variable. In a bare row this is a premise. The card (YtokjjeekkfefmaaDoorCards.lean) ties it to the program's text. -/
def laid_fenestra_color_limits {H : Type} : DataW H := .agg [.lit (.int .i64 0), .lit (.int .i64 255), .lit (.int .i64 16777215)]

/-- 'fenestralaw04.StyleChecks': WHATEVER THE INPUT: true; the input reads as it did. -/
def styleChecksSpec : ChangeSpec := { name := "styleChecks", fn := fun _ => fun
  | [d1, d2, d3, d4] => { results := [.lit (.bool true)], args := [d1, d2, d3, d4] }
  | _ => none }
def styleChecksRow : OpenClaim := { program := "ytokjjeekkfefmaadoor", sum := "c935fa0c6dd44c56f708a4232c0b1a1d661baf8267cad1b1f24478188c34489d", func := "fenestra/fenestralaw04.StyleChecks", spec := "styleChecks", unfollowed := true, recurses := true, named := ["fenestra/color.limits"], apart := false, laid := [("fenestra/color.limits", laid_fenestra_color_limits)] }
def StyleChecksSaid : Prop := styleChecksRow.holds Tryd.pinned (OpenSpec.ofChange styleChecksSpec)

/-- ITS FALSE NEIGHBOUR: 'it returns false'. Refute it at one input. -/
def styleChecksWrong : ChangeSpec := { name := "styleChecks", fn := fun _ => fun
  | [d1, d2, d3, d4] => { results := [.lit (.bool false)], args := [d1, d2, d3, d4] }
  | _ => none }
def StyleChecksWrongFalsely : Prop := styleChecksRow.holds Tryd.pinned (OpenSpec.ofChange styleChecksWrong)

/-- 'fenestralaw04.StyleApplies': WHATEVER THE INPUT: true; the input reads as it did. -/
def styleAppliesSpec : ChangeSpec := { name := "styleApplies", fn := fun _ => fun
  | [d1, d2, d3, d4] => { results := [.lit (.bool true)], args := [d1, d2, d3, d4] }
  | _ => none }
def styleAppliesRow : OpenClaim := { program := "ytokjjeekkfefmaadoor", sum := "c935fa0c6dd44c56f708a4232c0b1a1d661baf8267cad1b1f24478188c34489d", func := "fenestra/fenestralaw04.StyleApplies", spec := "styleApplies", unfollowed := true, recurses := true, named := ["fenestra/color.limits"], apart := false, laid := [("fenestra/color.limits", laid_fenestra_color_limits)] }
def StyleAppliesSaid : Prop := styleAppliesRow.holds Tryd.pinned (OpenSpec.ofChange styleAppliesSpec)

/-- ITS FALSE NEIGHBOUR: 'it returns false'. Refute it at one input. -/
def styleAppliesWrong : ChangeSpec := { name := "styleApplies", fn := fun _ => fun
  | [d1, d2, d3, d4] => { results := [.lit (.bool false)], args := [d1, d2, d3, d4] }
  | _ => none }
def StyleAppliesWrongFalsely : Prop := styleAppliesRow.holds Tryd.pinned (OpenSpec.ofChange styleAppliesWrong)

/-- 'fenestralaw04.StyleSeen': WHATEVER THE INPUT: true; the input reads as it did. -/
def styleSeenSpec : ChangeSpec := { name := "styleSeen", fn := fun _ => fun
  | [d1, d2] => { results := [.lit (.bool true)], args := [d1, d2] }
  | _ => none }
def styleSeenRow : OpenClaim := { program := "ytokjjeekkfefmaadoor", sum := "c935fa0c6dd44c56f708a4232c0b1a1d661baf8267cad1b1f24478188c34489d", func := "fenestra/fenestralaw04.StyleSeen", spec := "styleSeen", unfollowed := true, recurses := true, named := ["fenestra/color.limits"], apart := false, laid := [("fenestra/color.limits", laid_fenestra_color_limits)] }
def StyleSeenSaid : Prop := styleSeenRow.holds Tryd.pinned (OpenSpec.ofChange styleSeenSpec)

/-- ITS FALSE NEIGHBOUR: 'it returns false'. Refute it at one input. -/
def styleSeenWrong : ChangeSpec := { name := "styleSeen", fn := fun _ => fun
  | [d1, d2] => { results := [.lit (.bool false)], args := [d1, d2] }
  | _ => none }
def StyleSeenWrongFalsely : Prop := styleSeenRow.holds Tryd.pinned (OpenSpec.ofChange styleSeenWrong)

/-- 'fenestralaw04.StyleStays': WHATEVER THE INPUT: true; the input reads as it did. -/
def styleStaysSpec : ChangeSpec := { name := "styleStays", fn := fun _ => fun
  | [d1, d2] => { results := [.lit (.bool true)], args := [d1, d2] }
  | _ => none }
def styleStaysRow : OpenClaim := { program := "ytokjjeekkfefmaadoor", sum := "c935fa0c6dd44c56f708a4232c0b1a1d661baf8267cad1b1f24478188c34489d", func := "fenestra/fenestralaw04.StyleStays", spec := "styleStays", unfollowed := true, recurses := true, named := ["fenestra/color.limits"], apart := false, laid := [("fenestra/color.limits", laid_fenestra_color_limits)] }
def StyleStaysSaid : Prop := styleStaysRow.holds Tryd.pinned (OpenSpec.ofChange styleStaysSpec)

/-- ITS FALSE NEIGHBOUR: 'it returns false'. Refute it at one input. -/
def styleStaysWrong : ChangeSpec := { name := "styleStays", fn := fun _ => fun
  | [d1, d2] => { results := [.lit (.bool false)], args := [d1, d2] }
  | _ => none }
def StyleStaysWrongFalsely : Prop := styleStaysRow.holds Tryd.pinned (OpenSpec.ofChange styleStaysWrong)

/-- 'fenestralaw04.StyleBits': WHATEVER THE INPUT: true; the input reads as it did. -/
def styleBitsSpec : ChangeSpec := { name := "styleBits", fn := fun _ => fun
  | [d1, d2, d3] => { results := [.lit (.bool true)], args := [d1, d2, d3] }
  | _ => none }
def styleBitsRow : OpenClaim := { program := "ytokjjeekkfefmaadoor", sum := "c935fa0c6dd44c56f708a4232c0b1a1d661baf8267cad1b1f24478188c34489d", func := "fenestra/fenestralaw04.StyleBits", spec := "styleBits", unfollowed := true, recurses := true, named := ["fenestra/color.limits"], apart := false, laid := [("fenestra/color.limits", laid_fenestra_color_limits)] }
def StyleBitsSaid : Prop := styleBitsRow.holds Tryd.pinned (OpenSpec.ofChange styleBitsSpec)

/-- ITS FALSE NEIGHBOUR: 'it returns false'. Refute it at one input. -/
def styleBitsWrong : ChangeSpec := { name := "styleBits", fn := fun _ => fun
  | [d1, d2, d3] => { results := [.lit (.bool false)], args := [d1, d2, d3] }
  | _ => none }
def StyleBitsWrongFalsely : Prop := styleBitsRow.holds Tryd.pinned (OpenSpec.ofChange styleBitsWrong)

/-- 'fenestralaw04.StyleTurns': WHATEVER THE INPUT: true; the input reads as it did. -/
def styleTurnsSpec : ChangeSpec := { name := "styleTurns", fn := fun _ => fun
  | [d] => { results := [.lit (.bool true)], args := [d] }
  | _ => none }
def styleTurnsRow : OpenClaim := { program := "ytokjjeekkfefmaadoor", sum := "c935fa0c6dd44c56f708a4232c0b1a1d661baf8267cad1b1f24478188c34489d", func := "fenestra/fenestralaw04.StyleTurns", spec := "styleTurns", unfollowed := true, recurses := true, named := ["fenestra/color.limits"], apart := false, laid := [("fenestra/color.limits", laid_fenestra_color_limits)] }
def StyleTurnsSaid : Prop := styleTurnsRow.holds Tryd.pinned (OpenSpec.ofChange styleTurnsSpec)

/-- ITS FALSE NEIGHBOUR: 'it returns false'. Refute it at one input. -/
def styleTurnsWrong : ChangeSpec := { name := "styleTurns", fn := fun _ => fun
  | [d] => { results := [.lit (.bool false)], args := [d] }
  | _ => none }
def StyleTurnsWrongFalsely : Prop := styleTurnsRow.holds Tryd.pinned (OpenSpec.ofChange styleTurnsWrong)

/-- 'fenestralaw04.StyleKnown': WHATEVER THE INPUT: true; the input reads as it did. -/
def styleKnownSpec : ChangeSpec := { name := "styleKnown", fn := fun _ => fun
  | [] => { results := [.lit (.bool true)], args := [] }
  | _ => none }
def styleKnownRow : OpenClaim := { program := "ytokjjeekkfefmaadoor", sum := "c935fa0c6dd44c56f708a4232c0b1a1d661baf8267cad1b1f24478188c34489d", func := "fenestra/fenestralaw04.StyleKnown", spec := "styleKnown", unfollowed := true, recurses := true, named := ["fenestra/color.limits"], apart := false, laid := [("fenestra/color.limits", laid_fenestra_color_limits)] }
def StyleKnownSaid : Prop := styleKnownRow.holds Tryd.pinned (OpenSpec.ofChange styleKnownSpec)

/-- ITS FALSE NEIGHBOUR: 'it returns false'. Refute it at one input. -/
def styleKnownWrong : ChangeSpec := { name := "styleKnown", fn := fun _ => fun
  | [] => { results := [.lit (.bool false)], args := [] }
  | _ => none }
def StyleKnownWrongFalsely : Prop := styleKnownRow.holds Tryd.pinned (OpenSpec.ofChange styleKnownWrong)

/- THE SECOND FORM. 'bulk': how many values and letters a reading holds, each counted each time it is reached (what is shared counts as often as it is met; a slice's spare places count too). A statement '..UptoSaid' is the law's where the arguments, and the package variables that the reading takes, are together of bulk at most 1048576: NARROWER than '..Said'. Prove '..Said' where nothing that the law and all that it calls make is longer than what came in: it says more and counts as full. Else prove '..UptoSaid'. A law counts once. -/
mutual
def uptoBulk {H : Type} : DataW H → Nat
  | .lit (.string bytes) => bytes.length + 1
  | .lit _ => 1
  | .nil => 1
  | .ptr d => uptoBulk d + 1
  | .slice elems spare => uptoBulkAll elems + uptoBulkAll spare + 1
  | .agg parts => uptoBulkAll parts + 1
  | .iface _ d => uptoBulk d + 1
  | .map entries => uptoBulkEntries entries + 1
  | .held _ => 1
def uptoBulkAll {H : Type} : List (DataW H) → Nat
  | [] => 0
  | d :: r => uptoBulk d + uptoBulkAll r
def uptoBulkEntries {H : Type} : List (Lit × DataW H) → Nat
  | [] => 0
  | x :: r => uptoBulkEntry x + uptoBulkEntries r
def uptoBulkEntry {H : Type} : Lit × DataW H → Nat
  | (.string bytes, d) => bytes.length + uptoBulk d + 1
  | (_, d) => uptoBulk d + 1
 end
def uptoSmall : (H : Type) → List (DataW H) → Bool := fun _ ds => decide (uptoBulkAll ds ≤ 1048576)
def OpenSpec.upto (s : _root_.Go.ChangeSpec) : _root_.Go.OpenSpec := { _root_.Go.OpenSpec.ofChange s with cond := some uptoSmall }

/-- 'fenestralaw04.StyleChecks', WHERE WHAT IT READS IS OF BULK AT MOST 1048576: true; the input reads as it did. -/
def styleChecksUptoRow : OpenClaim := { program := "ytokjjeekkfefmaadoor", sum := "c935fa0c6dd44c56f708a4232c0b1a1d661baf8267cad1b1f24478188c34489d", func := "fenestra/fenestralaw04.StyleChecks", spec := "styleChecks", unfollowed := true, recurses := true, named := ["fenestra/color.limits"], apart := false, laid := [("fenestra/color.limits", laid_fenestra_color_limits)], narrowed := true }
def StyleChecksUptoSaid : Prop := styleChecksUptoRow.holds Tryd.pinned (OpenSpec.upto styleChecksSpec)

/-- 'fenestralaw04.StyleApplies', WHERE WHAT IT READS IS OF BULK AT MOST 1048576: true; the input reads as it did. -/
def styleAppliesUptoRow : OpenClaim := { program := "ytokjjeekkfefmaadoor", sum := "c935fa0c6dd44c56f708a4232c0b1a1d661baf8267cad1b1f24478188c34489d", func := "fenestra/fenestralaw04.StyleApplies", spec := "styleApplies", unfollowed := true, recurses := true, named := ["fenestra/color.limits"], apart := false, laid := [("fenestra/color.limits", laid_fenestra_color_limits)], narrowed := true }
def StyleAppliesUptoSaid : Prop := styleAppliesUptoRow.holds Tryd.pinned (OpenSpec.upto styleAppliesSpec)

/-- 'fenestralaw04.StyleSeen', WHERE WHAT IT READS IS OF BULK AT MOST 1048576: true; the input reads as it did. -/
def styleSeenUptoRow : OpenClaim := { program := "ytokjjeekkfefmaadoor", sum := "c935fa0c6dd44c56f708a4232c0b1a1d661baf8267cad1b1f24478188c34489d", func := "fenestra/fenestralaw04.StyleSeen", spec := "styleSeen", unfollowed := true, recurses := true, named := ["fenestra/color.limits"], apart := false, laid := [("fenestra/color.limits", laid_fenestra_color_limits)], narrowed := true }
def StyleSeenUptoSaid : Prop := styleSeenUptoRow.holds Tryd.pinned (OpenSpec.upto styleSeenSpec)

/-- 'fenestralaw04.StyleStays', WHERE WHAT IT READS IS OF BULK AT MOST 1048576: true; the input reads as it did. -/
def styleStaysUptoRow : OpenClaim := { program := "ytokjjeekkfefmaadoor", sum := "c935fa0c6dd44c56f708a4232c0b1a1d661baf8267cad1b1f24478188c34489d", func := "fenestra/fenestralaw04.StyleStays", spec := "styleStays", unfollowed := true, recurses := true, named := ["fenestra/color.limits"], apart := false, laid := [("fenestra/color.limits", laid_fenestra_color_limits)], narrowed := true }
def StyleStaysUptoSaid : Prop := styleStaysUptoRow.holds Tryd.pinned (OpenSpec.upto styleStaysSpec)

/-- 'fenestralaw04.StyleBits', WHERE WHAT IT READS IS OF BULK AT MOST 1048576: true; the input reads as it did. -/
def styleBitsUptoRow : OpenClaim := { program := "ytokjjeekkfefmaadoor", sum := "c935fa0c6dd44c56f708a4232c0b1a1d661baf8267cad1b1f24478188c34489d", func := "fenestra/fenestralaw04.StyleBits", spec := "styleBits", unfollowed := true, recurses := true, named := ["fenestra/color.limits"], apart := false, laid := [("fenestra/color.limits", laid_fenestra_color_limits)], narrowed := true }
def StyleBitsUptoSaid : Prop := styleBitsUptoRow.holds Tryd.pinned (OpenSpec.upto styleBitsSpec)

/-- 'fenestralaw04.StyleTurns', WHERE WHAT IT READS IS OF BULK AT MOST 1048576: true; the input reads as it did. -/
def styleTurnsUptoRow : OpenClaim := { program := "ytokjjeekkfefmaadoor", sum := "c935fa0c6dd44c56f708a4232c0b1a1d661baf8267cad1b1f24478188c34489d", func := "fenestra/fenestralaw04.StyleTurns", spec := "styleTurns", unfollowed := true, recurses := true, named := ["fenestra/color.limits"], apart := false, laid := [("fenestra/color.limits", laid_fenestra_color_limits)], narrowed := true }
def StyleTurnsUptoSaid : Prop := styleTurnsUptoRow.holds Tryd.pinned (OpenSpec.upto styleTurnsSpec)

/-- 'fenestralaw04.StyleKnown', WHERE WHAT IT READS IS OF BULK AT MOST 1048576: true; the input reads as it did. -/
def styleKnownUptoRow : OpenClaim := { program := "ytokjjeekkfefmaadoor", sum := "c935fa0c6dd44c56f708a4232c0b1a1d661baf8267cad1b1f24478188c34489d", func := "fenestra/fenestralaw04.StyleKnown", spec := "styleKnown", unfollowed := true, recurses := true, named := ["fenestra/color.limits"], apart := false, laid := [("fenestra/color.limits", laid_fenestra_color_limits)], narrowed := true }
def StyleKnownUptoSaid : Prop := styleKnownUptoRow.holds Tryd.pinned (OpenSpec.upto styleKnownSpec)

end Rows
end Go.Proofs.YtokjjeekkfefmaaDoor
