/-
  NARROWER THAN 'FOR EVERY INPUT', by the rows' own cells (each row's printed sentence says how): Base64Tells: laid · Base64Reads: laid · Base64Back: laid · Base64Only: laid · Base64Known: laid.
  DERIVED. THE GIVEN ROWS OF THIS SEAT. 5 by the template 'for every input the law returns true; each argument reads behind the call as it read before'; 0 by the template 'total and deterministic' (their statements: YthdndbeknmcniaaDoorTotals.lean).
  GIVEN WITH THE SEED: the statements are not yours to turn. If you find one false, say at which input.
  Laid BY PROGRAM, IN A SANDBOX (cutbox-rows.mjs): the forced cells as the released guide's own fill.sh prints them over the translation d426266af077a609… (all of the seat's roots in one cut). By AI agents, Wed Nov 11 2026. No macro, syntax, notation, axiom, sorry.
-/
import Derived.Test.YthdndbeknmcniaaDoorChecked
import GoSem.PinnedTables
import GoSem.Claim
import GoSem.ClaimJoined
import GoSem.ClaimMapViews
import Derived.JoinedTies
import Derived.KernelRfl
namespace Go.Proofs.YthdndbeknmcniaaDoor
/- THE CELL 'sum', in the pinned program and in every row, IS THE sha256 OF THE DUMP (.gsa) THAT YthdndbeknmcniaaDoorProg.lean LOADS. Nothing in Lean hashes anything: it is a label: what it is worth is what the hold of that sum in a sandbox is worth. -/
noncomputable def Tryd.pinned : Pinned := { name := "ythdndbeknmcniaadoor", sum := "d426266af077a609f3c56b391e94e6a6d8a0b06d49f971dabf9c9b88cb970278", checked := Tryd.checked }
namespace Rows
def none {H : Type} : Left H := { results := [], args := [] }

/- WHAT THE LISTED PACKAGE-LEVEL VARIABLES READ AS WHEN THE CALL BEGINS. Each datum BY PROGRAM (the guide's laid-datum.mjs) off the statement by which the dump's own 'gosem.cut.vars' lays the variable. In a bare row this is a premise. The card (YthdndbeknmcniaaDoorCards.lean) ties it to the program's text. -/
def laid_unicode_utf8_acceptRanges {H : Type} : DataW H := .agg [.agg [.lit (.int .u8 128), .lit (.int .u8 191)], .agg [.lit (.int .u8 160), .lit (.int .u8 191)], .agg [.lit (.int .u8 128), .lit (.int .u8 159)], .agg [.lit (.int .u8 144), .lit (.int .u8 191)], .agg [.lit (.int .u8 128), .lit (.int .u8 143)], .agg [.lit (.int .u8 0), .lit (.int .u8 0)], .agg [.lit (.int .u8 0), .lit (.int .u8 0)], .agg [.lit (.int .u8 0), .lit (.int .u8 0)], .agg [.lit (.int .u8 0), .lit (.int .u8 0)], .agg [.lit (.int .u8 0), .lit (.int .u8 0)], .agg [.lit (.int .u8 0), .lit (.int .u8 0)], .agg [.lit (.int .u8 0), .lit (.int .u8 0)], .agg [.lit (.int .u8 0), .lit (.int .u8 0)], .agg [.lit (.int .u8 0), .lit (.int .u8 0)], .agg [.lit (.int .u8 0), .lit (.int .u8 0)], .agg [.lit (.int .u8 0), .lit (.int .u8 0)]]
/-- One of Go's own tables, pinned by name: the form's constant. -/
def laid_unicode_utf8_first : DataW Unit := Go.Pinned.utf8First

/-- 'fenestralaw07.Base64Tells': WHATEVER THE INPUT: true; the input reads as it did. -/
def base64TellsSpec : ChangeSpec := { name := "base64Tells", fn := fun _ => fun
  | [d1, d2] => { results := [.lit (.bool true)], args := [d1, d2] }
  | _ => none }
def base64TellsRow : OpenClaim := { program := "ythdndbeknmcniaadoor", sum := "d426266af077a609f3c56b391e94e6a6d8a0b06d49f971dabf9c9b88cb970278", func := "fenestra/fenestralaw07.Base64Tells", spec := "base64Tells", inPlace := ["internal/abi.NoEscape", "internal/bytealg.MakeNoZero", "internal/bytealg.IndexByteString", "internal/bytealg.IndexString"], unfollowed := true, recurses := true, named := ["unicode/utf8.first", "unicode/utf8.acceptRanges", "internal/bytealg.MaxLen"], apart := false, laid := [("unicode/utf8.acceptRanges", laid_unicode_utf8_acceptRanges), ("unicode/utf8.first", laid_unicode_utf8_first)] }
def Base64TellsSaid : Prop := base64TellsRow.holds Tryd.pinned (OpenSpec.ofChange base64TellsSpec)

/-- ITS FALSE NEIGHBOUR: 'it returns false'. Refute it at one input. -/
def base64TellsWrong : ChangeSpec := { name := "base64Tells", fn := fun _ => fun
  | [d1, d2] => { results := [.lit (.bool false)], args := [d1, d2] }
  | _ => none }
def Base64TellsWrongFalsely : Prop := base64TellsRow.holds Tryd.pinned (OpenSpec.ofChange base64TellsWrong)

/-- 'fenestralaw07.Base64Reads': WHATEVER THE INPUT: true; the input reads as it did. -/
def base64ReadsSpec : ChangeSpec := { name := "base64Reads", fn := fun _ => fun
  | [d1, d2, d3, d4, d5] => { results := [.lit (.bool true)], args := [d1, d2, d3, d4, d5] }
  | _ => none }
def base64ReadsRow : OpenClaim := { program := "ythdndbeknmcniaadoor", sum := "d426266af077a609f3c56b391e94e6a6d8a0b06d49f971dabf9c9b88cb970278", func := "fenestra/fenestralaw07.Base64Reads", spec := "base64Reads", inPlace := ["internal/bytealg.IndexByteString", "internal/bytealg.IndexString", "internal/abi.NoEscape", "internal/bytealg.MakeNoZero"], unfollowed := true, recurses := true, named := ["unicode/utf8.first", "unicode/utf8.acceptRanges", "internal/bytealg.MaxLen"], apart := false, laid := [("unicode/utf8.acceptRanges", laid_unicode_utf8_acceptRanges), ("unicode/utf8.first", laid_unicode_utf8_first)] }
def Base64ReadsSaid : Prop := base64ReadsRow.holds Tryd.pinned (OpenSpec.ofChange base64ReadsSpec)

/-- ITS FALSE NEIGHBOUR: 'it returns false'. Refute it at one input. -/
def base64ReadsWrong : ChangeSpec := { name := "base64Reads", fn := fun _ => fun
  | [d1, d2, d3, d4, d5] => { results := [.lit (.bool false)], args := [d1, d2, d3, d4, d5] }
  | _ => none }
def Base64ReadsWrongFalsely : Prop := base64ReadsRow.holds Tryd.pinned (OpenSpec.ofChange base64ReadsWrong)

/-- 'fenestralaw07.Base64Back': WHATEVER THE INPUT: true; the input reads as it did. -/
def base64BackSpec : ChangeSpec := { name := "base64Back", fn := fun _ => fun
  | [d1, d2] => { results := [.lit (.bool true)], args := [d1, d2] }
  | _ => none }
def base64BackRow : OpenClaim := { program := "ythdndbeknmcniaadoor", sum := "d426266af077a609f3c56b391e94e6a6d8a0b06d49f971dabf9c9b88cb970278", func := "fenestra/fenestralaw07.Base64Back", spec := "base64Back", inPlace := ["internal/abi.NoEscape", "internal/bytealg.MakeNoZero", "internal/bytealg.IndexByteString", "internal/bytealg.IndexString"], unfollowed := true, recurses := true, named := ["unicode/utf8.first", "unicode/utf8.acceptRanges", "internal/bytealg.MaxLen"], apart := false, laid := [("unicode/utf8.acceptRanges", laid_unicode_utf8_acceptRanges), ("unicode/utf8.first", laid_unicode_utf8_first)] }
def Base64BackSaid : Prop := base64BackRow.holds Tryd.pinned (OpenSpec.ofChange base64BackSpec)

/-- ITS FALSE NEIGHBOUR: 'it returns false'. Refute it at one input. -/
def base64BackWrong : ChangeSpec := { name := "base64Back", fn := fun _ => fun
  | [d1, d2] => { results := [.lit (.bool false)], args := [d1, d2] }
  | _ => none }
def Base64BackWrongFalsely : Prop := base64BackRow.holds Tryd.pinned (OpenSpec.ofChange base64BackWrong)

/-- 'fenestralaw07.Base64Only': WHATEVER THE INPUT: true; the input reads as it did. -/
def base64OnlySpec : ChangeSpec := { name := "base64Only", fn := fun _ => fun
  | [d1, d2, d3] => { results := [.lit (.bool true)], args := [d1, d2, d3] }
  | _ => none }
def base64OnlyRow : OpenClaim := { program := "ythdndbeknmcniaadoor", sum := "d426266af077a609f3c56b391e94e6a6d8a0b06d49f971dabf9c9b88cb970278", func := "fenestra/fenestralaw07.Base64Only", spec := "base64Only", inPlace := ["internal/abi.NoEscape", "internal/bytealg.MakeNoZero", "internal/bytealg.IndexByteString", "internal/bytealg.IndexString"], unfollowed := true, recurses := true, named := ["unicode/utf8.first", "unicode/utf8.acceptRanges", "internal/bytealg.MaxLen"], apart := false, laid := [("unicode/utf8.acceptRanges", laid_unicode_utf8_acceptRanges), ("unicode/utf8.first", laid_unicode_utf8_first)] }
def Base64OnlySaid : Prop := base64OnlyRow.holds Tryd.pinned (OpenSpec.ofChange base64OnlySpec)

/-- ITS FALSE NEIGHBOUR: 'it returns false'. Refute it at one input. -/
def base64OnlyWrong : ChangeSpec := { name := "base64Only", fn := fun _ => fun
  | [d1, d2, d3] => { results := [.lit (.bool false)], args := [d1, d2, d3] }
  | _ => none }
def Base64OnlyWrongFalsely : Prop := base64OnlyRow.holds Tryd.pinned (OpenSpec.ofChange base64OnlyWrong)

/-- 'fenestralaw07.Base64Known': WHATEVER THE INPUT: true; the input reads as it did. -/
def base64KnownSpec : ChangeSpec := { name := "base64Known", fn := fun _ => fun
  | [] => { results := [.lit (.bool true)], args := [] }
  | _ => none }
def base64KnownRow : OpenClaim := { program := "ythdndbeknmcniaadoor", sum := "d426266af077a609f3c56b391e94e6a6d8a0b06d49f971dabf9c9b88cb970278", func := "fenestra/fenestralaw07.Base64Known", spec := "base64Known", inPlace := ["internal/abi.NoEscape", "internal/bytealg.MakeNoZero", "internal/bytealg.IndexByteString", "internal/bytealg.IndexString"], unfollowed := true, recurses := true, named := ["unicode/utf8.first", "unicode/utf8.acceptRanges", "internal/bytealg.MaxLen"], apart := false, laid := [("unicode/utf8.acceptRanges", laid_unicode_utf8_acceptRanges), ("unicode/utf8.first", laid_unicode_utf8_first)] }
def Base64KnownSaid : Prop := base64KnownRow.holds Tryd.pinned (OpenSpec.ofChange base64KnownSpec)

/-- ITS FALSE NEIGHBOUR: 'it returns false'. Refute it at one input. -/
def base64KnownWrong : ChangeSpec := { name := "base64Known", fn := fun _ => fun
  | [] => { results := [.lit (.bool false)], args := [] }
  | _ => none }
def Base64KnownWrongFalsely : Prop := base64KnownRow.holds Tryd.pinned (OpenSpec.ofChange base64KnownWrong)

/- THE SECOND FORM. 'bulk': how many values and letters a reading holds, each counted each time it is reached (what is shared counts as often as it is met; a slice's spare places count too). A statement '..UptoSaid' is the law's where the arguments, and the package variables that the reading takes, are together of bulk at most 1048576: NARROWER than '..Said'. Prove '..Said' where nothing that the law and all that it calls make is longer than what came in: it says more and counts as full. Else prove '..UptoSaid'. A law counts once. -/
mutual
def uptoBulk {H : Type} : DataW H → Nat
  | .lit (.string bytes) => bytes.length + 1
  | .lit _ => 1
  | .nil => 1
  | .ptr d => uptoBulk d + 1
  | .slice elems spare => uptoBulkAll elems + uptoBulkAll spare + 1
  | .agg parts => uptoBulkAll parts + 1
  | .iface _ d => uptoBulk d + 1
  | .map entries => uptoBulkEntries entries + 1
  | .held _ => 1
def uptoBulkAll {H : Type} : List (DataW H) → Nat
  | [] => 0
  | d :: r => uptoBulk d + uptoBulkAll r
def uptoBulkEntries {H : Type} : List (Lit × DataW H) → Nat
  | [] => 0
  | x :: r => uptoBulkEntry x + uptoBulkEntries r
def uptoBulkEntry {H : Type} : Lit × DataW H → Nat
  | (.string bytes, d) => bytes.length + uptoBulk d + 1
  | (_, d) => uptoBulk d + 1
 end
def uptoSmall : (H : Type) → List (DataW H) → Bool := fun _ ds => decide (uptoBulkAll ds ≤ 1048576)
def OpenSpec.upto (s : _root_.Go.ChangeSpec) : _root_.Go.OpenSpec := { _root_.Go.OpenSpec.ofChange s with cond := some uptoSmall }

/-- 'fenestralaw07.Base64Tells', WHERE WHAT IT READS IS OF BULK AT MOST 1048576: true; the input reads as it did. -/
def base64TellsUptoRow : OpenClaim := { program := "ythdndbeknmcniaadoor", sum := "d426266af077a609f3c56b391e94e6a6d8a0b06d49f971dabf9c9b88cb970278", func := "fenestra/fenestralaw07.Base64Tells", spec := "base64Tells", inPlace := ["internal/abi.NoEscape", "internal/bytealg.MakeNoZero", "internal/bytealg.IndexByteString", "internal/bytealg.IndexString"], unfollowed := true, recurses := true, named := ["unicode/utf8.first", "unicode/utf8.acceptRanges", "internal/bytealg.MaxLen"], apart := false, laid := [("unicode/utf8.acceptRanges", laid_unicode_utf8_acceptRanges), ("unicode/utf8.first", laid_unicode_utf8_first)], narrowed := true }
def Base64TellsUptoSaid : Prop := base64TellsUptoRow.holds Tryd.pinned (OpenSpec.upto base64TellsSpec)

/-- 'fenestralaw07.Base64Reads', WHERE WHAT IT READS IS OF BULK AT MOST 1048576: true; the input reads as it did. -/
def base64ReadsUptoRow : OpenClaim := { program := "ythdndbeknmcniaadoor", sum := "d426266af077a609f3c56b391e94e6a6d8a0b06d49f971dabf9c9b88cb970278", func := "fenestra/fenestralaw07.Base64Reads", spec := "base64Reads", inPlace := ["internal/bytealg.IndexByteString", "internal/bytealg.IndexString", "internal/abi.NoEscape", "internal/bytealg.MakeNoZero"], unfollowed := true, recurses := true, named := ["unicode/utf8.first", "unicode/utf8.acceptRanges", "internal/bytealg.MaxLen"], apart := false, laid := [("unicode/utf8.acceptRanges", laid_unicode_utf8_acceptRanges), ("unicode/utf8.first", laid_unicode_utf8_first)], narrowed := true }
def Base64ReadsUptoSaid : Prop := base64ReadsUptoRow.holds Tryd.pinned (OpenSpec.upto base64ReadsSpec)

/-- 'fenestralaw07.Base64Back', WHERE WHAT IT READS IS OF BULK AT MOST 1048576: true; the input reads as it did. -/
def base64BackUptoRow : OpenClaim := { program := "ythdndbeknmcniaadoor", sum := "d426266af077a609f3c56b391e94e6a6d8a0b06d49f971dabf9c9b88cb970278", func := "fenestra/fenestralaw07.Base64Back", spec := "base64Back", inPlace := ["internal/abi.NoEscape", "internal/bytealg.MakeNoZero", "internal/bytealg.IndexByteString", "internal/bytealg.IndexString"], unfollowed := true, recurses := true, named := ["unicode/utf8.first", "unicode/utf8.acceptRanges", "internal/bytealg.MaxLen"], apart := false, laid := [("unicode/utf8.acceptRanges", laid_unicode_utf8_acceptRanges), ("unicode/utf8.first", laid_unicode_utf8_first)], narrowed := true }
def Base64BackUptoSaid : Prop := base64BackUptoRow.holds Tryd.pinned (OpenSpec.upto base64BackSpec)

/-- 'fenestralaw07.Base64Only', WHERE WHAT IT READS IS OF BULK AT MOST 1048576: true; the input reads as it did. -/
def base64OnlyUptoRow : OpenClaim := { program := "ythdndbeknmcniaadoor", sum := "d426266af077a609f3c56b391e94e6a6d8a0b06d49f971dabf9c9b88cb970278", func := "fenestra/fenestralaw07.Base64Only", spec := "base64Only", inPlace := ["internal/abi.NoEscape", "internal/bytealg.MakeNoZero", "internal/bytealg.IndexByteString", "internal/bytealg.IndexString"], unfollowed := true, recurses := true, named := ["unicode/utf8.first", "unicode/utf8.acceptRanges", "internal/bytealg.MaxLen"], apart := false, laid := [("unicode/utf8.acceptRanges", laid_unicode_utf8_acceptRanges), ("unicode/utf8.first", laid_unicode_utf8_first)], narrowed := true }
def Base64OnlyUptoSaid : Prop := base64OnlyUptoRow.holds Tryd.pinned (OpenSpec.upto base64OnlySpec)

/-- 'fenestralaw07.Base64Known', WHERE WHAT IT READS IS OF BULK AT MOST 1048576: true; the input reads as it did. -/
def base64KnownUptoRow : OpenClaim := { program := "ythdndbeknmcniaadoor", sum := "d426266af077a609f3c56b391e94e6a6d8a0b06d49f971dabf9c9b88cb970278", func := "fenestra/fenestralaw07.Base64Known", spec := "base64Known", inPlace := ["internal/abi.NoEscape", "internal/bytealg.MakeNoZero", "internal/bytealg.IndexByteString", "internal/bytealg.IndexString"], unfollowed := true, recurses := true, named := ["unicode/utf8.first", "unicode/utf8.acceptRanges", "internal/bytealg.MaxLen"], apart := false, laid := [("unicode/utf8.acceptRanges", laid_unicode_utf8_acceptRanges), ("unicode/utf8.first", laid_unicode_utf8_first)], narrowed := true }
def Base64KnownUptoSaid : Prop := base64KnownUptoRow.holds Tryd.pinned (OpenSpec.upto base64KnownSpec)

end Rows
end Go.Proofs.YthdndbeknmcniaaDoor
