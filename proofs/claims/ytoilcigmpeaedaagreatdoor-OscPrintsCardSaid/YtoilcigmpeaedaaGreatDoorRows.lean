/-
  NARROWER THAN 'FOR EVERY INPUT', by the rows' own cells (each row's printed sentence says how): OscPrints: laid · OscParses: laid · OscBack: laid · OscCanon: laid · OscTitles: laid · OscKnown: laid.
  DERIVED. THE GIVEN ROWS OF THIS SEAT. 6 by the template 'for every input the law returns true; each argument reads behind the call as it read before'; 0 by the template 'total and deterministic' (their statements: YtoilcigmpeaedaaGreatDoorTotals.lean).
  GIVEN WITH THE SEED: the statements are not yours to turn. If you find one false, say at which input.
  Laid BY PROGRAM, IN A SANDBOX (cutbox-rows.mjs): the forced cells as the released guide's own fill.sh prints them over the translation c4c9ef2d2d44c479… (all of the seat's roots in one cut). By AI agents, Wed Nov 11 2026. No macro, syntax, notation, axiom, sorry.
-/
import Derived.Test.YtoilcigmpeaedaaGreatDoorChecked
import GoSem.PinnedTables
import GoSem.Claim
import GoSem.ClaimJoined
import GoSem.ClaimMapViews
import Derived.JoinedTies
import Derived.KernelRfl
namespace Go.Proofs.YtoilcigmpeaedaaGreatDoor
/- THE CELL 'sum', in the pinned program and in every row, IS THE sha256 OF THE DUMP (.gsa) THAT YtoilcigmpeaedaaGreatDoorProg.lean LOADS. Nothing in Lean hashes anything: it is a label: what it is worth is what the hold of that sum in a sandbox is worth. -/
noncomputable def Tryz.pinned : Pinned := { name := "ytoilcigmpeaedaagreatdoor", sum := "c4c9ef2d2d44c4790e5c193714b34272f89833c5c9048d870aca7ec8b6ca4e38", checked := Tryz.checked }
namespace Rows
def none {H : Type} : Left H := { results := [], args := [] }

/- WHAT THE LISTED PACKAGE-LEVEL VARIABLES READ AS WHEN THE CALL BEGINS. Each datum BY PROGRAM (the guide's laid-datum.mjs) off the statement by which the dump's own 'gosem.cut.vars' lays the variable. In a bare row this is a premise. The card (YtoilcigmpeaedaaGreatDoorCards.lean) ties it to the program's text. -/
def laid_fenestra_color_limits {H : Type} : DataW H := .agg [.lit (.int .i64 0), .lit (.int .i64 255), .lit (.int .i64 16777215)]
def laid_fenestra_color_basics {H : Type} : DataW H := .agg [.lit (.int .i64 0), .lit (.int .i64 13434880), .lit (.int .i64 52480), .lit (.int .i64 13487360), .lit (.int .i64 238), .lit (.int .i64 13435085), .lit (.int .i64 52685), .lit (.int .i64 15066597), .lit (.int .i64 8355711), .lit (.int .i64 16711680), .lit (.int .i64 65280), .lit (.int .i64 16776960), .lit (.int .i64 6053119), .lit (.int .i64 16711935), .lit (.int .i64 65535), .lit (.int .i64 16777215)]
def laid_fenestra_color_levels {H : Type} : DataW H := .agg [.lit (.int .i64 0), .lit (.int .i64 95), .lit (.int .i64 135), .lit (.int .i64 175), .lit (.int .i64 215), .lit (.int .i64 255)]
def laid_math_bits_deBruijn32tab {H : Type} : DataW H := .agg [.lit (.int .u8 0), .lit (.int .u8 1), .lit (.int .u8 28), .lit (.int .u8 2), .lit (.int .u8 29), .lit (.int .u8 14), .lit (.int .u8 24), .lit (.int .u8 3), .lit (.int .u8 30), .lit (.int .u8 22), .lit (.int .u8 20), .lit (.int .u8 15), .lit (.int .u8 25), .lit (.int .u8 17), .lit (.int .u8 4), .lit (.int .u8 8), .lit (.int .u8 31), .lit (.int .u8 27), .lit (.int .u8 13), .lit (.int .u8 23), .lit (.int .u8 21), .lit (.int .u8 19), .lit (.int .u8 16), .lit (.int .u8 7), .lit (.int .u8 26), .lit (.int .u8 12), .lit (.int .u8 18), .lit (.int .u8 6), .lit (.int .u8 11), .lit (.int .u8 5), .lit (.int .u8 10), .lit (.int .u8 9)]
def laid_math_bits_deBruijn64tab {H : Type} : DataW H := .agg [.lit (.int .u8 0), .lit (.int .u8 1), .lit (.int .u8 56), .lit (.int .u8 2), .lit (.int .u8 57), .lit (.int .u8 49), .lit (.int .u8 28), .lit (.int .u8 3), .lit (.int .u8 61), .lit (.int .u8 58), .lit (.int .u8 42), .lit (.int .u8 50), .lit (.int .u8 38), .lit (.int .u8 29), .lit (.int .u8 17), .lit (.int .u8 4), .lit (.int .u8 62), .lit (.int .u8 47), .lit (.int .u8 59), .lit (.int .u8 36), .lit (.int .u8 45), .lit (.int .u8 43), .lit (.int .u8 51), .lit (.int .u8 22), .lit (.int .u8 53), .lit (.int .u8 39), .lit (.int .u8 33), .lit (.int .u8 30), .lit (.int .u8 24), .lit (.int .u8 18), .lit (.int .u8 12), .lit (.int .u8 5), .lit (.int .u8 63), .lit (.int .u8 55), .lit (.int .u8 48), .lit (.int .u8 27), .lit (.int .u8 60), .lit (.int .u8 41), .lit (.int .u8 37), .lit (.int .u8 16), .lit (.int .u8 46), .lit (.int .u8 35), .lit (.int .u8 44), .lit (.int .u8 21), .lit (.int .u8 52), .lit (.int .u8 32), .lit (.int .u8 23), .lit (.int .u8 11), .lit (.int .u8 54), .lit (.int .u8 26), .lit (.int .u8 40), .lit (.int .u8 15), .lit (.int .u8 34), .lit (.int .u8 20), .lit (.int .u8 31), .lit (.int .u8 10), .lit (.int .u8 25), .lit (.int .u8 14), .lit (.int .u8 19), .lit (.int .u8 9), .lit (.int .u8 13), .lit (.int .u8 8), .lit (.int .u8 7), .lit (.int .u8 6)]
def laid_internal_strconv_uint64pow10 {H : Type} : DataW H := .agg [.lit (.int .u64 1), .lit (.int .u64 10), .lit (.int .u64 100), .lit (.int .u64 1000), .lit (.int .u64 10000), .lit (.int .u64 100000), .lit (.int .u64 1000000), .lit (.int .u64 10000000), .lit (.int .u64 100000000), .lit (.int .u64 1000000000), .lit (.int .u64 10000000000), .lit (.int .u64 100000000000), .lit (.int .u64 1000000000000), .lit (.int .u64 10000000000000), .lit (.int .u64 100000000000000), .lit (.int .u64 1000000000000000), .lit (.int .u64 10000000000000000), .lit (.int .u64 100000000000000000), .lit (.int .u64 1000000000000000000), .lit (.int .u64 10000000000000000000)]
def laid_unicode_utf8_acceptRanges {H : Type} : DataW H := .agg [.agg [.lit (.int .u8 128), .lit (.int .u8 191)], .agg [.lit (.int .u8 160), .lit (.int .u8 191)], .agg [.lit (.int .u8 128), .lit (.int .u8 159)], .agg [.lit (.int .u8 144), .lit (.int .u8 191)], .agg [.lit (.int .u8 128), .lit (.int .u8 143)], .agg [.lit (.int .u8 0), .lit (.int .u8 0)], .agg [.lit (.int .u8 0), .lit (.int .u8 0)], .agg [.lit (.int .u8 0), .lit (.int .u8 0)], .agg [.lit (.int .u8 0), .lit (.int .u8 0)], .agg [.lit (.int .u8 0), .lit (.int .u8 0)], .agg [.lit (.int .u8 0), .lit (.int .u8 0)], .agg [.lit (.int .u8 0), .lit (.int .u8 0)], .agg [.lit (.int .u8 0), .lit (.int .u8 0)], .agg [.lit (.int .u8 0), .lit (.int .u8 0)], .agg [.lit (.int .u8 0), .lit (.int .u8 0)], .agg [.lit (.int .u8 0), .lit (.int .u8 0)]]
def laid_fenestra_utf_marks {H : Type} : DataW H := .agg [.lit (.int .i64 0), .lit (.int .i64 0), .lit (.int .i64 192), .lit (.int .i64 224), .lit (.int .i64 240)]
/-- One of Go's own tables, pinned by name: the form's constant. -/
def laid_unicode_utf8_first : DataW Unit := Go.Pinned.utf8First

/-- 'fenestralaw08.OscPrints': WHATEVER THE INPUT: true; the input reads as it did. -/
def oscPrintsSpec : ChangeSpec := { name := "oscPrints", fn := fun _ => fun
  | [d1, d2, d3] => { results := [.lit (.bool true)], args := [d1, d2, d3] }
  | _ => none }
def oscPrintsRow : OpenClaim := { program := "ytoilcigmpeaedaagreatdoor", sum := "c4c9ef2d2d44c4790e5c193714b34272f89833c5c9048d870aca7ec8b6ca4e38", func := "fenestra/fenestralaw08.OscPrints", spec := "oscPrints", inPlace := ["internal/abi.NoEscape", "internal/bytealg.MakeNoZero", "internal/bytealg.IndexByteString", "internal/bytealg.IndexString"], unfollowed := true, recurses := true, named := ["fenestra/utf.marks", "fenestra/color.limits", "fenestra/color.basics", "fenestra/color.levels", "internal/strconv.uint64pow10", "math/bits.deBruijn32tab", "math/bits.deBruijn64tab", "internal/bytealg.MaxLen", "unicode/utf8.first", "unicode/utf8.acceptRanges"], apart := false, laid := [("fenestra/color.limits", laid_fenestra_color_limits), ("fenestra/color.basics", laid_fenestra_color_basics), ("fenestra/color.levels", laid_fenestra_color_levels), ("math/bits.deBruijn32tab", laid_math_bits_deBruijn32tab), ("math/bits.deBruijn64tab", laid_math_bits_deBruijn64tab), ("internal/strconv.uint64pow10", laid_internal_strconv_uint64pow10), ("unicode/utf8.acceptRanges", laid_unicode_utf8_acceptRanges), ("fenestra/utf.marks", laid_fenestra_utf_marks), ("unicode/utf8.first", laid_unicode_utf8_first)] }
def OscPrintsSaid : Prop := oscPrintsRow.holds Tryz.pinned (OpenSpec.ofChange oscPrintsSpec)

/-- ITS FALSE NEIGHBOUR: 'it returns false'. Refute it at one input. -/
def oscPrintsWrong : ChangeSpec := { name := "oscPrints", fn := fun _ => fun
  | [d1, d2, d3] => { results := [.lit (.bool false)], args := [d1, d2, d3] }
  | _ => none }
def OscPrintsWrongFalsely : Prop := oscPrintsRow.holds Tryz.pinned (OpenSpec.ofChange oscPrintsWrong)

/-- 'fenestralaw08.OscParses': WHATEVER THE INPUT: true; the input reads as it did. -/
def oscParsesSpec : ChangeSpec := { name := "oscParses", fn := fun _ => fun
  | [d1, d2, d3, d4] => { results := [.lit (.bool true)], args := [d1, d2, d3, d4] }
  | _ => none }
def oscParsesRow : OpenClaim := { program := "ytoilcigmpeaedaagreatdoor", sum := "c4c9ef2d2d44c4790e5c193714b34272f89833c5c9048d870aca7ec8b6ca4e38", func := "fenestra/fenestralaw08.OscParses", spec := "oscParses", inPlace := ["internal/bytealg.IndexByteString", "internal/bytealg.IndexString", "internal/abi.NoEscape", "internal/bytealg.MakeNoZero"], unfollowed := true, recurses := true, named := ["internal/bytealg.MaxLen", "fenestra/utf.marks", "unicode/utf8.first", "unicode/utf8.acceptRanges", "fenestra/color.limits", "fenestra/color.basics", "fenestra/color.levels", "internal/strconv.uint64pow10", "math/bits.deBruijn32tab", "math/bits.deBruijn64tab"], apart := false, laid := [("fenestra/color.limits", laid_fenestra_color_limits), ("fenestra/color.basics", laid_fenestra_color_basics), ("fenestra/color.levels", laid_fenestra_color_levels), ("math/bits.deBruijn32tab", laid_math_bits_deBruijn32tab), ("math/bits.deBruijn64tab", laid_math_bits_deBruijn64tab), ("internal/strconv.uint64pow10", laid_internal_strconv_uint64pow10), ("unicode/utf8.acceptRanges", laid_unicode_utf8_acceptRanges), ("fenestra/utf.marks", laid_fenestra_utf_marks), ("unicode/utf8.first", laid_unicode_utf8_first)] }
def OscParsesSaid : Prop := oscParsesRow.holds Tryz.pinned (OpenSpec.ofChange oscParsesSpec)

/-- ITS FALSE NEIGHBOUR: 'it returns false'. Refute it at one input. -/
def oscParsesWrong : ChangeSpec := { name := "oscParses", fn := fun _ => fun
  | [d1, d2, d3, d4] => { results := [.lit (.bool false)], args := [d1, d2, d3, d4] }
  | _ => none }
def OscParsesWrongFalsely : Prop := oscParsesRow.holds Tryz.pinned (OpenSpec.ofChange oscParsesWrong)

/-- 'fenestralaw08.OscBack': WHATEVER THE INPUT: true; the input reads as it did. -/
def oscBackSpec : ChangeSpec := { name := "oscBack", fn := fun _ => fun
  | [d1, d2] => { results := [.lit (.bool true)], args := [d1, d2] }
  | _ => none }
def oscBackRow : OpenClaim := { program := "ytoilcigmpeaedaagreatdoor", sum := "c4c9ef2d2d44c4790e5c193714b34272f89833c5c9048d870aca7ec8b6ca4e38", func := "fenestra/fenestralaw08.OscBack", spec := "oscBack", inPlace := ["internal/abi.NoEscape", "internal/bytealg.MakeNoZero", "internal/bytealg.IndexByteString", "internal/bytealg.IndexString"], unfollowed := true, recurses := true, named := ["fenestra/utf.marks", "fenestra/color.limits", "fenestra/color.basics", "fenestra/color.levels", "internal/strconv.uint64pow10", "math/bits.deBruijn32tab", "math/bits.deBruijn64tab", "internal/bytealg.MaxLen", "unicode/utf8.first", "unicode/utf8.acceptRanges"], apart := false, laid := [("fenestra/color.limits", laid_fenestra_color_limits), ("fenestra/color.basics", laid_fenestra_color_basics), ("fenestra/color.levels", laid_fenestra_color_levels), ("math/bits.deBruijn32tab", laid_math_bits_deBruijn32tab), ("math/bits.deBruijn64tab", laid_math_bits_deBruijn64tab), ("internal/strconv.uint64pow10", laid_internal_strconv_uint64pow10), ("unicode/utf8.acceptRanges", laid_unicode_utf8_acceptRanges), ("fenestra/utf.marks", laid_fenestra_utf_marks), ("unicode/utf8.first", laid_unicode_utf8_first)] }
def OscBackSaid : Prop := oscBackRow.holds Tryz.pinned (OpenSpec.ofChange oscBackSpec)

/-- ITS FALSE NEIGHBOUR: 'it returns false'. Refute it at one input. -/
def oscBackWrong : ChangeSpec := { name := "oscBack", fn := fun _ => fun
  | [d1, d2] => { results := [.lit (.bool false)], args := [d1, d2] }
  | _ => none }
def OscBackWrongFalsely : Prop := oscBackRow.holds Tryz.pinned (OpenSpec.ofChange oscBackWrong)

/-- 'fenestralaw08.OscCanon': WHATEVER THE INPUT: true; the input reads as it did. -/
def oscCanonSpec : ChangeSpec := { name := "oscCanon", fn := fun _ => fun
  | [d] => { results := [.lit (.bool true)], args := [d] }
  | _ => none }
def oscCanonRow : OpenClaim := { program := "ytoilcigmpeaedaagreatdoor", sum := "c4c9ef2d2d44c4790e5c193714b34272f89833c5c9048d870aca7ec8b6ca4e38", func := "fenestra/fenestralaw08.OscCanon", spec := "oscCanon", inPlace := ["internal/abi.NoEscape", "internal/bytealg.MakeNoZero", "internal/bytealg.IndexByteString", "internal/bytealg.IndexString"], unfollowed := true, recurses := true, named := ["fenestra/utf.marks", "fenestra/color.limits", "fenestra/color.basics", "fenestra/color.levels", "internal/strconv.uint64pow10", "math/bits.deBruijn32tab", "math/bits.deBruijn64tab", "internal/bytealg.MaxLen", "unicode/utf8.first", "unicode/utf8.acceptRanges"], apart := false, laid := [("fenestra/color.limits", laid_fenestra_color_limits), ("fenestra/color.basics", laid_fenestra_color_basics), ("fenestra/color.levels", laid_fenestra_color_levels), ("math/bits.deBruijn32tab", laid_math_bits_deBruijn32tab), ("math/bits.deBruijn64tab", laid_math_bits_deBruijn64tab), ("internal/strconv.uint64pow10", laid_internal_strconv_uint64pow10), ("unicode/utf8.acceptRanges", laid_unicode_utf8_acceptRanges), ("fenestra/utf.marks", laid_fenestra_utf_marks), ("unicode/utf8.first", laid_unicode_utf8_first)] }
def OscCanonSaid : Prop := oscCanonRow.holds Tryz.pinned (OpenSpec.ofChange oscCanonSpec)

/-- ITS FALSE NEIGHBOUR: 'it returns false'. Refute it at one input. -/
def oscCanonWrong : ChangeSpec := { name := "oscCanon", fn := fun _ => fun
  | [d] => { results := [.lit (.bool false)], args := [d] }
  | _ => none }
def OscCanonWrongFalsely : Prop := oscCanonRow.holds Tryz.pinned (OpenSpec.ofChange oscCanonWrong)

/-- 'fenestralaw08.OscTitles': WHATEVER THE INPUT: true; the input reads as it did. -/
def oscTitlesSpec : ChangeSpec := { name := "oscTitles", fn := fun _ => fun
  | [d1, d2, d3] => { results := [.lit (.bool true)], args := [d1, d2, d3] }
  | _ => none }
def oscTitlesRow : OpenClaim := { program := "ytoilcigmpeaedaagreatdoor", sum := "c4c9ef2d2d44c4790e5c193714b34272f89833c5c9048d870aca7ec8b6ca4e38", func := "fenestra/fenestralaw08.OscTitles", spec := "oscTitles", inPlace := ["internal/abi.NoEscape", "internal/bytealg.MakeNoZero", "internal/bytealg.IndexByteString", "internal/bytealg.IndexString"], unfollowed := true, recurses := true, named := ["fenestra/utf.marks", "fenestra/color.limits", "fenestra/color.basics", "fenestra/color.levels", "internal/strconv.uint64pow10", "math/bits.deBruijn32tab", "math/bits.deBruijn64tab", "internal/bytealg.MaxLen", "unicode/utf8.first", "unicode/utf8.acceptRanges"], apart := false, laid := [("fenestra/color.limits", laid_fenestra_color_limits), ("fenestra/color.basics", laid_fenestra_color_basics), ("fenestra/color.levels", laid_fenestra_color_levels), ("math/bits.deBruijn32tab", laid_math_bits_deBruijn32tab), ("math/bits.deBruijn64tab", laid_math_bits_deBruijn64tab), ("internal/strconv.uint64pow10", laid_internal_strconv_uint64pow10), ("unicode/utf8.acceptRanges", laid_unicode_utf8_acceptRanges), ("fenestra/utf.marks", laid_fenestra_utf_marks), ("unicode/utf8.first", laid_unicode_utf8_first)] }
def OscTitlesSaid : Prop := oscTitlesRow.holds Tryz.pinned (OpenSpec.ofChange oscTitlesSpec)

/-- ITS FALSE NEIGHBOUR: 'it returns false'. Refute it at one input. -/
def oscTitlesWrong : ChangeSpec := { name := "oscTitles", fn := fun _ => fun
  | [d1, d2, d3] => { results := [.lit (.bool false)], args := [d1, d2, d3] }
  | _ => none }
def OscTitlesWrongFalsely : Prop := oscTitlesRow.holds Tryz.pinned (OpenSpec.ofChange oscTitlesWrong)

/-- 'fenestralaw08.OscKnown': WHATEVER THE INPUT: true; the input reads as it did. -/
def oscKnownSpec : ChangeSpec := { name := "oscKnown", fn := fun _ => fun
  | [] => { results := [.lit (.bool true)], args := [] }
  | _ => none }
def oscKnownRow : OpenClaim := { program := "ytoilcigmpeaedaagreatdoor", sum := "c4c9ef2d2d44c4790e5c193714b34272f89833c5c9048d870aca7ec8b6ca4e38", func := "fenestra/fenestralaw08.OscKnown", spec := "oscKnown", inPlace := ["internal/abi.NoEscape", "internal/bytealg.MakeNoZero", "internal/bytealg.IndexByteString", "internal/bytealg.IndexString"], unfollowed := true, recurses := true, named := ["fenestra/utf.marks", "fenestra/color.limits", "fenestra/color.basics", "fenestra/color.levels", "internal/strconv.uint64pow10", "math/bits.deBruijn32tab", "math/bits.deBruijn64tab", "internal/bytealg.MaxLen", "unicode/utf8.first", "unicode/utf8.acceptRanges"], apart := false, laid := [("fenestra/color.limits", laid_fenestra_color_limits), ("fenestra/color.basics", laid_fenestra_color_basics), ("fenestra/color.levels", laid_fenestra_color_levels), ("math/bits.deBruijn32tab", laid_math_bits_deBruijn32tab), ("math/bits.deBruijn64tab", laid_math_bits_deBruijn64tab), ("internal/strconv.uint64pow10", laid_internal_strconv_uint64pow10), ("unicode/utf8.acceptRanges", laid_unicode_utf8_acceptRanges), ("fenestra/utf.marks", laid_fenestra_utf_marks), ("unicode/utf8.first", laid_unicode_utf8_first)] }
def OscKnownSaid : Prop := oscKnownRow.holds Tryz.pinned (OpenSpec.ofChange oscKnownSpec)

/-- ITS FALSE NEIGHBOUR: 'it returns false'. Refute it at one input. -/
def oscKnownWrong : ChangeSpec := { name := "oscKnown", fn := fun _ => fun
  | [] => { results := [.lit (.bool false)], args := [] }
  | _ => none }
def OscKnownWrongFalsely : Prop := oscKnownRow.holds Tryz.pinned (OpenSpec.ofChange oscKnownWrong)

/- THE SECOND FORM. 'bulk': how many values and letters a reading holds, each counted each time it is reached (what is shared counts as often as it is met; a slice's spare places count too). A statement '..UptoSaid' is the law's where the arguments, and the package variables that the reading takes, are together of bulk at most 1048576: NARROWER than '..Said'. Prove '..Said' where nothing that the law and all that it calls make is longer than what came in: it says more and counts as full. Else prove '..UptoSaid'. A law counts once. -/
mutual
def uptoBulk {H : Type} : DataW H → Nat
  | .lit (.string bytes) => bytes.length + 1
  | .lit _ => 1
  | .nil => 1
  | .ptr d => uptoBulk d + 1
  | .slice elems spare => uptoBulkAll elems + uptoBulkAll spare + 1
  | .agg parts => uptoBulkAll parts + 1
  | .iface _ d => uptoBulk d + 1
  | .map entries => uptoBulkEntries entries + 1
  | .held _ => 1
def uptoBulkAll {H : Type} : List (DataW H) → Nat
  | [] => 0
  | d :: r => uptoBulk d + uptoBulkAll r
def uptoBulkEntries {H : Type} : List (Lit × DataW H) → Nat
  | [] => 0
  | x :: r => uptoBulkEntry x + uptoBulkEntries r
def uptoBulkEntry {H : Type} : Lit × DataW H → Nat
  | (.string bytes, d) => bytes.length + uptoBulk d + 1
  | (_, d) => uptoBulk d + 1
 end
def uptoSmall : (H : Type) → List (DataW H) → Bool := fun _ ds => decide (uptoBulkAll ds ≤ 1048576)
def OpenSpec.upto (s : _root_.Go.ChangeSpec) : _root_.Go.OpenSpec := { _root_.Go.OpenSpec.ofChange s with cond := some uptoSmall }

/-- 'fenestralaw08.OscPrints', WHERE WHAT IT READS IS OF BULK AT MOST 1048576: true; the input reads as it did. -/
def oscPrintsUptoRow : OpenClaim := { program := "ytoilcigmpeaedaagreatdoor", sum := "c4c9ef2d2d44c4790e5c193714b34272f89833c5c9048d870aca7ec8b6ca4e38", func := "fenestra/fenestralaw08.OscPrints", spec := "oscPrints", inPlace := ["internal/abi.NoEscape", "internal/bytealg.MakeNoZero", "internal/bytealg.IndexByteString", "internal/bytealg.IndexString"], unfollowed := true, recurses := true, named := ["fenestra/utf.marks", "fenestra/color.limits", "fenestra/color.basics", "fenestra/color.levels", "internal/strconv.uint64pow10", "math/bits.deBruijn32tab", "math/bits.deBruijn64tab", "internal/bytealg.MaxLen", "unicode/utf8.first", "unicode/utf8.acceptRanges"], apart := false, laid := [("fenestra/color.limits", laid_fenestra_color_limits), ("fenestra/color.basics", laid_fenestra_color_basics), ("fenestra/color.levels", laid_fenestra_color_levels), ("math/bits.deBruijn32tab", laid_math_bits_deBruijn32tab), ("math/bits.deBruijn64tab", laid_math_bits_deBruijn64tab), ("internal/strconv.uint64pow10", laid_internal_strconv_uint64pow10), ("unicode/utf8.acceptRanges", laid_unicode_utf8_acceptRanges), ("fenestra/utf.marks", laid_fenestra_utf_marks), ("unicode/utf8.first", laid_unicode_utf8_first)], narrowed := true }
def OscPrintsUptoSaid : Prop := oscPrintsUptoRow.holds Tryz.pinned (OpenSpec.upto oscPrintsSpec)

/-- 'fenestralaw08.OscParses', WHERE WHAT IT READS IS OF BULK AT MOST 1048576: true; the input reads as it did. -/
def oscParsesUptoRow : OpenClaim := { program := "ytoilcigmpeaedaagreatdoor", sum := "c4c9ef2d2d44c4790e5c193714b34272f89833c5c9048d870aca7ec8b6ca4e38", func := "fenestra/fenestralaw08.OscParses", spec := "oscParses", inPlace := ["internal/bytealg.IndexByteString", "internal/bytealg.IndexString", "internal/abi.NoEscape", "internal/bytealg.MakeNoZero"], unfollowed := true, recurses := true, named := ["internal/bytealg.MaxLen", "fenestra/utf.marks", "unicode/utf8.first", "unicode/utf8.acceptRanges", "fenestra/color.limits", "fenestra/color.basics", "fenestra/color.levels", "internal/strconv.uint64pow10", "math/bits.deBruijn32tab", "math/bits.deBruijn64tab"], apart := false, laid := [("fenestra/color.limits", laid_fenestra_color_limits), ("fenestra/color.basics", laid_fenestra_color_basics), ("fenestra/color.levels", laid_fenestra_color_levels), ("math/bits.deBruijn32tab", laid_math_bits_deBruijn32tab), ("math/bits.deBruijn64tab", laid_math_bits_deBruijn64tab), ("internal/strconv.uint64pow10", laid_internal_strconv_uint64pow10), ("unicode/utf8.acceptRanges", laid_unicode_utf8_acceptRanges), ("fenestra/utf.marks", laid_fenestra_utf_marks), ("unicode/utf8.first", laid_unicode_utf8_first)], narrowed := true }
def OscParsesUptoSaid : Prop := oscParsesUptoRow.holds Tryz.pinned (OpenSpec.upto oscParsesSpec)

/-- 'fenestralaw08.OscBack', WHERE WHAT IT READS IS OF BULK AT MOST 1048576: true; the input reads as it did. -/
def oscBackUptoRow : OpenClaim := { program := "ytoilcigmpeaedaagreatdoor", sum := "c4c9ef2d2d44c4790e5c193714b34272f89833c5c9048d870aca7ec8b6ca4e38", func := "fenestra/fenestralaw08.OscBack", spec := "oscBack", inPlace := ["internal/abi.NoEscape", "internal/bytealg.MakeNoZero", "internal/bytealg.IndexByteString", "internal/bytealg.IndexString"], unfollowed := true, recurses := true, named := ["fenestra/utf.marks", "fenestra/color.limits", "fenestra/color.basics", "fenestra/color.levels", "internal/strconv.uint64pow10", "math/bits.deBruijn32tab", "math/bits.deBruijn64tab", "internal/bytealg.MaxLen", "unicode/utf8.first", "unicode/utf8.acceptRanges"], apart := false, laid := [("fenestra/color.limits", laid_fenestra_color_limits), ("fenestra/color.basics", laid_fenestra_color_basics), ("fenestra/color.levels", laid_fenestra_color_levels), ("math/bits.deBruijn32tab", laid_math_bits_deBruijn32tab), ("math/bits.deBruijn64tab", laid_math_bits_deBruijn64tab), ("internal/strconv.uint64pow10", laid_internal_strconv_uint64pow10), ("unicode/utf8.acceptRanges", laid_unicode_utf8_acceptRanges), ("fenestra/utf.marks", laid_fenestra_utf_marks), ("unicode/utf8.first", laid_unicode_utf8_first)], narrowed := true }
def OscBackUptoSaid : Prop := oscBackUptoRow.holds Tryz.pinned (OpenSpec.upto oscBackSpec)

/-- 'fenestralaw08.OscCanon', WHERE WHAT IT READS IS OF BULK AT MOST 1048576: true; the input reads as it did. -/
def oscCanonUptoRow : OpenClaim := { program := "ytoilcigmpeaedaagreatdoor", sum := "c4c9ef2d2d44c4790e5c193714b34272f89833c5c9048d870aca7ec8b6ca4e38", func := "fenestra/fenestralaw08.OscCanon", spec := "oscCanon", inPlace := ["internal/abi.NoEscape", "internal/bytealg.MakeNoZero", "internal/bytealg.IndexByteString", "internal/bytealg.IndexString"], unfollowed := true, recurses := true, named := ["fenestra/utf.marks", "fenestra/color.limits", "fenestra/color.basics", "fenestra/color.levels", "internal/strconv.uint64pow10", "math/bits.deBruijn32tab", "math/bits.deBruijn64tab", "internal/bytealg.MaxLen", "unicode/utf8.first", "unicode/utf8.acceptRanges"], apart := false, laid := [("fenestra/color.limits", laid_fenestra_color_limits), ("fenestra/color.basics", laid_fenestra_color_basics), ("fenestra/color.levels", laid_fenestra_color_levels), ("math/bits.deBruijn32tab", laid_math_bits_deBruijn32tab), ("math/bits.deBruijn64tab", laid_math_bits_deBruijn64tab), ("internal/strconv.uint64pow10", laid_internal_strconv_uint64pow10), ("unicode/utf8.acceptRanges", laid_unicode_utf8_acceptRanges), ("fenestra/utf.marks", laid_fenestra_utf_marks), ("unicode/utf8.first", laid_unicode_utf8_first)], narrowed := true }
def OscCanonUptoSaid : Prop := oscCanonUptoRow.holds Tryz.pinned (OpenSpec.upto oscCanonSpec)

/-- 'fenestralaw08.OscTitles', WHERE WHAT IT READS IS OF BULK AT MOST 1048576: true; the input reads as it did. -/
def oscTitlesUptoRow : OpenClaim := { program := "ytoilcigmpeaedaagreatdoor", sum := "c4c9ef2d2d44c4790e5c193714b34272f89833c5c9048d870aca7ec8b6ca4e38", func := "fenestra/fenestralaw08.OscTitles", spec := "oscTitles", inPlace := ["internal/abi.NoEscape", "internal/bytealg.MakeNoZero", "internal/bytealg.IndexByteString", "internal/bytealg.IndexString"], unfollowed := true, recurses := true, named := ["fenestra/utf.marks", "fenestra/color.limits", "fenestra/color.basics", "fenestra/color.levels", "internal/strconv.uint64pow10", "math/bits.deBruijn32tab", "math/bits.deBruijn64tab", "internal/bytealg.MaxLen", "unicode/utf8.first", "unicode/utf8.acceptRanges"], apart := false, laid := [("fenestra/color.limits", laid_fenestra_color_limits), ("fenestra/color.basics", laid_fenestra_color_basics), ("fenestra/color.levels", laid_fenestra_color_levels), ("math/bits.deBruijn32tab", laid_math_bits_deBruijn32tab), ("math/bits.deBruijn64tab", laid_math_bits_deBruijn64tab), ("internal/strconv.uint64pow10", laid_internal_strconv_uint64pow10), ("unicode/utf8.acceptRanges", laid_unicode_utf8_acceptRanges), ("fenestra/utf.marks", laid_fenestra_utf_marks), ("unicode/utf8.first", laid_unicode_utf8_first)], narrowed := true }
def OscTitlesUptoSaid : Prop := oscTitlesUptoRow.holds Tryz.pinned (OpenSpec.upto oscTitlesSpec)

/-- 'fenestralaw08.OscKnown', WHERE WHAT IT READS IS OF BULK AT MOST 1048576: true; the input reads as it did. -/
def oscKnownUptoRow : OpenClaim := { program := "ytoilcigmpeaedaagreatdoor", sum := "c4c9ef2d2d44c4790e5c193714b34272f89833c5c9048d870aca7ec8b6ca4e38", func := "fenestra/fenestralaw08.OscKnown", spec := "oscKnown", inPlace := ["internal/abi.NoEscape", "internal/bytealg.MakeNoZero", "internal/bytealg.IndexByteString", "internal/bytealg.IndexString"], unfollowed := true, recurses := true, named := ["fenestra/utf.marks", "fenestra/color.limits", "fenestra/color.basics", "fenestra/color.levels", "internal/strconv.uint64pow10", "math/bits.deBruijn32tab", "math/bits.deBruijn64tab", "internal/bytealg.MaxLen", "unicode/utf8.first", "unicode/utf8.acceptRanges"], apart := false, laid := [("fenestra/color.limits", laid_fenestra_color_limits), ("fenestra/color.basics", laid_fenestra_color_basics), ("fenestra/color.levels", laid_fenestra_color_levels), ("math/bits.deBruijn32tab", laid_math_bits_deBruijn32tab), ("math/bits.deBruijn64tab", laid_math_bits_deBruijn64tab), ("internal/strconv.uint64pow10", laid_internal_strconv_uint64pow10), ("unicode/utf8.acceptRanges", laid_unicode_utf8_acceptRanges), ("fenestra/utf.marks", laid_fenestra_utf_marks), ("unicode/utf8.first", laid_unicode_utf8_first)], narrowed := true }
def OscKnownUptoSaid : Prop := oscKnownUptoRow.holds Tryz.pinned (OpenSpec.upto oscKnownSpec)

end Rows
end Go.Proofs.YtoilcigmpeaedaaGreatDoor
