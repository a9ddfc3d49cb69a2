/-
  NARROWER THAN 'FOR EVERY INPUT', by the rows' own cells (each row's printed sentence says how): SgrPens: laid · SgrValues: laid · SgrParams: laid · SgrBack: laid · SgrSound: laid · SgrApart: laid · SgrKnown: laid.
  DERIVED. THE GIVEN ROWS OF THIS SEAT. 7 by the template 'for every input the law returns true; each argument reads behind the call as it read before'; 0 by the template 'total and deterministic' (their statements: YteepfecplabinaaDoorTotals.lean).
  GIVEN WITH THE SEED: the statements are not yours to turn. If you find one false, say at which input.
  Laid BY PROGRAM, IN A SANDBOX (cutbox-rows.mjs): the forced cells as the released guide's own fill.sh prints them over the translation 425709dcf5abe9ca… (all of the seat's roots in one cut). By AI agents, Wed Nov 11 2026. No macro, syntax, notation, axiom, sorry.
-/
import Derived.Test.YteepfecplabinaaDoorChecked
import GoSem.Claim
import GoSem.ClaimJoined
import GoSem.ClaimMapViews
import Derived.JoinedTies
import Derived.KernelRfl
namespace Go.Proofs.YteepfecplabinaaDoor
/- THE CELL 'sum', in the pinned program and in every row, IS THE sha256 OF THE DUMP (.gsa) THAT YteepfecplabinaaDoorProg.lean LOADS. Nothing in Lean hashes anything: it is a label: what it is worth is what the hold of that sum in a sandbox is worth. -/
noncomputable def Tryd.pinned : Pinned := { name := "yteepfecplabinaadoor", sum := "425709dcf5abe9ca14e3b5b26d064f8c5f87860c861344145647099efacef7dc", checked := Tryd.checked }
namespace Rows
def none {H : Type} : Left H := { results := [], args := [] }

/- WHAT THE LISTED PACKAGE-LEVEL VARIABLES READ AS WHEN THE CALL BEGINS. Each datum BY PROGRAM (the guide's laid-datum.mjs) off the statement by which the dump's own 'gosem.cut.vars' lays the variable. In a bare row this is a premise. The card (YteepfecplabinaaDoorCards.lean) ties it to the program's text. -/
def laid_fenestra_color_limits {H : Type} : DataW H := .agg [.lit (.int .i64 0), .lit (.int .i64 255), .lit (.int .i64 16777215)]
def laid_math_bits_deBruijn32tab {H : Type} : DataW H := .agg [.lit (.int .u8 0), .lit (.int .u8 1), .lit (.int .u8 28), .lit (.int .u8 2), .lit (.int .u8 29), .lit (.int .u8 14), .lit (.int .u8 24), .lit (.int .u8 3), .lit (.int .u8 30), .lit (.int .u8 22), .lit (.int .u8 20), .lit (.int .u8 15), .lit (.int .u8 25), .lit (.int .u8 17), .lit (.int .u8 4), .lit (.int .u8 8), .lit (.int .u8 31), .lit (.int .u8 27), .lit (.int .u8 13), .lit (.int .u8 23), .lit (.int .u8 21), .lit (.int .u8 19), .lit (.int .u8 16), .lit (.int .u8 7), .lit (.int .u8 26), .lit (.int .u8 12), .lit (.int .u8 18), .lit (.int .u8 6), .lit (.int .u8 11), .lit (.int .u8 5), .lit (.int .u8 10), .lit (.int .u8 9)]
def laid_math_bits_deBruijn64tab {H : Type} : DataW H := .agg [.lit (.int .u8 0), .lit (.int .u8 1), .lit (.int .u8 56), .lit (.int .u8 2), .lit (.int .u8 57), .lit (.int .u8 49), .lit (.int .u8 28), .lit (.int .u8 3), .lit (.int .u8 61), .lit (.int .u8 58), .lit (.int .u8 42), .lit (.int .u8 50), .lit (.int .u8 38), .lit (.int .u8 29), .lit (.int .u8 17), .lit (.int .u8 4), .lit (.int .u8 62), .lit (.int .u8 47), .lit (.int .u8 59), .lit (.int .u8 36), .lit (.int .u8 45), .lit (.int .u8 43), .lit (.int .u8 51), .lit (.int .u8 22), .lit (.int .u8 53), .lit (.int .u8 39), .lit (.int .u8 33), .lit (.int .u8 30), .lit (.int .u8 24), .lit (.int .u8 18), .lit (.int .u8 12), .lit (.int .u8 5), .lit (.int .u8 63), .lit (.int .u8 55), .lit (.int .u8 48), .lit (.int .u8 27), .lit (.int .u8 60), .lit (.int .u8 41), .lit (.int .u8 37), .lit (.int .u8 16), .lit (.int .u8 46), .lit (.int .u8 35), .lit (.int .u8 44), .lit (.int .u8 21), .lit (.int .u8 52), .lit (.int .u8 32), .lit (.int .u8 23), .lit (.int .u8 11), .lit (.int .u8 54), .lit (.int .u8 26), .lit (.int .u8 40), .lit (.int .u8 15), .lit (.int .u8 34), .lit (.int .u8 20), .lit (.int .u8 31), .lit (.int .u8 10), .lit (.int .u8 25), .lit (.int .u8 14), .lit (.int .u8 19), .lit (.int .u8 9), .lit (.int .u8 13), .lit (.int .u8 8), .lit (.int .u8 7), .lit (.int .u8 6)]
def laid_internal_strconv_uint64pow10 {H : Type} : DataW H := .agg [.lit (.int .u64 1), .lit (.int .u64 10), .lit (.int .u64 100), .lit (.int .u64 1000), .lit (.int .u64 10000), .lit (.int .u64 100000), .lit (.int .u64 1000000), .lit (.int .u64 10000000), .lit (.int .u64 100000000), .lit (.int .u64 1000000000), .lit (.int .u64 10000000000), .lit (.int .u64 100000000000), .lit (.int .u64 1000000000000), .lit (.int .u64 10000000000000), .lit (.int .u64 100000000000000), .lit (.int .u64 1000000000000000), .lit (.int .u64 10000000000000000), .lit (.int .u64 100000000000000000), .lit (.int .u64 1000000000000000000), .lit (.int .u64 10000000000000000000)]
def laid_fenestra_sgr_setters {H : Type} : DataW H := .agg [.lit (.int .i64 1), .lit (.int .i64 2), .lit (.int .i64 3), .lit (.int .i64 5), .lit (.int .i64 7), .lit (.int .i64 8), .lit (.int .i64 9), .lit (.int .i64 53)]
def laid_fenestra_sgr_clearers {H : Type} : DataW H := .agg [.lit (.int .i64 22), .lit (.int .i64 22), .lit (.int .i64 23), .lit (.int .i64 25), .lit (.int .i64 27), .lit (.int .i64 28), .lit (.int .i64 29), .lit (.int .i64 55)]

/-- 'fenestralaw09.SgrPens': WHATEVER THE INPUT: true; the input reads as it did. -/
def sgrPensSpec : ChangeSpec := { name := "sgrPens", fn := fun _ => fun
  | [d1, d2, d3] => { results := [.lit (.bool true)], args := [d1, d2, d3] }
  | _ => none }
def sgrPensRow : OpenClaim := { program := "yteepfecplabinaadoor", sum := "425709dcf5abe9ca14e3b5b26d064f8c5f87860c861344145647099efacef7dc", func := "fenestra/fenestralaw09.SgrPens", spec := "sgrPens", unfollowed := true, recurses := true, named := ["fenestra/sgr.setters", "fenestra/sgr.clearers", "fenestra/color.limits", "math/bits.deBruijn32tab", "math/bits.deBruijn64tab", "internal/strconv.uint64pow10"], apart := false, laid := [("fenestra/color.limits", laid_fenestra_color_limits), ("math/bits.deBruijn32tab", laid_math_bits_deBruijn32tab), ("math/bits.deBruijn64tab", laid_math_bits_deBruijn64tab), ("internal/strconv.uint64pow10", laid_internal_strconv_uint64pow10), ("fenestra/sgr.setters", laid_fenestra_sgr_setters), ("fenestra/sgr.clearers", laid_fenestra_sgr_clearers)] }
def SgrPensSaid : Prop := sgrPensRow.holds Tryd.pinned (OpenSpec.ofChange sgrPensSpec)

/-- ITS FALSE NEIGHBOUR: 'it returns false'. Refute it at one input. -/
def sgrPensWrong : ChangeSpec := { name := "sgrPens", fn := fun _ => fun
  | [d1, d2, d3] => { results := [.lit (.bool false)], args := [d1, d2, d3] }
  | _ => none }
def SgrPensWrongFalsely : Prop := sgrPensRow.holds Tryd.pinned (OpenSpec.ofChange sgrPensWrong)

/-- 'fenestralaw09.SgrValues': WHATEVER THE INPUT: true; the input reads as it did. -/
def sgrValuesSpec : ChangeSpec := { name := "sgrValues", fn := fun _ => fun
  | [d1, d2] => { results := [.lit (.bool true)], args := [d1, d2] }
  | _ => none }
def sgrValuesRow : OpenClaim := { program := "yteepfecplabinaadoor", sum := "425709dcf5abe9ca14e3b5b26d064f8c5f87860c861344145647099efacef7dc", func := "fenestra/fenestralaw09.SgrValues", spec := "sgrValues", unfollowed := true, recurses := true, named := ["fenestra/sgr.setters", "fenestra/sgr.clearers", "fenestra/color.limits", "math/bits.deBruijn32tab", "math/bits.deBruijn64tab", "internal/strconv.uint64pow10"], apart := false, laid := [("fenestra/color.limits", laid_fenestra_color_limits), ("math/bits.deBruijn32tab", laid_math_bits_deBruijn32tab), ("math/bits.deBruijn64tab", laid_math_bits_deBruijn64tab), ("internal/strconv.uint64pow10", laid_internal_strconv_uint64pow10), ("fenestra/sgr.setters", laid_fenestra_sgr_setters), ("fenestra/sgr.clearers", laid_fenestra_sgr_clearers)] }
def SgrValuesSaid : Prop := sgrValuesRow.holds Tryd.pinned (OpenSpec.ofChange sgrValuesSpec)

/-- ITS FALSE NEIGHBOUR: 'it returns false'. Refute it at one input. -/
def sgrValuesWrong : ChangeSpec := { name := "sgrValues", fn := fun _ => fun
  | [d1, d2] => { results := [.lit (.bool false)], args := [d1, d2] }
  | _ => none }
def SgrValuesWrongFalsely : Prop := sgrValuesRow.holds Tryd.pinned (OpenSpec.ofChange sgrValuesWrong)

/-- 'fenestralaw09.SgrParams': WHATEVER THE INPUT: true; the input reads as it did. -/
def sgrParamsSpec : ChangeSpec := { name := "sgrParams", fn := fun _ => fun
  | [d1, d2, d3] => { results := [.lit (.bool true)], args := [d1, d2, d3] }
  | _ => none }
def sgrParamsRow : OpenClaim := { program := "yteepfecplabinaadoor", sum := "425709dcf5abe9ca14e3b5b26d064f8c5f87860c861344145647099efacef7dc", func := "fenestra/fenestralaw09.SgrParams", spec := "sgrParams", unfollowed := true, recurses := true, named := ["fenestra/color.limits", "fenestra/sgr.setters", "fenestra/sgr.clearers", "math/bits.deBruijn32tab", "math/bits.deBruijn64tab", "internal/strconv.uint64pow10"], apart := false, laid := [("fenestra/color.limits", laid_fenestra_color_limits), ("math/bits.deBruijn32tab", laid_math_bits_deBruijn32tab), ("math/bits.deBruijn64tab", laid_math_bits_deBruijn64tab), ("internal/strconv.uint64pow10", laid_internal_strconv_uint64pow10), ("fenestra/sgr.setters", laid_fenestra_sgr_setters), ("fenestra/sgr.clearers", laid_fenestra_sgr_clearers)] }
def SgrParamsSaid : Prop := sgrParamsRow.holds Tryd.pinned (OpenSpec.ofChange sgrParamsSpec)

/-- ITS FALSE NEIGHBOUR: 'it returns false'. Refute it at one input. -/
def sgrParamsWrong : ChangeSpec := { name := "sgrParams", fn := fun _ => fun
  | [d1, d2, d3] => { results := [.lit (.bool false)], args := [d1, d2, d3] }
  | _ => none }
def SgrParamsWrongFalsely : Prop := sgrParamsRow.holds Tryd.pinned (OpenSpec.ofChange sgrParamsWrong)

/-- 'fenestralaw09.SgrBack': WHATEVER THE INPUT: true; the input reads as it did. -/
def sgrBackSpec : ChangeSpec := { name := "sgrBack", fn := fun _ => fun
  | [d1, d2] => { results := [.lit (.bool true)], args := [d1, d2] }
  | _ => none }
def sgrBackRow : OpenClaim := { program := "yteepfecplabinaadoor", sum := "425709dcf5abe9ca14e3b5b26d064f8c5f87860c861344145647099efacef7dc", func := "fenestra/fenestralaw09.SgrBack", spec := "sgrBack", unfollowed := true, recurses := true, named := ["fenestra/sgr.setters", "fenestra/sgr.clearers", "fenestra/color.limits", "math/bits.deBruijn32tab", "math/bits.deBruijn64tab", "internal/strconv.uint64pow10"], apart := false, laid := [("fenestra/color.limits", laid_fenestra_color_limits), ("math/bits.deBruijn32tab", laid_math_bits_deBruijn32tab), ("math/bits.deBruijn64tab", laid_math_bits_deBruijn64tab), ("internal/strconv.uint64pow10", laid_internal_strconv_uint64pow10), ("fenestra/sgr.setters", laid_fenestra_sgr_setters), ("fenestra/sgr.clearers", laid_fenestra_sgr_clearers)] }
def SgrBackSaid : Prop := sgrBackRow.holds Tryd.pinned (OpenSpec.ofChange sgrBackSpec)

/-- ITS FALSE NEIGHBOUR: 'it returns false'. Refute it at one input. -/
def sgrBackWrong : ChangeSpec := { name := "sgrBack", fn := fun _ => fun
  | [d1, d2] => { results := [.lit (.bool false)], args := [d1, d2] }
  | _ => none }
def SgrBackWrongFalsely : Prop := sgrBackRow.holds Tryd.pinned (OpenSpec.ofChange sgrBackWrong)

/-- 'fenestralaw09.SgrSound': WHATEVER THE INPUT: true; the input reads as it did. -/
def sgrSoundSpec : ChangeSpec := { name := "sgrSound", fn := fun _ => fun
  | [d1, d2] => { results := [.lit (.bool true)], args := [d1, d2] }
  | _ => none }
def sgrSoundRow : OpenClaim := { program := "yteepfecplabinaadoor", sum := "425709dcf5abe9ca14e3b5b26d064f8c5f87860c861344145647099efacef7dc", func := "fenestra/fenestralaw09.SgrSound", spec := "sgrSound", unfollowed := true, recurses := true, named := ["fenestra/sgr.setters", "fenestra/sgr.clearers", "fenestra/color.limits", "math/bits.deBruijn32tab", "math/bits.deBruijn64tab", "internal/strconv.uint64pow10"], apart := false, laid := [("fenestra/color.limits", laid_fenestra_color_limits), ("math/bits.deBruijn32tab", laid_math_bits_deBruijn32tab), ("math/bits.deBruijn64tab", laid_math_bits_deBruijn64tab), ("internal/strconv.uint64pow10", laid_internal_strconv_uint64pow10), ("fenestra/sgr.setters", laid_fenestra_sgr_setters), ("fenestra/sgr.clearers", laid_fenestra_sgr_clearers)] }
def SgrSoundSaid : Prop := sgrSoundRow.holds Tryd.pinned (OpenSpec.ofChange sgrSoundSpec)

/-- ITS FALSE NEIGHBOUR: 'it returns false'. Refute it at one input. -/
def sgrSoundWrong : ChangeSpec := { name := "sgrSound", fn := fun _ => fun
  | [d1, d2] => { results := [.lit (.bool false)], args := [d1, d2] }
  | _ => none }
def SgrSoundWrongFalsely : Prop := sgrSoundRow.holds Tryd.pinned (OpenSpec.ofChange sgrSoundWrong)

/-- 'fenestralaw09.SgrApart': WHATEVER THE INPUT: true; the input reads as it did. -/
def sgrApartSpec : ChangeSpec := { name := "sgrApart", fn := fun _ => fun
  | [d1, d2, d3] => { results := [.lit (.bool true)], args := [d1, d2, d3] }
  | _ => none }
def sgrApartRow : OpenClaim := { program := "yteepfecplabinaadoor", sum := "425709dcf5abe9ca14e3b5b26d064f8c5f87860c861344145647099efacef7dc", func := "fenestra/fenestralaw09.SgrApart", spec := "sgrApart", unfollowed := true, recurses := true, named := ["fenestra/sgr.setters", "fenestra/sgr.clearers", "fenestra/color.limits", "math/bits.deBruijn32tab", "math/bits.deBruijn64tab", "internal/strconv.uint64pow10"], apart := false, laid := [("fenestra/color.limits", laid_fenestra_color_limits), ("math/bits.deBruijn32tab", laid_math_bits_deBruijn32tab), ("math/bits.deBruijn64tab", laid_math_bits_deBruijn64tab), ("internal/strconv.uint64pow10", laid_internal_strconv_uint64pow10), ("fenestra/sgr.setters", laid_fenestra_sgr_setters), ("fenestra/sgr.clearers", laid_fenestra_sgr_clearers)] }
def SgrApartSaid : Prop := sgrApartRow.holds Tryd.pinned (OpenSpec.ofChange sgrApartSpec)

/-- ITS FALSE NEIGHBOUR: 'it returns false'. Refute it at one input. -/
def sgrApartWrong : ChangeSpec := { name := "sgrApart", fn := fun _ => fun
  | [d1, d2, d3] => { results := [.lit (.bool false)], args := [d1, d2, d3] }
  | _ => none }
def SgrApartWrongFalsely : Prop := sgrApartRow.holds Tryd.pinned (OpenSpec.ofChange sgrApartWrong)

/-- 'fenestralaw09.SgrKnown': WHATEVER THE INPUT: true; the input reads as it did. -/
def sgrKnownSpec : ChangeSpec := { name := "sgrKnown", fn := fun _ => fun
  | [] => { results := [.lit (.bool true)], args := [] }
  | _ => none }
def sgrKnownRow : OpenClaim := { program := "yteepfecplabinaadoor", sum := "425709dcf5abe9ca14e3b5b26d064f8c5f87860c861344145647099efacef7dc", func := "fenestra/fenestralaw09.SgrKnown", spec := "sgrKnown", unfollowed := true, recurses := true, named := ["fenestra/sgr.setters", "fenestra/sgr.clearers", "fenestra/color.limits", "math/bits.deBruijn32tab", "math/bits.deBruijn64tab", "internal/strconv.uint64pow10"], apart := false, laid := [("fenestra/color.limits", laid_fenestra_color_limits), ("math/bits.deBruijn32tab", laid_math_bits_deBruijn32tab), ("math/bits.deBruijn64tab", laid_math_bits_deBruijn64tab), ("internal/strconv.uint64pow10", laid_internal_strconv_uint64pow10), ("fenestra/sgr.setters", laid_fenestra_sgr_setters), ("fenestra/sgr.clearers", laid_fenestra_sgr_clearers)] }
def SgrKnownSaid : Prop := sgrKnownRow.holds Tryd.pinned (OpenSpec.ofChange sgrKnownSpec)

/-- ITS FALSE NEIGHBOUR: 'it returns false'. Refute it at one input. -/
def sgrKnownWrong : ChangeSpec := { name := "sgrKnown", fn := fun _ => fun
  | [] => { results := [.lit (.bool false)], args := [] }
  | _ => none }
def SgrKnownWrongFalsely : Prop := sgrKnownRow.holds Tryd.pinned (OpenSpec.ofChange sgrKnownWrong)

/- THE SECOND FORM. 'bulk': how many values and letters a reading holds, each counted each time it is reached (what is shared counts as often as it is met; a slice's spare places count too). A statement '..UptoSaid' is the law's where the arguments, and the package variables that the reading takes, are together of bulk at most 1048576: NARROWER than '..Said'. Prove '..Said' where nothing that the law and all that it calls make is longer than what came in: it says more and counts as full. Else prove '..UptoSaid'. A law counts once. -/
mutual
def uptoBulk {H : Type} : DataW H → Nat
  | .lit (.string bytes) => bytes.length + 1
  | .lit _ => 1
  | .nil => 1
  | .ptr d => uptoBulk d + 1
  | .slice elems spare => uptoBulkAll elems + uptoBulkAll spare + 1
  | .agg parts => uptoBulkAll parts + 1
  | .iface _ d => uptoBulk d + 1
  | .map entries => uptoBulkEntries entries + 1
  | .held _ => 1
def uptoBulkAll {H : Type} : List (DataW H) → Nat
  | [] => 0
  | d :: r => uptoBulk d + uptoBulkAll r
def uptoBulkEntries {H : Type} : List (Lit × DataW H) → Nat
  | [] => 0
  | x :: r => uptoBulkEntry x + uptoBulkEntries r
def uptoBulkEntry {H : Type} : Lit × DataW H → Nat
  | (.string bytes, d) => bytes.length + uptoBulk d + 1
  | (_, d) => uptoBulk d + 1
 end
def uptoSmall : (H : Type) → List (DataW H) → Bool := fun _ ds => decide (uptoBulkAll ds ≤ 1048576)
def OpenSpec.upto (s : _root_.Go.ChangeSpec) : _root_.Go.OpenSpec := { _root_.Go.OpenSpec.ofChange s with cond := some uptoSmall }

/-- 'fenestralaw09.SgrPens', WHERE WHAT IT READS IS OF BULK AT MOST 1048576: true; the input reads as it did. -/
def sgrPensUptoRow : OpenClaim := { program := "yteepfecplabinaadoor", sum := "425709dcf5abe9ca14e3b5b26d064f8c5f87860c861344145647099efacef7dc", func := "fenestra/fenestralaw09.SgrPens", spec := "sgrPens", unfollowed := true, recurses := true, named := ["fenestra/sgr.setters", "fenestra/sgr.clearers", "fenestra/color.limits", "math/bits.deBruijn32tab", "math/bits.deBruijn64tab", "internal/strconv.uint64pow10"], apart := false, laid := [("fenestra/color.limits", laid_fenestra_color_limits), ("math/bits.deBruijn32tab", laid_math_bits_deBruijn32tab), ("math/bits.deBruijn64tab", laid_math_bits_deBruijn64tab), ("internal/strconv.uint64pow10", laid_internal_strconv_uint64pow10), ("fenestra/sgr.setters", laid_fenestra_sgr_setters), ("fenestra/sgr.clearers", laid_fenestra_sgr_clearers)], narrowed := true }
def SgrPensUptoSaid : Prop := sgrPensUptoRow.holds Tryd.pinned (OpenSpec.upto sgrPensSpec)

/-- 'fenestralaw09.SgrValues', WHERE WHAT IT READS IS OF BULK AT MOST 1048576: true; the input reads as it did. -/
def sgrValuesUptoRow : OpenClaim := { program := "yteepfecplabinaadoor", sum := "425709dcf5abe9ca14e3b5b26d064f8c5f87860c861344145647099efacef7dc", func := "fenestra/fenestralaw09.SgrValues", spec := "sgrValues", unfollowed := true, recurses := true, named := ["fenestra/sgr.setters", "fenestra/sgr.clearers", "fenestra/color.limits", "math/bits.deBruijn32tab", "math/bits.deBruijn64tab", "internal/strconv.uint64pow10"], apart := false, laid := [("fenestra/color.limits", laid_fenestra_color_limits), ("math/bits.deBruijn32tab", laid_math_bits_deBruijn32tab), ("math/bits.deBruijn64tab", laid_math_bits_deBruijn64tab), ("internal/strconv.uint64pow10", laid_internal_strconv_uint64pow10), ("fenestra/sgr.setters", laid_fenestra_sgr_setters), ("fenestra/sgr.clearers", laid_fenestra_sgr_clearers)], narrowed := true }
def SgrValuesUptoSaid : Prop := sgrValuesUptoRow.holds Tryd.pinned (OpenSpec.upto sgrValuesSpec)

/-- 'fenestralaw09.SgrParams', WHERE WHAT IT READS IS OF BULK AT MOST 1048576: true; the input reads as it did. -/
def sgrParamsUptoRow : OpenClaim := { program := "yteepfecplabinaadoor", sum := "425709dcf5abe9ca14e3b5b26d064f8c5f87860c861344145647099efacef7dc", func := "fenestra/fenestralaw09.SgrParams", spec := "sgrParams", unfollowed := true, recurses := true, named := ["fenestra/color.limits", "fenestra/sgr.setters", "fenestra/sgr.clearers", "math/bits.deBruijn32tab", "math/bits.deBruijn64tab", "internal/strconv.uint64pow10"], apart := false, laid := [("fenestra/color.limits", laid_fenestra_color_limits), ("math/bits.deBruijn32tab", laid_math_bits_deBruijn32tab), ("math/bits.deBruijn64tab", laid_math_bits_deBruijn64tab), ("internal/strconv.uint64pow10", laid_internal_strconv_uint64pow10), ("fenestra/sgr.setters", laid_fenestra_sgr_setters), ("fenestra/sgr.clearers", laid_fenestra_sgr_clearers)], narrowed := true }
def SgrParamsUptoSaid : Prop := sgrParamsUptoRow.holds Tryd.pinned (OpenSpec.upto sgrParamsSpec)

/-- 'fenestralaw09.SgrBack', WHERE WHAT IT READS IS OF BULK AT MOST 1048576: true; the input reads as it did. -/
def sgrBackUptoRow : OpenClaim := { program := "yteepfecplabinaadoor", sum := "425709dcf5abe9ca14e3b5b26d064f8c5f87860c861344145647099efacef7dc", func := "fenestra/fenestralaw09.SgrBack", spec := "sgrBack", unfollowed := true, recurses := true, named := ["fenestra/sgr.setters", "fenestra/sgr.clearers", "fenestra/color.limits", "math/bits.deBruijn32tab", "math/bits.deBruijn64tab", "internal/strconv.uint64pow10"], apart := false, laid := [("fenestra/color.limits", laid_fenestra_color_limits), ("math/bits.deBruijn32tab", laid_math_bits_deBruijn32tab), ("math/bits.deBruijn64tab", laid_math_bits_deBruijn64tab), ("internal/strconv.uint64pow10", laid_internal_strconv_uint64pow10), ("fenestra/sgr.setters", laid_fenestra_sgr_setters), ("fenestra/sgr.clearers", laid_fenestra_sgr_clearers)], narrowed := true }
def SgrBackUptoSaid : Prop := sgrBackUptoRow.holds Tryd.pinned (OpenSpec.upto sgrBackSpec)

/-- 'fenestralaw09.SgrSound', WHERE WHAT IT READS IS OF BULK AT MOST 1048576: true; the input reads as it did. -/
def sgrSoundUptoRow : OpenClaim := { program := "yteepfecplabinaadoor", sum := "425709dcf5abe9ca14e3b5b26d064f8c5f87860c861344145647099efacef7dc", func := "fenestra/fenestralaw09.SgrSound", spec := "sgrSound", unfollowed := true, recurses := true, named := ["fenestra/sgr.setters", "fenestra/sgr.clearers", "fenestra/color.limits", "math/bits.deBruijn32tab", "math/bits.deBruijn64tab", "internal/strconv.uint64pow10"], apart := false, laid := [("fenestra/color.limits", laid_fenestra_color_limits), ("math/bits.deBruijn32tab", laid_math_bits_deBruijn32tab), ("math/bits.deBruijn64tab", laid_math_bits_deBruijn64tab), ("internal/strconv.uint64pow10", laid_internal_strconv_uint64pow10), ("fenestra/sgr.setters", laid_fenestra_sgr_setters), ("fenestra/sgr.clearers", laid_fenestra_sgr_clearers)], narrowed := true }
def SgrSoundUptoSaid : Prop := sgrSoundUptoRow.holds Tryd.pinned (OpenSpec.upto sgrSoundSpec)

/-- 'fenestralaw09.SgrApart', WHERE WHAT IT READS IS OF BULK AT MOST 1048576: true; the input reads as it did. -/
def sgrApartUptoRow : OpenClaim := { program := "yteepfecplabinaadoor", sum := "425709dcf5abe9ca14e3b5b26d064f8c5f87860c861344145647099efacef7dc", func := "fenestra/fenestralaw09.SgrApart", spec := "sgrApart", unfollowed := true, recurses := true, named := ["fenestra/sgr.setters", "fenestra/sgr.clearers", "fenestra/color.limits", "math/bits.deBruijn32tab", "math/bits.deBruijn64tab", "internal/strconv.uint64pow10"], apart := false, laid := [("fenestra/color.limits", laid_fenestra_color_limits), ("math/bits.deBruijn32tab", laid_math_bits_deBruijn32tab), ("math/bits.deBruijn64tab", laid_math_bits_deBruijn64tab), ("internal/strconv.uint64pow10", laid_internal_strconv_uint64pow10), ("fenestra/sgr.setters", laid_fenestra_sgr_setters), ("fenestra/sgr.clearers", laid_fenestra_sgr_clearers)], narrowed := true }
def SgrApartUptoSaid : Prop := sgrApartUptoRow.holds Tryd.pinned (OpenSpec.upto sgrApartSpec)

/-- 'fenestralaw09.SgrKnown', WHERE WHAT IT READS IS OF BULK AT MOST 1048576: true; the input reads as it did. -/
def sgrKnownUptoRow : OpenClaim := { program := "yteepfecplabinaadoor", sum := "425709dcf5abe9ca14e3b5b26d064f8c5f87860c861344145647099efacef7dc", func := "fenestra/fenestralaw09.SgrKnown", spec := "sgrKnown", unfollowed := true, recurses := true, named := ["fenestra/sgr.setters", "fenestra/sgr.clearers", "fenestra/color.limits", "math/bits.deBruijn32tab", "math/bits.deBruijn64tab", "internal/strconv.uint64pow10"], apart := false, laid := [("fenestra/color.limits", laid_fenestra_color_limits), ("math/bits.deBruijn32tab", laid_math_bits_deBruijn32tab), ("math/bits.deBruijn64tab", laid_math_bits_deBruijn64tab), ("internal/strconv.uint64pow10", laid_internal_strconv_uint64pow10), ("fenestra/sgr.setters", laid_fenestra_sgr_setters), ("fenestra/sgr.clearers", laid_fenestra_sgr_clearers)], narrowed := true }
def SgrKnownUptoSaid : Prop := sgrKnownUptoRow.holds Tryd.pinned (OpenSpec.upto sgrKnownSpec)

end Rows
end Go.Proofs.YteepfecplabinaaDoor
