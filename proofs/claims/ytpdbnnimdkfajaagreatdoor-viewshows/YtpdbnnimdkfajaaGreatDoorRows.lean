/-
  NARROWER THAN 'FOR EVERY INPUT', by the rows' own cells (each row's printed sentence says how): ReplicaActs: laid · ViewShows: laid · ViewPaths: laid.
  DERIVED. THE GIVEN ROWS OF THIS SEAT. 3 by the template 'for every input the law returns true; each argument reads behind the call as it read before'; 0 by the template 'total and deterministic' (their statements: YtpdbnnimdkfajaaGreatDoorTotals.lean).
  GIVEN WITH THE SEED: the statements are not yours to turn. If you find one false, say at which input.
  Laid BY PROGRAM, IN A SANDBOX (cutbox-rows.mjs): the forced cells as the released guide's own fill.sh prints them over the translation f761858a9007c389… (all of the seat's roots in one cut). By AI agents, Wed Nov 11 2026. No macro, syntax, notation, axiom, sorry.
-/
import Derived.Test.YtpdbnnimdkfajaaGreatDoorChecked
import GoSem.PinnedTables
import GoSem.Claim
import GoSem.ClaimJoined
import GoSem.ClaimMapViews
import Derived.JoinedTies
import Derived.KernelRfl
namespace Go.Proofs.YtpdbnnimdkfajaaGreatDoor
/- THE CELL 'sum', in the pinned program and in every row, IS THE sha256 OF THE DUMP (.gsa) THAT YtpdbnnimdkfajaaGreatDoorProg.lean LOADS. Nothing in Lean hashes anything: it is a label: what it is worth is what the hold of that sum in a sandbox is worth. -/
noncomputable def Tryz.pinned : Pinned := { name := "ytpdbnnimdkfajaagreatdoor", sum := "f761858a9007c389d8c76358f65346f6b9d3284ed126aa8a4a7bab148e3df997", checked := Tryz.checked }
namespace Rows
def none {H : Type} : Left H := { results := [], args := [] }

/- WHAT THE LISTED PACKAGE-LEVEL VARIABLES READ AS WHEN THE CALL BEGINS. Each datum BY PROGRAM (the guide's laid-datum.mjs) off the statement by which the dump's own 'gosem.cut.vars' lays the variable. In a bare row this is a premise. The card (YtpdbnnimdkfajaaGreatDoorCards.lean) ties it to the program's text. -/
def laid_math_bits_deBruijn32tab {H : Type} : DataW H := .agg [.lit (.int .u8 0), .lit (.int .u8 1), .lit (.int .u8 28), .lit (.int .u8 2), .lit (.int .u8 29), .lit (.int .u8 14), .lit (.int .u8 24), .lit (.int .u8 3), .lit (.int .u8 30), .lit (.int .u8 22), .lit (.int .u8 20), .lit (.int .u8 15), .lit (.int .u8 25), .lit (.int .u8 17), .lit (.int .u8 4), .lit (.int .u8 8), .lit (.int .u8 31), .lit (.int .u8 27), .lit (.int .u8 13), .lit (.int .u8 23), .lit (.int .u8 21), .lit (.int .u8 19), .lit (.int .u8 16), .lit (.int .u8 7), .lit (.int .u8 26), .lit (.int .u8 12), .lit (.int .u8 18), .lit (.int .u8 6), .lit (.int .u8 11), .lit (.int .u8 5), .lit (.int .u8 10), .lit (.int .u8 9)]
def laid_math_bits_deBruijn64tab {H : Type} : DataW H := .agg [.lit (.int .u8 0), .lit (.int .u8 1), .lit (.int .u8 56), .lit (.int .u8 2), .lit (.int .u8 57), .lit (.int .u8 49), .lit (.int .u8 28), .lit (.int .u8 3), .lit (.int .u8 61), .lit (.int .u8 58), .lit (.int .u8 42), .lit (.int .u8 50), .lit (.int .u8 38), .lit (.int .u8 29), .lit (.int .u8 17), .lit (.int .u8 4), .lit (.int .u8 62), .lit (.int .u8 47), .lit (.int .u8 59), .lit (.int .u8 36), .lit (.int .u8 45), .lit (.int .u8 43), .lit (.int .u8 51), .lit (.int .u8 22), .lit (.int .u8 53), .lit (.int .u8 39), .lit (.int .u8 33), .lit (.int .u8 30), .lit (.int .u8 24), .lit (.int .u8 18), .lit (.int .u8 12), .lit (.int .u8 5), .lit (.int .u8 63), .lit (.int .u8 55), .lit (.int .u8 48), .lit (.int .u8 27), .lit (.int .u8 60), .lit (.int .u8 41), .lit (.int .u8 37), .lit (.int .u8 16), .lit (.int .u8 46), .lit (.int .u8 35), .lit (.int .u8 44), .lit (.int .u8 21), .lit (.int .u8 52), .lit (.int .u8 32), .lit (.int .u8 23), .lit (.int .u8 11), .lit (.int .u8 54), .lit (.int .u8 26), .lit (.int .u8 40), .lit (.int .u8 15), .lit (.int .u8 34), .lit (.int .u8 20), .lit (.int .u8 31), .lit (.int .u8 10), .lit (.int .u8 25), .lit (.int .u8 14), .lit (.int .u8 19), .lit (.int .u8 9), .lit (.int .u8 13), .lit (.int .u8 8), .lit (.int .u8 7), .lit (.int .u8 6)]
def laid_internal_strconv_uint64pow10 {H : Type} : DataW H := .agg [.lit (.int .u64 1), .lit (.int .u64 10), .lit (.int .u64 100), .lit (.int .u64 1000), .lit (.int .u64 10000), .lit (.int .u64 100000), .lit (.int .u64 1000000), .lit (.int .u64 10000000), .lit (.int .u64 100000000), .lit (.int .u64 1000000000), .lit (.int .u64 10000000000), .lit (.int .u64 100000000000), .lit (.int .u64 1000000000000), .lit (.int .u64 10000000000000), .lit (.int .u64 100000000000000), .lit (.int .u64 1000000000000000), .lit (.int .u64 10000000000000000), .lit (.int .u64 100000000000000000), .lit (.int .u64 1000000000000000000), .lit (.int .u64 10000000000000000000)]
def laid_errors_errorType {H : Type} : DataW H := .iface "internal/reflectlite.rtype" (.agg [.ptr (.lit (.string [101, 114, 114, 111, 114]))])
def laid_concordat_api_ErrText {H : Type} : DataW H := .iface "*errors.errorString" (.ptr (.agg [.lit (.string [99, 111, 110, 99, 111, 114, 100, 97, 116, 58, 32, 116, 101, 120, 116])]))
def laid_concordat_api_ErrBound {H : Type} : DataW H := .iface "*errors.errorString" (.ptr (.agg [.lit (.string [99, 111, 110, 99, 111, 114, 100, 97, 116, 58, 32, 98, 111, 117, 110, 100])]))
def laid_concordat_api_ErrShape {H : Type} : DataW H := .iface "*errors.errorString" (.ptr (.agg [.lit (.string [99, 111, 110, 99, 111, 114, 100, 97, 116, 58, 32, 115, 104, 97, 112, 101])]))
def laid_concordat_api_ErrName {H : Type} : DataW H := .iface "*errors.errorString" (.ptr (.agg [.lit (.string [99, 111, 110, 99, 111, 114, 100, 97, 116, 58, 32, 110, 97, 109, 101])]))
def laid_concordat_api_ErrKind {H : Type} : DataW H := .iface "*errors.errorString" (.ptr (.agg [.lit (.string [99, 111, 110, 99, 111, 114, 100, 97, 116, 58, 32, 107, 105, 110, 100])]))
def laid_concordat_api_ErrNone {H : Type} : DataW H := .iface "*errors.errorString" (.ptr (.agg [.lit (.string [99, 111, 110, 99, 111, 114, 100, 97, 116, 58, 32, 110, 111, 110, 101])]))
def laid_concordat_api_ErrExist {H : Type} : DataW H := .iface "*errors.errorString" (.ptr (.agg [.lit (.string [99, 111, 110, 99, 111, 114, 100, 97, 116, 58, 32, 101, 120, 105, 115, 116])]))
def laid_concordat_api_ErrFull {H : Type} : DataW H := .iface "*errors.errorString" (.ptr (.agg [.lit (.string [99, 111, 110, 99, 111, 114, 100, 97, 116, 58, 32, 102, 117, 108, 108])]))
def laid_concordat_api_ErrGap {H : Type} : DataW H := .iface "*errors.errorString" (.ptr (.agg [.lit (.string [99, 111, 110, 99, 111, 114, 100, 97, 116, 58, 32, 103, 97, 112])]))
def laid_concordat_api_ErrCycle {H : Type} : DataW H := .iface "*errors.errorString" (.ptr (.agg [.lit (.string [99, 111, 110, 99, 111, 114, 100, 97, 116, 58, 32, 99, 121, 99, 108, 101])]))
def laid_concordat_api_ErrOff {H : Type} : DataW H := .iface "*errors.errorString" (.ptr (.agg [.lit (.string [99, 111, 110, 99, 111, 114, 100, 97, 116, 58, 32, 111, 102, 102])]))
def laid_concordat_api_ErrSum {H : Type} : DataW H := .iface "*errors.errorString" (.ptr (.agg [.lit (.string [99, 111, 110, 99, 111, 114, 100, 97, 116, 58, 32, 115, 117, 109])]))
def laid_unicode_utf8_acceptRanges {H : Type} : DataW H := .agg [.agg [.lit (.int .u8 128), .lit (.int .u8 191)], .agg [.lit (.int .u8 160), .lit (.int .u8 191)], .agg [.lit (.int .u8 128), .lit (.int .u8 159)], .agg [.lit (.int .u8 144), .lit (.int .u8 191)], .agg [.lit (.int .u8 128), .lit (.int .u8 143)], .agg [.lit (.int .u8 0), .lit (.int .u8 0)], .agg [.lit (.int .u8 0), .lit (.int .u8 0)], .agg [.lit (.int .u8 0), .lit (.int .u8 0)], .agg [.lit (.int .u8 0), .lit (.int .u8 0)], .agg [.lit (.int .u8 0), .lit (.int .u8 0)], .agg [.lit (.int .u8 0), .lit (.int .u8 0)], .agg [.lit (.int .u8 0), .lit (.int .u8 0)], .agg [.lit (.int .u8 0), .lit (.int .u8 0)], .agg [.lit (.int .u8 0), .lit (.int .u8 0)], .agg [.lit (.int .u8 0), .lit (.int .u8 0)], .agg [.lit (.int .u8 0), .lit (.int .u8 0)]]
/-- One of Go's own tables, pinned by name: the form's constant. -/
def laid_unicode_utf8_first : DataW Unit := Go.Pinned.utf8First

/-- 'concordatlaw2.ReplicaActs': WHATEVER THE INPUT: true; the input reads as it did. -/
def replicaActsSpec : ChangeSpec := { name := "replicaActs", fn := fun _ => fun
  | [d1, d2, d3, d4] => { results := [.lit (.bool true)], args := [d1, d2, d3, d4] }
  | _ => none }
def replicaActsRow : OpenClaim := { program := "ytpdbnnimdkfajaagreatdoor", sum := "f761858a9007c389d8c76358f65346f6b9d3284ed126aa8a4a7bab148e3df997", func := "concordat/concordatlaw2.ReplicaActs", spec := "replicaActs", inPlace := ["slices.overlaps[concordat/tree.entry]", "slices.overlaps[concordat/line.letter]", "internal/abi.NoEscape", "internal/bytealg.MakeNoZero", "internal/reflectlite.ValueOf", "(internal/reflectlite.Value).Type", "(internal/reflectlite.Value).IsNil", "internal/reflectlite.TypeOf", "(internal/reflectlite.Value).Elem", "(internal/reflectlite.Value).Set"], unfollowed := true, recurses := true, named := ["concordat/api.ErrBound", "concordat/api.ErrNone", "concordat/api.ErrFull", "concordat/api.ErrKind", "concordat/api.ErrShape", "concordat/api.ErrName", "concordat/api.ErrExist", "concordat/api.ErrGap", "internal/strconv.uint64pow10", "math/bits.deBruijn32tab", "math/bits.deBruijn64tab", "concordat/api.ErrText", "concordat/api.ErrCycle", "concordat/api.ErrOff", "concordat/api.ErrSum", "errors.errorType"], plainKeys := false, apart := false, laid := [("math/bits.deBruijn32tab", laid_math_bits_deBruijn32tab), ("math/bits.deBruijn64tab", laid_math_bits_deBruijn64tab), ("internal/strconv.uint64pow10", laid_internal_strconv_uint64pow10), ("errors.errorType", laid_errors_errorType), ("concordat/api.ErrText", laid_concordat_api_ErrText), ("concordat/api.ErrBound", laid_concordat_api_ErrBound), ("concordat/api.ErrShape", laid_concordat_api_ErrShape), ("concordat/api.ErrName", laid_concordat_api_ErrName), ("concordat/api.ErrKind", laid_concordat_api_ErrKind), ("concordat/api.ErrNone", laid_concordat_api_ErrNone), ("concordat/api.ErrExist", laid_concordat_api_ErrExist), ("concordat/api.ErrFull", laid_concordat_api_ErrFull), ("concordat/api.ErrGap", laid_concordat_api_ErrGap), ("concordat/api.ErrCycle", laid_concordat_api_ErrCycle), ("concordat/api.ErrOff", laid_concordat_api_ErrOff), ("concordat/api.ErrSum", laid_concordat_api_ErrSum)] }
def ReplicaActsSaid : Prop := replicaActsRow.holds Tryz.pinned (OpenSpec.ofChange replicaActsSpec)

/-- ITS FALSE NEIGHBOUR: 'it returns false'. Refute it at one input. -/
def replicaActsWrong : ChangeSpec := { name := "replicaActs", fn := fun _ => fun
  | [d1, d2, d3, d4] => { results := [.lit (.bool false)], args := [d1, d2, d3, d4] }
  | _ => none }
def ReplicaActsWrongFalsely : Prop := replicaActsRow.holds Tryz.pinned (OpenSpec.ofChange replicaActsWrong)

/-- 'concordatlaw2.ViewShows': WHATEVER THE INPUT: true; the input reads as it did. -/
def viewShowsSpec : ChangeSpec := { name := "viewShows", fn := fun _ => fun
  | [d1, d2, d3, d4] => { results := [.lit (.bool true)], args := [d1, d2, d3, d4] }
  | _ => none }
def viewShowsRow : OpenClaim := { program := "ytpdbnnimdkfajaagreatdoor", sum := "f761858a9007c389d8c76358f65346f6b9d3284ed126aa8a4a7bab148e3df997", func := "concordat/concordatlaw2.ViewShows", spec := "viewShows", inPlace := ["slices.overlaps[concordat/tree.entry]", "slices.overlaps[concordat/line.letter]", "internal/bytealg.IndexByteString", "internal/bytealg.IndexString", "internal/bytealg.abigen_runtime_cmpstring", "internal/abi.NoEscape", "internal/bytealg.MakeNoZero"], unfollowed := true, recurses := true, named := ["concordat/api.ErrBound", "concordat/api.ErrNone", "concordat/api.ErrFull", "concordat/api.ErrExist", "concordat/api.ErrKind", "concordat/api.ErrShape", "concordat/api.ErrName", "concordat/api.ErrGap", "unicode/utf8.first", "unicode/utf8.acceptRanges", "internal/bytealg.MaxLen", "internal/strconv.uint64pow10", "math/bits.deBruijn32tab", "math/bits.deBruijn64tab", "concordat/api.ErrCycle"], plainKeys := false, apart := false, laid := [("math/bits.deBruijn32tab", laid_math_bits_deBruijn32tab), ("math/bits.deBruijn64tab", laid_math_bits_deBruijn64tab), ("internal/strconv.uint64pow10", laid_internal_strconv_uint64pow10), ("unicode/utf8.acceptRanges", laid_unicode_utf8_acceptRanges), ("concordat/api.ErrBound", laid_concordat_api_ErrBound), ("concordat/api.ErrShape", laid_concordat_api_ErrShape), ("concordat/api.ErrName", laid_concordat_api_ErrName), ("concordat/api.ErrKind", laid_concordat_api_ErrKind), ("concordat/api.ErrNone", laid_concordat_api_ErrNone), ("concordat/api.ErrExist", laid_concordat_api_ErrExist), ("concordat/api.ErrFull", laid_concordat_api_ErrFull), ("concordat/api.ErrGap", laid_concordat_api_ErrGap), ("concordat/api.ErrCycle", laid_concordat_api_ErrCycle), ("unicode/utf8.first", laid_unicode_utf8_first)] }
def ViewShowsSaid : Prop := viewShowsRow.holds Tryz.pinned (OpenSpec.ofChange viewShowsSpec)

/-- ITS FALSE NEIGHBOUR: 'it returns false'. Refute it at one input. -/
def viewShowsWrong : ChangeSpec := { name := "viewShows", fn := fun _ => fun
  | [d1, d2, d3, d4] => { results := [.lit (.bool false)], args := [d1, d2, d3, d4] }
  | _ => none }
def ViewShowsWrongFalsely : Prop := viewShowsRow.holds Tryz.pinned (OpenSpec.ofChange viewShowsWrong)

/-- 'concordatlaw2.ViewPaths': WHATEVER THE INPUT: true; the input reads as it did. -/
def viewPathsSpec : ChangeSpec := { name := "viewPaths", fn := fun _ => fun
  | [d1, d2] => { results := [.lit (.bool true)], args := [d1, d2] }
  | _ => none }
def viewPathsRow : OpenClaim := { program := "ytpdbnnimdkfajaagreatdoor", sum := "f761858a9007c389d8c76358f65346f6b9d3284ed126aa8a4a7bab148e3df997", func := "concordat/concordatlaw2.ViewPaths", spec := "viewPaths", inPlace := ["slices.overlaps[concordat/tree.entry]", "slices.overlaps[concordat/line.letter]", "internal/bytealg.IndexByteString", "internal/bytealg.IndexString", "internal/bytealg.abigen_runtime_cmpstring", "internal/abi.NoEscape", "internal/bytealg.MakeNoZero"], unfollowed := true, recurses := true, named := ["concordat/api.ErrBound", "concordat/api.ErrNone", "concordat/api.ErrFull", "concordat/api.ErrExist", "concordat/api.ErrKind", "concordat/api.ErrShape", "concordat/api.ErrName", "concordat/api.ErrGap", "unicode/utf8.first", "unicode/utf8.acceptRanges", "internal/bytealg.MaxLen", "internal/strconv.uint64pow10", "math/bits.deBruijn32tab", "math/bits.deBruijn64tab", "concordat/api.ErrCycle"], plainKeys := false, apart := false, laid := [("math/bits.deBruijn32tab", laid_math_bits_deBruijn32tab), ("math/bits.deBruijn64tab", laid_math_bits_deBruijn64tab), ("internal/strconv.uint64pow10", laid_internal_strconv_uint64pow10), ("unicode/utf8.acceptRanges", laid_unicode_utf8_acceptRanges), ("concordat/api.ErrBound", laid_concordat_api_ErrBound), ("concordat/api.ErrShape", laid_concordat_api_ErrShape), ("concordat/api.ErrName", laid_concordat_api_ErrName), ("concordat/api.ErrKind", laid_concordat_api_ErrKind), ("concordat/api.ErrNone", laid_concordat_api_ErrNone), ("concordat/api.ErrExist", laid_concordat_api_ErrExist), ("concordat/api.ErrFull", laid_concordat_api_ErrFull), ("concordat/api.ErrGap", laid_concordat_api_ErrGap), ("concordat/api.ErrCycle", laid_concordat_api_ErrCycle), ("unicode/utf8.first", laid_unicode_utf8_first)] }
def ViewPathsSaid : Prop := viewPathsRow.holds Tryz.pinned (OpenSpec.ofChange viewPathsSpec)

/-- ITS FALSE NEIGHBOUR: 'it returns false'. Refute it at one input. -/
def viewPathsWrong : ChangeSpec := { name := "viewPaths", fn := fun _ => fun
  | [d1, d2] => { results := [.lit (.bool false)], args := [d1, d2] }
  | _ => none }
def ViewPathsWrongFalsely : Prop := viewPathsRow.holds Tryz.pinned (OpenSpec.ofChange viewPathsWrong)

/- THE SECOND FORM. 'bulk': how many values and letters a reading holds, each counted each time it is reached (what is shared counts as often as it is met; a slice's spare places count too). A statement '..UptoSaid' is the law's where the arguments, and the package variables that the reading takes, are together of bulk at most 1048576: NARROWER than '..Said'. Prove '..Said' where nothing that the law and all that it calls make is longer than what came in: it says more and counts as full. Else prove '..UptoSaid'. A law counts once. -/
mutual
def uptoBulk {H : Type} : DataW H → Nat
  | .lit (.string bytes) => bytes.length + 1
  | .lit _ => 1
  | .nil => 1
  | .ptr d => uptoBulk d + 1
  | .slice elems spare => uptoBulkAll elems + uptoBulkAll spare + 1
  | .agg parts => uptoBulkAll parts + 1
  | .iface _ d => uptoBulk d + 1
  | .map entries => uptoBulkEntries entries + 1
  | .held _ => 1
def uptoBulkAll {H : Type} : List (DataW H) → Nat
  | [] => 0
  | d :: r => uptoBulk d + uptoBulkAll r
def uptoBulkEntries {H : Type} : List (Lit × DataW H) → Nat
  | [] => 0
  | x :: r => uptoBulkEntry x + uptoBulkEntries r
def uptoBulkEntry {H : Type} : Lit × DataW H → Nat
  | (.string bytes, d) => bytes.length + uptoBulk d + 1
  | (_, d) => uptoBulk d + 1
 end
def uptoSmall : (H : Type) → List (DataW H) → Bool := fun _ ds => decide (uptoBulkAll ds ≤ 1048576)
def OpenSpec.upto (s : _root_.Go.ChangeSpec) : _root_.Go.OpenSpec := { _root_.Go.OpenSpec.ofChange s with cond := some uptoSmall }

/-- 'concordatlaw2.ReplicaActs', WHERE WHAT IT READS IS OF BULK AT MOST 1048576: true; the input reads as it did. -/
def replicaActsUptoRow : OpenClaim := { program := "ytpdbnnimdkfajaagreatdoor", sum := "f761858a9007c389d8c76358f65346f6b9d3284ed126aa8a4a7bab148e3df997", func := "concordat/concordatlaw2.ReplicaActs", spec := "replicaActs", inPlace := ["slices.overlaps[concordat/tree.entry]", "slices.overlaps[concordat/line.letter]", "internal/abi.NoEscape", "internal/bytealg.MakeNoZero", "internal/reflectlite.ValueOf", "(internal/reflectlite.Value).Type", "(internal/reflectlite.Value).IsNil", "internal/reflectlite.TypeOf", "(internal/reflectlite.Value).Elem", "(internal/reflectlite.Value).Set"], unfollowed := true, recurses := true, named := ["concordat/api.ErrBound", "concordat/api.ErrNone", "concordat/api.ErrFull", "concordat/api.ErrKind", "concordat/api.ErrShape", "concordat/api.ErrName", "concordat/api.ErrExist", "concordat/api.ErrGap", "internal/strconv.uint64pow10", "math/bits.deBruijn32tab", "math/bits.deBruijn64tab", "concordat/api.ErrText", "concordat/api.ErrCycle", "concordat/api.ErrOff", "concordat/api.ErrSum", "errors.errorType"], plainKeys := false, apart := false, laid := [("math/bits.deBruijn32tab", laid_math_bits_deBruijn32tab), ("math/bits.deBruijn64tab", laid_math_bits_deBruijn64tab), ("internal/strconv.uint64pow10", laid_internal_strconv_uint64pow10), ("errors.errorType", laid_errors_errorType), ("concordat/api.ErrText", laid_concordat_api_ErrText), ("concordat/api.ErrBound", laid_concordat_api_ErrBound), ("concordat/api.ErrShape", laid_concordat_api_ErrShape), ("concordat/api.ErrName", laid_concordat_api_ErrName), ("concordat/api.ErrKind", laid_concordat_api_ErrKind), ("concordat/api.ErrNone", laid_concordat_api_ErrNone), ("concordat/api.ErrExist", laid_concordat_api_ErrExist), ("concordat/api.ErrFull", laid_concordat_api_ErrFull), ("concordat/api.ErrGap", laid_concordat_api_ErrGap), ("concordat/api.ErrCycle", laid_concordat_api_ErrCycle), ("concordat/api.ErrOff", laid_concordat_api_ErrOff), ("concordat/api.ErrSum", laid_concordat_api_ErrSum)], narrowed := true }
def ReplicaActsUptoSaid : Prop := replicaActsUptoRow.holds Tryz.pinned (OpenSpec.upto replicaActsSpec)

/-- 'concordatlaw2.ViewShows', WHERE WHAT IT READS IS OF BULK AT MOST 1048576: true; the input reads as it did. -/
def viewShowsUptoRow : OpenClaim := { program := "ytpdbnnimdkfajaagreatdoor", sum := "f761858a9007c389d8c76358f65346f6b9d3284ed126aa8a4a7bab148e3df997", func := "concordat/concordatlaw2.ViewShows", spec := "viewShows", inPlace := ["slices.overlaps[concordat/tree.entry]", "slices.overlaps[concordat/line.letter]", "internal/bytealg.IndexByteString", "internal/bytealg.IndexString", "internal/bytealg.abigen_runtime_cmpstring", "internal/abi.NoEscape", "internal/bytealg.MakeNoZero"], unfollowed := true, recurses := true, named := ["concordat/api.ErrBound", "concordat/api.ErrNone", "concordat/api.ErrFull", "concordat/api.ErrExist", "concordat/api.ErrKind", "concordat/api.ErrShape", "concordat/api.ErrName", "concordat/api.ErrGap", "unicode/utf8.first", "unicode/utf8.acceptRanges", "internal/bytealg.MaxLen", "internal/strconv.uint64pow10", "math/bits.deBruijn32tab", "math/bits.deBruijn64tab", "concordat/api.ErrCycle"], plainKeys := false, apart := false, laid := [("math/bits.deBruijn32tab", laid_math_bits_deBruijn32tab), ("math/bits.deBruijn64tab", laid_math_bits_deBruijn64tab), ("internal/strconv.uint64pow10", laid_internal_strconv_uint64pow10), ("unicode/utf8.acceptRanges", laid_unicode_utf8_acceptRanges), ("concordat/api.ErrBound", laid_concordat_api_ErrBound), ("concordat/api.ErrShape", laid_concordat_api_ErrShape), ("concordat/api.ErrName", laid_concordat_api_ErrName), ("concordat/api.ErrKind", laid_concordat_api_ErrKind), ("concordat/api.ErrNone", laid_concordat_api_ErrNone), ("concordat/api.ErrExist", laid_concordat_api_ErrExist), ("concordat/api.ErrFull", laid_concordat_api_ErrFull), ("concordat/api.ErrGap", laid_concordat_api_ErrGap), ("concordat/api.ErrCycle", laid_concordat_api_ErrCycle), ("unicode/utf8.first", laid_unicode_utf8_first)], narrowed := true }
def ViewShowsUptoSaid : Prop := viewShowsUptoRow.holds Tryz.pinned (OpenSpec.upto viewShowsSpec)

/-- 'concordatlaw2.ViewPaths', WHERE WHAT IT READS IS OF BULK AT MOST 1048576: true; the input reads as it did. -/
def viewPathsUptoRow : OpenClaim := { program := "ytpdbnnimdkfajaagreatdoor", sum := "f761858a9007c389d8c76358f65346f6b9d3284ed126aa8a4a7bab148e3df997", func := "concordat/concordatlaw2.ViewPaths", spec := "viewPaths", inPlace := ["slices.overlaps[concordat/tree.entry]", "slices.overlaps[concordat/line.letter]", "internal/bytealg.IndexByteString", "internal/bytealg.IndexString", "internal/bytealg.abigen_runtime_cmpstring", "internal/abi.NoEscape", "internal/bytealg.MakeNoZero"], unfollowed := true, recurses := true, named := ["concordat/api.ErrBound", "concordat/api.ErrNone", "concordat/api.ErrFull", "concordat/api.ErrExist", "concordat/api.ErrKind", "concordat/api.ErrShape", "concordat/api.ErrName", "concordat/api.ErrGap", "unicode/utf8.first", "unicode/utf8.acceptRanges", "internal/bytealg.MaxLen", "internal/strconv.uint64pow10", "math/bits.deBruijn32tab", "math/bits.deBruijn64tab", "concordat/api.ErrCycle"], plainKeys := false, apart := false, laid := [("math/bits.deBruijn32tab", laid_math_bits_deBruijn32tab), ("math/bits.deBruijn64tab", laid_math_bits_deBruijn64tab), ("internal/strconv.uint64pow10", laid_internal_strconv_uint64pow10), ("unicode/utf8.acceptRanges", laid_unicode_utf8_acceptRanges), ("concordat/api.ErrBound", laid_concordat_api_ErrBound), ("concordat/api.ErrShape", laid_concordat_api_ErrShape), ("concordat/api.ErrName", laid_concordat_api_ErrName), ("concordat/api.ErrKind", laid_concordat_api_ErrKind), ("concordat/api.ErrNone", laid_concordat_api_ErrNone), ("concordat/api.ErrExist", laid_concordat_api_ErrExist), ("concordat/api.ErrFull", laid_concordat_api_ErrFull), ("concordat/api.ErrGap", laid_concordat_api_ErrGap), ("concordat/api.ErrCycle", laid_concordat_api_ErrCycle), ("unicode/utf8.first", laid_unicode_utf8_first)], narrowed := true }
def ViewPathsUptoSaid : Prop := viewPathsUptoRow.holds Tryz.pinned (OpenSpec.upto viewPathsSpec)

end Rows
end Go.Proofs.YtpdbnnimdkfajaaGreatDoor
