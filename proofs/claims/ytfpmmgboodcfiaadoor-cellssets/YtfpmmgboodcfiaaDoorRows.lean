/-
  NARROWER THAN 'FOR EVERY INPUT', by the rows' own cells (each row's printed sentence says how): CellsSets: laid · CellsJoins: laid.
  DERIVED. THE GIVEN ROWS OF THIS SEAT. 2 by the template 'for every input the law returns true; each argument reads behind the call as it read before'; 0 by the template 'total and deterministic' (their statements: YtfpmmgboodcfiaaDoorTotals.lean).
  GIVEN WITH THE SEED: the statements are not yours to turn. If you find one false, say at which input.
  Laid BY PROGRAM, IN A SANDBOX (cutbox-rows.mjs): the forced cells as the released guide's own fill.sh prints them over the translation 92128f0041757c57… (all of the seat's roots in one cut). By AI agents, Wed Nov 11 2026. No macro, syntax, notation, axiom, sorry.
-/
import Derived.Test.YtfpmmgboodcfiaaDoorChecked
import GoSem.Claim
import GoSem.ClaimJoined
import GoSem.ClaimMapViews
import Derived.JoinedTies
import Derived.KernelRfl
namespace Go.Proofs.YtfpmmgboodcfiaaDoor
/- THE CELL 'sum', in the pinned program and in every row, IS THE sha256 OF THE DUMP (.gsa) THAT YtfpmmgboodcfiaaDoorProg.lean LOADS. Nothing in Lean hashes anything: it is a label: what it is worth is what the hold of that sum in a sandbox is worth. -/
noncomputable def Tryd.pinned : Pinned := { name := "ytfpmmgboodcfiaadoor", sum := "92128f0041757c572145a61a608c97ecf10476bdcd194b1b7c58a01f52f1e62c", checked := Tryd.checked }
namespace Rows
def none {H : Type} : Left H := { results := [], args := [] }

/- WHAT THE LISTED PACKAGE-LEVEL VARIABLES READ AS WHEN THE CALL BEGINS. Each datum BY PROGRAM (the guide's laid-datum.mjs) off the statement by which the dump's own 'gosem.cut.vars' lays the variable. In a bare row this is a premise. The card (YtfpmmgboodcfiaaDoorCards.lean) ties it to the program's text. -/
def laid_errors_errorType {H : Type} : DataW H := .iface "internal/reflectlite.rtype" (.agg [.ptr (.lit (.string [101, 114, 114, 111, 114]))])
def laid_concordat_api_ErrText {H : Type} : DataW H := .iface "*errors.errorString" (.ptr (.agg [.lit (.string [99, 111, 110, 99, 111, 114, 100, 97, 116, 58, 32, 116, 101, 120, 116])]))
def laid_concordat_api_ErrBound {H : Type} : DataW H := .iface "*errors.errorString" (.ptr (.agg [.lit (.string [99, 111, 110, 99, 111, 114, 100, 97, 116, 58, 32, 98, 111, 117, 110, 100])]))
def laid_concordat_api_ErrShape {H : Type} : DataW H := .iface "*errors.errorString" (.ptr (.agg [.lit (.string [99, 111, 110, 99, 111, 114, 100, 97, 116, 58, 32, 115, 104, 97, 112, 101])]))
def laid_concordat_api_ErrName {H : Type} : DataW H := .iface "*errors.errorString" (.ptr (.agg [.lit (.string [99, 111, 110, 99, 111, 114, 100, 97, 116, 58, 32, 110, 97, 109, 101])]))
def laid_concordat_api_ErrKind {H : Type} : DataW H := .iface "*errors.errorString" (.ptr (.agg [.lit (.string [99, 111, 110, 99, 111, 114, 100, 97, 116, 58, 32, 107, 105, 110, 100])]))
def laid_concordat_api_ErrNone {H : Type} : DataW H := .iface "*errors.errorString" (.ptr (.agg [.lit (.string [99, 111, 110, 99, 111, 114, 100, 97, 116, 58, 32, 110, 111, 110, 101])]))
def laid_concordat_api_ErrExist {H : Type} : DataW H := .iface "*errors.errorString" (.ptr (.agg [.lit (.string [99, 111, 110, 99, 111, 114, 100, 97, 116, 58, 32, 101, 120, 105, 115, 116])]))
def laid_concordat_api_ErrFull {H : Type} : DataW H := .iface "*errors.errorString" (.ptr (.agg [.lit (.string [99, 111, 110, 99, 111, 114, 100, 97, 116, 58, 32, 102, 117, 108, 108])]))
def laid_concordat_api_ErrGap {H : Type} : DataW H := .iface "*errors.errorString" (.ptr (.agg [.lit (.string [99, 111, 110, 99, 111, 114, 100, 97, 116, 58, 32, 103, 97, 112])]))
def laid_concordat_api_ErrCycle {H : Type} : DataW H := .iface "*errors.errorString" (.ptr (.agg [.lit (.string [99, 111, 110, 99, 111, 114, 100, 97, 116, 58, 32, 99, 121, 99, 108, 101])]))
def laid_concordat_api_ErrOff {H : Type} : DataW H := .iface "*errors.errorString" (.ptr (.agg [.lit (.string [99, 111, 110, 99, 111, 114, 100, 97, 116, 58, 32, 111, 102, 102])]))
def laid_concordat_api_ErrSum {H : Type} : DataW H := .iface "*errors.errorString" (.ptr (.agg [.lit (.string [99, 111, 110, 99, 111, 114, 100, 97, 116, 58, 32, 115, 117, 109])]))

/-- 'concordatlaw1.CellsSets': WHATEVER THE INPUT: true; the input reads as it did. -/
def cellsSetsSpec : ChangeSpec := { name := "cellsSets", fn := fun _ => fun
  | [d1, d2, d3] => { results := [.lit (.bool true)], args := [d1, d2, d3] }
  | _ => none }
def cellsSetsRow : OpenClaim := { program := "ytfpmmgboodcfiaadoor", sum := "92128f0041757c572145a61a608c97ecf10476bdcd194b1b7c58a01f52f1e62c", func := "concordat/concordatlaw1.CellsSets", spec := "cellsSets", inPlace := ["internal/reflectlite.ValueOf", "(internal/reflectlite.Value).Type", "(internal/reflectlite.Value).IsNil", "internal/reflectlite.TypeOf", "(internal/reflectlite.Value).Elem", "(internal/reflectlite.Value).Set"], unfollowed := true, recurses := true, named := ["concordat/api.ErrKind", "concordat/api.ErrBound", "concordat/api.ErrShape", "concordat/api.ErrName", "concordat/api.ErrText", "concordat/api.ErrNone", "concordat/api.ErrExist", "concordat/api.ErrFull", "concordat/api.ErrGap", "concordat/api.ErrCycle", "concordat/api.ErrOff", "concordat/api.ErrSum", "errors.errorType"], plainKeys := false, apart := false, laid := [("errors.errorType", laid_errors_errorType), ("concordat/api.ErrText", laid_concordat_api_ErrText), ("concordat/api.ErrBound", laid_concordat_api_ErrBound), ("concordat/api.ErrShape", laid_concordat_api_ErrShape), ("concordat/api.ErrName", laid_concordat_api_ErrName), ("concordat/api.ErrKind", laid_concordat_api_ErrKind), ("concordat/api.ErrNone", laid_concordat_api_ErrNone), ("concordat/api.ErrExist", laid_concordat_api_ErrExist), ("concordat/api.ErrFull", laid_concordat_api_ErrFull), ("concordat/api.ErrGap", laid_concordat_api_ErrGap), ("concordat/api.ErrCycle", laid_concordat_api_ErrCycle), ("concordat/api.ErrOff", laid_concordat_api_ErrOff), ("concordat/api.ErrSum", laid_concordat_api_ErrSum)] }
def CellsSetsSaid : Prop := cellsSetsRow.holds Tryd.pinned (OpenSpec.ofChange cellsSetsSpec)

/-- ITS FALSE NEIGHBOUR: 'it returns false'. Refute it at one input. -/
def cellsSetsWrong : ChangeSpec := { name := "cellsSets", fn := fun _ => fun
  | [d1, d2, d3] => { results := [.lit (.bool false)], args := [d1, d2, d3] }
  | _ => none }
def CellsSetsWrongFalsely : Prop := cellsSetsRow.holds Tryd.pinned (OpenSpec.ofChange cellsSetsWrong)

/-- 'concordatlaw1.CellsJoins': WHATEVER THE INPUT: true; the input reads as it did. -/
def cellsJoinsSpec : ChangeSpec := { name := "cellsJoins", fn := fun _ => fun
  | [d1, d2] => { results := [.lit (.bool true)], args := [d1, d2] }
  | _ => none }
def cellsJoinsRow : OpenClaim := { program := "ytfpmmgboodcfiaadoor", sum := "92128f0041757c572145a61a608c97ecf10476bdcd194b1b7c58a01f52f1e62c", func := "concordat/concordatlaw1.CellsJoins", spec := "cellsJoins", unfollowed := true, recurses := true, named := ["concordat/api.ErrKind", "concordat/api.ErrBound", "concordat/api.ErrShape", "concordat/api.ErrName"], plainKeys := false, apart := false, laid := [("concordat/api.ErrBound", laid_concordat_api_ErrBound), ("concordat/api.ErrShape", laid_concordat_api_ErrShape), ("concordat/api.ErrName", laid_concordat_api_ErrName), ("concordat/api.ErrKind", laid_concordat_api_ErrKind)] }
def CellsJoinsSaid : Prop := cellsJoinsRow.holds Tryd.pinned (OpenSpec.ofChange cellsJoinsSpec)

/-- ITS FALSE NEIGHBOUR: 'it returns false'. Refute it at one input. -/
def cellsJoinsWrong : ChangeSpec := { name := "cellsJoins", fn := fun _ => fun
  | [d1, d2] => { results := [.lit (.bool false)], args := [d1, d2] }
  | _ => none }
def CellsJoinsWrongFalsely : Prop := cellsJoinsRow.holds Tryd.pinned (OpenSpec.ofChange cellsJoinsWrong)

/- THE SECOND FORM. 'bulk': how many values and letters a reading holds, each counted each time it is reached (what is shared counts as often as it is met; a slice's spare places count too). A statement '..UptoSaid' is the law's where the arguments, and the package variables that the reading takes, are together of bulk at most 1048576: NARROWER than '..Said'. Prove '..Said' where nothing that the law and all that it calls make is longer than what came in: it says more and counts as full. Else prove '..UptoSaid'. A law counts once. -/
mutual
def uptoBulk {H : Type} : DataW H → Nat
  | .lit (.string bytes) => bytes.length + 1
  | .lit _ => 1
  | .nil => 1
  | .ptr d => uptoBulk d + 1
  | .slice elems spare => uptoBulkAll elems + uptoBulkAll spare + 1
  | .agg parts => uptoBulkAll parts + 1
  | .iface _ d => uptoBulk d + 1
  | .map entries => uptoBulkEntries entries + 1
  | .held _ => 1
def uptoBulkAll {H : Type} : List (DataW H) → Nat
  | [] => 0
  | d :: r => uptoBulk d + uptoBulkAll r
def uptoBulkEntries {H : Type} : List (Lit × DataW H) → Nat
  | [] => 0
  | x :: r => uptoBulkEntry x + uptoBulkEntries r
def uptoBulkEntry {H : Type} : Lit × DataW H → Nat
  | (.string bytes, d) => bytes.length + uptoBulk d + 1
  | (_, d) => uptoBulk d + 1
 end
def uptoSmall : (H : Type) → List (DataW H) → Bool := fun _ ds => decide (uptoBulkAll ds ≤ 1048576)
def OpenSpec.upto (s : _root_.Go.ChangeSpec) : _root_.Go.OpenSpec := { _root_.Go.OpenSpec.ofChange s with cond := some uptoSmall }

/-- 'concordatlaw1.CellsSets', WHERE WHAT IT READS IS OF BULK AT MOST 1048576: true; the input reads as it did. -/
def cellsSetsUptoRow : OpenClaim := { program := "ytfpmmgboodcfiaadoor", sum := "92128f0041757c572145a61a608c97ecf10476bdcd194b1b7c58a01f52f1e62c", func := "concordat/concordatlaw1.CellsSets", spec := "cellsSets", inPlace := ["internal/reflectlite.ValueOf", "(internal/reflectlite.Value).Type", "(internal/reflectlite.Value).IsNil", "internal/reflectlite.TypeOf", "(internal/reflectlite.Value).Elem", "(internal/reflectlite.Value).Set"], unfollowed := true, recurses := true, named := ["concordat/api.ErrKind", "concordat/api.ErrBound", "concordat/api.ErrShape", "concordat/api.ErrName", "concordat/api.ErrText", "concordat/api.ErrNone", "concordat/api.ErrExist", "concordat/api.ErrFull", "concordat/api.ErrGap", "concordat/api.ErrCycle", "concordat/api.ErrOff", "concordat/api.ErrSum", "errors.errorType"], plainKeys := false, apart := false, laid := [("errors.errorType", laid_errors_errorType), ("concordat/api.ErrText", laid_concordat_api_ErrText), ("concordat/api.ErrBound", laid_concordat_api_ErrBound), ("concordat/api.ErrShape", laid_concordat_api_ErrShape), ("concordat/api.ErrName", laid_concordat_api_ErrName), ("concordat/api.ErrKind", laid_concordat_api_ErrKind), ("concordat/api.ErrNone", laid_concordat_api_ErrNone), ("concordat/api.ErrExist", laid_concordat_api_ErrExist), ("concordat/api.ErrFull", laid_concordat_api_ErrFull), ("concordat/api.ErrGap", laid_concordat_api_ErrGap), ("concordat/api.ErrCycle", laid_concordat_api_ErrCycle), ("concordat/api.ErrOff", laid_concordat_api_ErrOff), ("concordat/api.ErrSum", laid_concordat_api_ErrSum)], narrowed := true }
def CellsSetsUptoSaid : Prop := cellsSetsUptoRow.holds Tryd.pinned (OpenSpec.upto cellsSetsSpec)

/-- 'concordatlaw1.CellsJoins', WHERE WHAT IT READS IS OF BULK AT MOST 1048576: true; the input reads as it did. -/
def cellsJoinsUptoRow : OpenClaim := { program := "ytfpmmgboodcfiaadoor", sum := "92128f0041757c572145a61a608c97ecf10476bdcd194b1b7c58a01f52f1e62c", func := "concordat/concordatlaw1.CellsJoins", spec := "cellsJoins", unfollowed := true, recurses := true, named := ["concordat/api.ErrKind", "concordat/api.ErrBound", "concordat/api.ErrShape", "concordat/api.ErrName"], plainKeys := false, apart := false, laid := [("concordat/api.ErrBound", laid_concordat_api_ErrBound), ("concordat/api.ErrShape", laid_concordat_api_ErrShape), ("concordat/api.ErrName", laid_concordat_api_ErrName), ("concordat/api.ErrKind", laid_concordat_api_ErrKind)], narrowed := true }
def CellsJoinsUptoSaid : Prop := cellsJoinsUptoRow.holds Tryd.pinned (OpenSpec.upto cellsJoinsSpec)

end Rows
end Go.Proofs.YtfpmmgboodcfiaaDoor
