/-
  NARROWER THAN 'FOR EVERY INPUT', by the rows' own cells (each row's printed sentence says how): LineKeeps: laid · LineActs: laid.
  DERIVED. THE GIVEN ROWS OF THIS SEAT. 2 by the template 'for every input the law returns true; each argument reads behind the call as it read before'; 0 by the template 'total and deterministic' (their statements: YtchngdhmloahbabDoorTotals.lean).
  GIVEN WITH THE SEED: the statements are not yours to turn. If you find one false, say at which input.
  Laid BY PROGRAM, IN A SANDBOX (cutbox-rows.mjs): the forced cells as the released guide's own fill.sh prints them over the translation 8e60451df661bfd3… (all of the seat's roots in one cut). By AI agents, Wed Nov 11 2026. No macro, syntax, notation, axiom, sorry.
-/
import Derived.Test.YtchngdhmloahbabDoorChecked
import GoSem.Claim
import GoSem.ClaimJoined
import GoSem.ClaimMapViews
import Derived.JoinedTies
import Derived.KernelRfl
namespace Go.Proofs.YtchngdhmloahbabDoor
/- THE CELL 'sum', in the pinned program and in every row, IS THE sha256 OF THE DUMP (.gsa) THAT YtchngdhmloahbabDoorProg.lean LOADS. Nothing in Lean hashes anything: it is a label: what it is worth is what the hold of that sum in a sandbox is worth. -/
noncomputable def Tryd.pinned : Pinned := { name := "ytchngdhmloahbabdoor", sum := "8e60451df661bfd3e02d1a6f5f8a772ddced02a609e4fd35e18c166734a14fa8", checked := Tryd.checked }
namespace Rows
def none {H : Type} : Left H := { results := [], args := [] }

/- WHAT THE LISTED PACKAGE-LEVEL VARIABLES READ AS WHEN THE CALL BEGINS. Each datum BY PROGRAM (the guide's laid-datum.mjs) off the statement by which the dump's own 'gosem.cut.vars' lays the variable. In a bare row this is a premise. The card (YtchngdhmloahbabDoorCards.lean) ties it to the program's text. -/
def laid_concordat_api_ErrBound {H : Type} : DataW H := .iface "*errors.errorString" (.ptr (.agg [.lit (.string [99, 111, 110, 99, 111, 114, 100, 97, 116, 58, 32, 98, 111, 117, 110, 100])]))
def laid_concordat_api_ErrShape {H : Type} : DataW H := .iface "*errors.errorString" (.ptr (.agg [.lit (.string [99, 111, 110, 99, 111, 114, 100, 97, 116, 58, 32, 115, 104, 97, 112, 101])]))
def laid_concordat_api_ErrNone {H : Type} : DataW H := .iface "*errors.errorString" (.ptr (.agg [.lit (.string [99, 111, 110, 99, 111, 114, 100, 97, 116, 58, 32, 110, 111, 110, 101])]))
def laid_concordat_api_ErrExist {H : Type} : DataW H := .iface "*errors.errorString" (.ptr (.agg [.lit (.string [99, 111, 110, 99, 111, 114, 100, 97, 116, 58, 32, 101, 120, 105, 115, 116])]))
def laid_errors_errorType {H : Type} : DataW H := .iface "internal/reflectlite.rtype" (.agg [.ptr (.lit (.string [101, 114, 114, 111, 114]))])
def laid_concordat_api_ErrText {H : Type} : DataW H := .iface "*errors.errorString" (.ptr (.agg [.lit (.string [99, 111, 110, 99, 111, 114, 100, 97, 116, 58, 32, 116, 101, 120, 116])]))
def laid_concordat_api_ErrName {H : Type} : DataW H := .iface "*errors.errorString" (.ptr (.agg [.lit (.string [99, 111, 110, 99, 111, 114, 100, 97, 116, 58, 32, 110, 97, 109, 101])]))
def laid_concordat_api_ErrKind {H : Type} : DataW H := .iface "*errors.errorString" (.ptr (.agg [.lit (.string [99, 111, 110, 99, 111, 114, 100, 97, 116, 58, 32, 107, 105, 110, 100])]))
def laid_concordat_api_ErrFull {H : Type} : DataW H := .iface "*errors.errorString" (.ptr (.agg [.lit (.string [99, 111, 110, 99, 111, 114, 100, 97, 116, 58, 32, 102, 117, 108, 108])]))
def laid_concordat_api_ErrGap {H : Type} : DataW H := .iface "*errors.errorString" (.ptr (.agg [.lit (.string [99, 111, 110, 99, 111, 114, 100, 97, 116, 58, 32, 103, 97, 112])]))
def laid_concordat_api_ErrCycle {H : Type} : DataW H := .iface "*errors.errorString" (.ptr (.agg [.lit (.string [99, 111, 110, 99, 111, 114, 100, 97, 116, 58, 32, 99, 121, 99, 108, 101])]))
def laid_concordat_api_ErrOff {H : Type} : DataW H := .iface "*errors.errorString" (.ptr (.agg [.lit (.string [99, 111, 110, 99, 111, 114, 100, 97, 116, 58, 32, 111, 102, 102])]))
def laid_concordat_api_ErrSum {H : Type} : DataW H := .iface "*errors.errorString" (.ptr (.agg [.lit (.string [99, 111, 110, 99, 111, 114, 100, 97, 116, 58, 32, 115, 117, 109])]))

/-- 'concordatlaw1.LineKeeps': WHATEVER THE INPUT: true; the input reads as it did. -/
def lineKeepsSpec : ChangeSpec := { name := "lineKeeps", fn := fun _ => fun
  | [d] => { results := [.lit (.bool true)], args := [d] }
  | _ => none }
def lineKeepsRow : OpenClaim := { program := "ytchngdhmloahbabdoor", sum := "8e60451df661bfd3e02d1a6f5f8a772ddced02a609e4fd35e18c166734a14fa8", func := "concordat/concordatlaw1.LineKeeps", spec := "lineKeeps", inPlace := ["slices.overlaps[concordat/line.letter]"], unfollowed := true, recurses := true, named := ["concordat/api.ErrShape", "concordat/api.ErrExist", "concordat/api.ErrNone", "concordat/api.ErrBound"], apart := false, laid := [("concordat/api.ErrBound", laid_concordat_api_ErrBound), ("concordat/api.ErrShape", laid_concordat_api_ErrShape), ("concordat/api.ErrNone", laid_concordat_api_ErrNone), ("concordat/api.ErrExist", laid_concordat_api_ErrExist)] }
def LineKeepsSaid : Prop := lineKeepsRow.holds Tryd.pinned (OpenSpec.ofChange lineKeepsSpec)

/-- ITS FALSE NEIGHBOUR: 'it returns false'. Refute it at one input. -/
def lineKeepsWrong : ChangeSpec := { name := "lineKeeps", fn := fun _ => fun
  | [d] => { results := [.lit (.bool false)], args := [d] }
  | _ => none }
def LineKeepsWrongFalsely : Prop := lineKeepsRow.holds Tryd.pinned (OpenSpec.ofChange lineKeepsWrong)

/-- 'concordatlaw1.LineActs': WHATEVER THE INPUT: true; the input reads as it did. -/
def lineActsSpec : ChangeSpec := { name := "lineActs", fn := fun _ => fun
  | [d1, d2] => { results := [.lit (.bool true)], args := [d1, d2] }
  | _ => none }
def lineActsRow : OpenClaim := { program := "ytchngdhmloahbabdoor", sum := "8e60451df661bfd3e02d1a6f5f8a772ddced02a609e4fd35e18c166734a14fa8", func := "concordat/concordatlaw1.LineActs", spec := "lineActs", inPlace := ["slices.overlaps[concordat/line.letter]", "internal/reflectlite.ValueOf", "(internal/reflectlite.Value).Type", "(internal/reflectlite.Value).IsNil", "internal/reflectlite.TypeOf", "(internal/reflectlite.Value).Elem", "(internal/reflectlite.Value).Set"], unfollowed := true, recurses := true, named := ["concordat/api.ErrShape", "concordat/api.ErrExist", "concordat/api.ErrNone", "concordat/api.ErrBound", "concordat/api.ErrText", "concordat/api.ErrName", "concordat/api.ErrKind", "concordat/api.ErrFull", "concordat/api.ErrGap", "concordat/api.ErrCycle", "concordat/api.ErrOff", "concordat/api.ErrSum", "errors.errorType"], apart := false, laid := [("errors.errorType", laid_errors_errorType), ("concordat/api.ErrText", laid_concordat_api_ErrText), ("concordat/api.ErrBound", laid_concordat_api_ErrBound), ("concordat/api.ErrShape", laid_concordat_api_ErrShape), ("concordat/api.ErrName", laid_concordat_api_ErrName), ("concordat/api.ErrKind", laid_concordat_api_ErrKind), ("concordat/api.ErrNone", laid_concordat_api_ErrNone), ("concordat/api.ErrExist", laid_concordat_api_ErrExist), ("concordat/api.ErrFull", laid_concordat_api_ErrFull), ("concordat/api.ErrGap", laid_concordat_api_ErrGap), ("concordat/api.ErrCycle", laid_concordat_api_ErrCycle), ("concordat/api.ErrOff", laid_concordat_api_ErrOff), ("concordat/api.ErrSum", laid_concordat_api_ErrSum)] }
def LineActsSaid : Prop := lineActsRow.holds Tryd.pinned (OpenSpec.ofChange lineActsSpec)

/-- ITS FALSE NEIGHBOUR: 'it returns false'. Refute it at one input. -/
def lineActsWrong : ChangeSpec := { name := "lineActs", fn := fun _ => fun
  | [d1, d2] => { results := [.lit (.bool false)], args := [d1, d2] }
  | _ => none }
def LineActsWrongFalsely : Prop := lineActsRow.holds Tryd.pinned (OpenSpec.ofChange lineActsWrong)

/- THE SECOND FORM. 'bulk': how many values and letters a reading holds, each counted each time it is reached (what is shared counts as often as it is met; a slice's spare places count too). A statement '..UptoSaid' is the law's where the arguments, and the package variables that the reading takes, are together of bulk at most 1048576: NARROWER than '..Said'. Prove '..Said' where nothing that the law and all that it calls make is longer than what came in: it says more and counts as full. Else prove '..UptoSaid'. A law counts once. -/
mutual
def uptoBulk {H : Type} : DataW H → Nat
  | .lit (.string bytes) => bytes.length + 1
  | .lit _ => 1
  | .nil => 1
  | .ptr d => uptoBulk d + 1
  | .slice elems spare => uptoBulkAll elems + uptoBulkAll spare + 1
  | .agg parts => uptoBulkAll parts + 1
  | .iface _ d => uptoBulk d + 1
  | .map entries => uptoBulkEntries entries + 1
  | .held _ => 1
def uptoBulkAll {H : Type} : List (DataW H) → Nat
  | [] => 0
  | d :: r => uptoBulk d + uptoBulkAll r
def uptoBulkEntries {H : Type} : List (Lit × DataW H) → Nat
  | [] => 0
  | x :: r => uptoBulkEntry x + uptoBulkEntries r
def uptoBulkEntry {H : Type} : Lit × DataW H → Nat
  | (.string bytes, d) => bytes.length + uptoBulk d + 1
  | (_, d) => uptoBulk d + 1
 end
def uptoSmall : (H : Type) → List (DataW H) → Bool := fun _ ds => decide (uptoBulkAll ds ≤ 1048576)
def OpenSpec.upto (s : _root_.Go.ChangeSpec) : _root_.Go.OpenSpec := { _root_.Go.OpenSpec.ofChange s with cond := some uptoSmall }

/-- 'concordatlaw1.LineKeeps', WHERE WHAT IT READS IS OF BULK AT MOST 1048576: true; the input reads as it did. -/
def lineKeepsUptoRow : OpenClaim := { program := "ytchngdhmloahbabdoor", sum := "8e60451df661bfd3e02d1a6f5f8a772ddced02a609e4fd35e18c166734a14fa8", func := "concordat/concordatlaw1.LineKeeps", spec := "lineKeeps", inPlace := ["slices.overlaps[concordat/line.letter]"], unfollowed := true, recurses := true, named := ["concordat/api.ErrShape", "concordat/api.ErrExist", "concordat/api.ErrNone", "concordat/api.ErrBound"], apart := false, laid := [("concordat/api.ErrBound", laid_concordat_api_ErrBound), ("concordat/api.ErrShape", laid_concordat_api_ErrShape), ("concordat/api.ErrNone", laid_concordat_api_ErrNone), ("concordat/api.ErrExist", laid_concordat_api_ErrExist)], narrowed := true }
def LineKeepsUptoSaid : Prop := lineKeepsUptoRow.holds Tryd.pinned (OpenSpec.upto lineKeepsSpec)

/-- 'concordatlaw1.LineActs', WHERE WHAT IT READS IS OF BULK AT MOST 1048576: true; the input reads as it did. -/
def lineActsUptoRow : OpenClaim := { program := "ytchngdhmloahbabdoor", sum := "8e60451df661bfd3e02d1a6f5f8a772ddced02a609e4fd35e18c166734a14fa8", func := "concordat/concordatlaw1.LineActs", spec := "lineActs", inPlace := ["slices.overlaps[concordat/line.letter]", "internal/reflectlite.ValueOf", "(internal/reflectlite.Value).Type", "(internal/reflectlite.Value).IsNil", "internal/reflectlite.TypeOf", "(internal/reflectlite.Value).Elem", "(internal/reflectlite.Value).Set"], unfollowed := true, recurses := true, named := ["concordat/api.ErrShape", "concordat/api.ErrExist", "concordat/api.ErrNone", "concordat/api.ErrBound", "concordat/api.ErrText", "concordat/api.ErrName", "concordat/api.ErrKind", "concordat/api.ErrFull", "concordat/api.ErrGap", "concordat/api.ErrCycle", "concordat/api.ErrOff", "concordat/api.ErrSum", "errors.errorType"], apart := false, laid := [("errors.errorType", laid_errors_errorType), ("concordat/api.ErrText", laid_concordat_api_ErrText), ("concordat/api.ErrBound", laid_concordat_api_ErrBound), ("concordat/api.ErrShape", laid_concordat_api_ErrShape), ("concordat/api.ErrName", laid_concordat_api_ErrName), ("concordat/api.ErrKind", laid_concordat_api_ErrKind), ("concordat/api.ErrNone", laid_concordat_api_ErrNone), ("concordat/api.ErrExist", laid_concordat_api_ErrExist), ("concordat/api.ErrFull", laid_concordat_api_ErrFull), ("concordat/api.ErrGap", laid_concordat_api_ErrGap), ("concordat/api.ErrCycle", laid_concordat_api_ErrCycle), ("concordat/api.ErrOff", laid_concordat_api_ErrOff), ("concordat/api.ErrSum", laid_concordat_api_ErrSum)], narrowed := true }
def LineActsUptoSaid : Prop := lineActsUptoRow.holds Tryd.pinned (OpenSpec.upto lineActsSpec)

end Rows
end Go.Proofs.YtchngdhmloahbabDoor
