/-
  NARROWER THAN 'FOR EVERY INPUT', by the rows' own cells (each row's printed sentence says how): FnExactTxnPut: ifaces, laid · FnExactTxnCut: ifaces, laid.
  DERIVED. THE GIVEN ROWS OF THIS SEAT. 2 by the template 'for every input the law returns true; each argument reads behind the call as it read before'; 0 by the template 'total and deterministic' (their statements: YtnajddjalagmoaaGreatDoorTotals.lean).
  GIVEN WITH THE SEED: the statements are not yours to turn. If you find one false, say at which input.
  Laid BY PROGRAM, IN A SANDBOX (cutbox-rows.mjs): the forced cells as the released guide's own fill.sh prints them over the translation 8ad3ac77dd62cf85… (all of the seat's roots in one cut). By AI agents, Wed Nov 11 2026. No macro, syntax, notation, axiom, sorry.
-/
import Derived.Test.YtnajddjalagmoaaGreatDoorChecked
import GoSem.Claim
import GoSem.ClaimJoined
import GoSem.ClaimMapViews
import Derived.JoinedTies
import Derived.KernelRfl
namespace Go.Proofs.YtnajddjalagmoaaGreatDoor
/- THE CELL 'sum', in the pinned program and in every row, IS THE sha256 OF THE DUMP (.gsa) THAT YtnajddjalagmoaaGreatDoorProg.lean LOADS. Nothing in Lean hashes anything: it is a label: what it is worth is what the hold of that sum in a sandbox is worth. -/
noncomputable def Tryz.pinned : Pinned := { name := "ytnajddjalagmoaagreatdoor", sum := "8ad3ac77dd62cf853cbcc70b8c23d7ffa2d88ade2288b9f65fc97ca656b834c1", checked := Tryz.checked }
namespace Rows
def none {H : Type} : Left H := { results := [], args := [] }

/- WHAT THE LISTED PACKAGE-LEVEL VARIABLES READ AS WHEN THE CALL BEGINS. Each datum BY PROGRAM (the guide's laid-datum.mjs) off the statement by which the dump's own 'gosem.cut.vars' lays the variable. In a bare row this is a premise. The card (YtnajddjalagmoaaGreatDoorCards.lean) ties it to the program's text. -/
def laid_errors_errorType {H : Type} : DataW H := .iface "internal/reflectlite.rtype" (.agg [.ptr (.lit (.string [101, 114, 114, 111, 114]))])
def laid_loop_example_g00229_impl_errNone {H : Type} : DataW H := .iface "*errors.errorString" (.ptr (.agg [.lit (.string [110, 111, 32, 115, 117, 99, 104, 32, 116, 114, 97, 110, 115, 97, 99, 116, 105, 111, 110, 32, 103, 111, 101, 115, 32, 111, 110])]))
def laid_loop_example_g00229_impl_errBad {H : Type} : DataW H := .iface "*errors.errorString" (.ptr (.agg [.lit (.string [116, 104, 101, 32, 73, 100, 32, 111, 114, 32, 116, 104, 101, 32, 115, 104, 97, 112, 101, 32, 105, 115, 32, 110, 111, 110, 101])]))
def laid_loop_example_g00229_impl_errMissing {H : Type} : DataW H := .iface "*errors.errorString" (.ptr (.agg [.lit (.string [110, 111, 116, 104, 105, 110, 103, 32, 105, 115, 32, 115, 101, 101, 110, 32, 117, 110, 100, 101, 114, 32, 116, 104, 101, 32, 73, 100])]))

/-- 'laws.FnExactTxnPut': WHATEVER THE INPUT: true; the input reads as it did. -/
def fnExactTxnPutSpec : ChangeSpec := { name := "fnExactTxnPut", vars := ["loop.example/g00229/impl.errBad", "loop.example/g00229/impl.errNone"], fn := fun _ => fun
  | [d1, d2, d3, d4, g1, g2] => { results := [.lit (.bool true)], args := [d1, d2, d3, d4], vars := [g1, g2] }
  | _ => none }
def fnExactTxnPutRow : OpenClaim := { program := "ytnajddjalagmoaagreatdoor", sum := "8ad3ac77dd62cf853cbcc70b8c23d7ffa2d88ade2288b9f65fc97ca656b834c1", func := "loop.example/g00229/laws.FnExactTxnPut", spec := "fnExactTxnPut", inPlace := ["slices.overlaps[loop.example/g00229/impl.Change]", "internal/reflectlite.TypeOf", "internal/reflectlite.ValueOf", "(internal/reflectlite.Value).Type", "(internal/reflectlite.Value).IsNil", "(internal/reflectlite.Value).Elem", "(internal/reflectlite.Value).Set"], unfollowed := true, recurses := true, named := ["loop.example/g00229/impl.errBad", "loop.example/g00229/impl.errNone", "errors.errorType"], ifaces := true, apart := false, laid := [("errors.errorType", laid_errors_errorType), ("loop.example/g00229/impl.errNone", laid_loop_example_g00229_impl_errNone), ("loop.example/g00229/impl.errBad", laid_loop_example_g00229_impl_errBad)] }
def FnExactTxnPutSaid : Prop := fnExactTxnPutRow.holds Tryz.pinned (OpenSpec.ofChange fnExactTxnPutSpec)

/-- ITS FALSE NEIGHBOUR: 'it returns false'. Refute it at one input. -/
def fnExactTxnPutWrong : ChangeSpec := { name := "fnExactTxnPut", vars := ["loop.example/g00229/impl.errBad", "loop.example/g00229/impl.errNone"], fn := fun _ => fun
  | [d1, d2, d3, d4, g1, g2] => { results := [.lit (.bool false)], args := [d1, d2, d3, d4], vars := [g1, g2] }
  | _ => none }
def FnExactTxnPutWrongFalsely : Prop := fnExactTxnPutRow.holds Tryz.pinned (OpenSpec.ofChange fnExactTxnPutWrong)

/-- 'laws.FnExactTxnCut': WHATEVER THE INPUT: true; the input reads as it did. -/
def fnExactTxnCutSpec : ChangeSpec := { name := "fnExactTxnCut", vars := ["loop.example/g00229/impl.errMissing", "loop.example/g00229/impl.errNone"], fn := fun _ => fun
  | [d1, d2, d3, g1, g2] => { results := [.lit (.bool true)], args := [d1, d2, d3], vars := [g1, g2] }
  | _ => none }
def fnExactTxnCutRow : OpenClaim := { program := "ytnajddjalagmoaagreatdoor", sum := "8ad3ac77dd62cf853cbcc70b8c23d7ffa2d88ade2288b9f65fc97ca656b834c1", func := "loop.example/g00229/laws.FnExactTxnCut", spec := "fnExactTxnCut", inPlace := ["slices.overlaps[loop.example/g00229/impl.Change]", "internal/reflectlite.TypeOf", "internal/reflectlite.ValueOf", "(internal/reflectlite.Value).Type", "(internal/reflectlite.Value).IsNil", "(internal/reflectlite.Value).Elem", "(internal/reflectlite.Value).Set"], unfollowed := true, recurses := true, named := ["loop.example/g00229/impl.errMissing", "loop.example/g00229/impl.errNone", "errors.errorType"], ifaces := true, apart := false, laid := [("errors.errorType", laid_errors_errorType), ("loop.example/g00229/impl.errNone", laid_loop_example_g00229_impl_errNone), ("loop.example/g00229/impl.errMissing", laid_loop_example_g00229_impl_errMissing)] }
def FnExactTxnCutSaid : Prop := fnExactTxnCutRow.holds Tryz.pinned (OpenSpec.ofChange fnExactTxnCutSpec)

/-- ITS FALSE NEIGHBOUR: 'it returns false'. Refute it at one input. -/
def fnExactTxnCutWrong : ChangeSpec := { name := "fnExactTxnCut", vars := ["loop.example/g00229/impl.errMissing", "loop.example/g00229/impl.errNone"], fn := fun _ => fun
  | [d1, d2, d3, g1, g2] => { results := [.lit (.bool false)], args := [d1, d2, d3], vars := [g1, g2] }
  | _ => none }
def FnExactTxnCutWrongFalsely : Prop := fnExactTxnCutRow.holds Tryz.pinned (OpenSpec.ofChange fnExactTxnCutWrong)

/- THE SECOND FORM. 'bulk': how many values and letters a reading holds, each counted each time it is reached (what is shared counts as often as it is met; a slice's spare places count too). A statement '..UptoSaid' is the law's where the arguments, and the package variables that the reading takes, are together of bulk at most 1048576: NARROWER than '..Said'. Prove '..Said' where nothing that the law and all that it calls make is longer than what came in: it says more and counts as full. Else prove '..UptoSaid'. A law counts once. -/
mutual
def uptoBulk {H : Type} : DataW H → Nat
  | .lit (.string bytes) => bytes.length + 1
  | .lit _ => 1
  | .nil => 1
  | .ptr d => uptoBulk d + 1
  | .slice elems spare => uptoBulkAll elems + uptoBulkAll spare + 1
  | .agg parts => uptoBulkAll parts + 1
  | .iface _ d => uptoBulk d + 1
  | .map entries => uptoBulkEntries entries + 1
  | .held _ => 1
def uptoBulkAll {H : Type} : List (DataW H) → Nat
  | [] => 0
  | d :: r => uptoBulk d + uptoBulkAll r
def uptoBulkEntries {H : Type} : List (Lit × DataW H) → Nat
  | [] => 0
  | x :: r => uptoBulkEntry x + uptoBulkEntries r
def uptoBulkEntry {H : Type} : Lit × DataW H → Nat
  | (.string bytes, d) => bytes.length + uptoBulk d + 1
  | (_, d) => uptoBulk d + 1
 end
def uptoSmall : (H : Type) → List (DataW H) → Bool := fun _ ds => decide (uptoBulkAll ds ≤ 1048576)
def OpenSpec.upto (s : _root_.Go.ChangeSpec) : _root_.Go.OpenSpec := { _root_.Go.OpenSpec.ofChange s with cond := some uptoSmall }

/-- 'laws.FnExactTxnPut', WHERE WHAT IT READS IS OF BULK AT MOST 1048576: true; the input reads as it did. -/
def fnExactTxnPutUptoRow : OpenClaim := { program := "ytnajddjalagmoaagreatdoor", sum := "8ad3ac77dd62cf853cbcc70b8c23d7ffa2d88ade2288b9f65fc97ca656b834c1", func := "loop.example/g00229/laws.FnExactTxnPut", spec := "fnExactTxnPut", inPlace := ["slices.overlaps[loop.example/g00229/impl.Change]", "internal/reflectlite.TypeOf", "internal/reflectlite.ValueOf", "(internal/reflectlite.Value).Type", "(internal/reflectlite.Value).IsNil", "(internal/reflectlite.Value).Elem", "(internal/reflectlite.Value).Set"], unfollowed := true, recurses := true, named := ["loop.example/g00229/impl.errBad", "loop.example/g00229/impl.errNone", "errors.errorType"], ifaces := true, apart := false, laid := [("errors.errorType", laid_errors_errorType), ("loop.example/g00229/impl.errNone", laid_loop_example_g00229_impl_errNone), ("loop.example/g00229/impl.errBad", laid_loop_example_g00229_impl_errBad)], narrowed := true }
def FnExactTxnPutUptoSaid : Prop := fnExactTxnPutUptoRow.holds Tryz.pinned (OpenSpec.upto fnExactTxnPutSpec)

/-- 'laws.FnExactTxnCut', WHERE WHAT IT READS IS OF BULK AT MOST 1048576: true; the input reads as it did. -/
def fnExactTxnCutUptoRow : OpenClaim := { program := "ytnajddjalagmoaagreatdoor", sum := "8ad3ac77dd62cf853cbcc70b8c23d7ffa2d88ade2288b9f65fc97ca656b834c1", func := "loop.example/g00229/laws.FnExactTxnCut", spec := "fnExactTxnCut", inPlace := ["slices.overlaps[loop.example/g00229/impl.Change]", "internal/reflectlite.TypeOf", "internal/reflectlite.ValueOf", "(internal/reflectlite.Value).Type", "(internal/reflectlite.Value).IsNil", "(internal/reflectlite.Value).Elem", "(internal/reflectlite.Value).Set"], unfollowed := true, recurses := true, named := ["loop.example/g00229/impl.errMissing", "loop.example/g00229/impl.errNone", "errors.errorType"], ifaces := true, apart := false, laid := [("errors.errorType", laid_errors_errorType), ("loop.example/g00229/impl.errNone", laid_loop_example_g00229_impl_errNone), ("loop.example/g00229/impl.errMissing", laid_loop_example_g00229_impl_errMissing)], narrowed := true }
def FnExactTxnCutUptoSaid : Prop := fnExactTxnCutUptoRow.holds Tryz.pinned (OpenSpec.upto fnExactTxnCutSpec)

end Rows
end Go.Proofs.YtnajddjalagmoaaGreatDoor
