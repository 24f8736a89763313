/-
  No cell of these rows narrows 'for every input' (looked for: loops, veiled, ifaces, maps, wideKeys, modest, calm, conditions, laid).
  DERIVED. THE GIVEN ROWS OF THIS SEAT. 4 by the template 'for every input the law returns true; each argument reads behind the call as it read before'; 0 by the template 'total and deterministic' (their statements: YtodioejofoknpahTotals.lean).
  GIVEN WITH THE SEED: the statements are not yours to turn. If you find one false, say at which input.
  Laid BY PROGRAM, IN A SANDBOX (cutbox-rows.mjs): the forced cells as the released guide's own fill.sh prints them over the translation 69403f4e51fda6d7… (all of the seat's roots in one cut). By AI agents, Wed Nov 11 2026. No macro, syntax, notation, axiom, sorry.
-/
import Derived.Test.YtodioejofoknpahChecked
import GoSem.Claim
import GoSem.ClaimJoined
import GoSem.ClaimMapViews
import Derived.JoinedTies
import Derived.KernelRfl
namespace Go.Proofs.Ytodioejofoknpah
/- THE CELL 'sum', in the pinned program and in every row, IS THE sha256 OF THE DUMP (.gsa) THAT YtodioejofoknpahProg.lean LOADS. Nothing in Lean hashes anything: it is a label: what it is worth is what the hold of that sum in a sandbox is worth. -/
noncomputable def Try.pinned : Pinned := { name := "ytodioejofoknpah", sum := "69403f4e51fda6d78a220c5f986b71ee254cdbf00868d177a6986448e628b806", checked := Try.checked }
namespace Rows
def none {H : Type} : Left H := { results := [], args := [] }

/-- 'laws.FnExactPointOk': WHATEVER THE INPUT: true; the input reads as it did. -/
def fnExactPointOkSpec : ChangeSpec := { name := "fnExactPointOk", fn := fun _ => fun
  | [d] => { results := [.lit (.bool true)], args := [d] }
  | _ => none }
def fnExactPointOkRow : OpenClaim := { program := "ytodioejofoknpah", sum := "69403f4e51fda6d78a220c5f986b71ee254cdbf00868d177a6986448e628b806", func := "loop.example/g00229/laws.FnExactPointOk", spec := "fnExactPointOk", apart := false }
def FnExactPointOkSaid : Prop := fnExactPointOkRow.holds Try.pinned (OpenSpec.ofChange fnExactPointOkSpec)

/-- ITS FALSE NEIGHBOUR: 'it returns false'. Refute it at one input. -/
def fnExactPointOkWrong : ChangeSpec := { name := "fnExactPointOk", fn := fun _ => fun
  | [d] => { results := [.lit (.bool false)], args := [d] }
  | _ => none }
def FnExactPointOkWrongFalsely : Prop := fnExactPointOkRow.holds Try.pinned (OpenSpec.ofChange fnExactPointOkWrong)

/-- 'laws.FnExactBoxOk': WHATEVER THE INPUT: true; the input reads as it did. -/
def fnExactBoxOkSpec : ChangeSpec := { name := "fnExactBoxOk", fn := fun _ => fun
  | [d] => { results := [.lit (.bool true)], args := [d] }
  | _ => none }
def fnExactBoxOkRow : OpenClaim := { program := "ytodioejofoknpah", sum := "69403f4e51fda6d78a220c5f986b71ee254cdbf00868d177a6986448e628b806", func := "loop.example/g00229/laws.FnExactBoxOk", spec := "fnExactBoxOk", apart := false }
def FnExactBoxOkSaid : Prop := fnExactBoxOkRow.holds Try.pinned (OpenSpec.ofChange fnExactBoxOkSpec)

/-- ITS FALSE NEIGHBOUR: 'it returns false'. Refute it at one input. -/
def fnExactBoxOkWrong : ChangeSpec := { name := "fnExactBoxOk", fn := fun _ => fun
  | [d] => { results := [.lit (.bool false)], args := [d] }
  | _ => none }
def FnExactBoxOkWrongFalsely : Prop := fnExactBoxOkRow.holds Try.pinned (OpenSpec.ofChange fnExactBoxOkWrong)

/-- 'laws.FnExactBoxAround': WHATEVER THE INPUT: true; the input reads as it did. -/
def fnExactBoxAroundSpec : ChangeSpec := { name := "fnExactBoxAround", fn := fun _ => fun
  | [d] => { results := [.lit (.bool true)], args := [d] }
  | _ => none }
def fnExactBoxAroundRow : OpenClaim := { program := "ytodioejofoknpah", sum := "69403f4e51fda6d78a220c5f986b71ee254cdbf00868d177a6986448e628b806", func := "loop.example/g00229/laws.FnExactBoxAround", spec := "fnExactBoxAround", apart := false }
def FnExactBoxAroundSaid : Prop := fnExactBoxAroundRow.holds Try.pinned (OpenSpec.ofChange fnExactBoxAroundSpec)

/-- ITS FALSE NEIGHBOUR: 'it returns false'. Refute it at one input. -/
def fnExactBoxAroundWrong : ChangeSpec := { name := "fnExactBoxAround", fn := fun _ => fun
  | [d] => { results := [.lit (.bool false)], args := [d] }
  | _ => none }
def FnExactBoxAroundWrongFalsely : Prop := fnExactBoxAroundRow.holds Try.pinned (OpenSpec.ofChange fnExactBoxAroundWrong)

/-- 'laws.FnExactBoxMeets': WHATEVER THE INPUT: true; the input reads as it did. -/
def fnExactBoxMeetsSpec : ChangeSpec := { name := "fnExactBoxMeets", fn := fun _ => fun
  | [d1, d2] => { results := [.lit (.bool true)], args := [d1, d2] }
  | _ => none }
def fnExactBoxMeetsRow : OpenClaim := { program := "ytodioejofoknpah", sum := "69403f4e51fda6d78a220c5f986b71ee254cdbf00868d177a6986448e628b806", func := "loop.example/g00229/laws.FnExactBoxMeets", spec := "fnExactBoxMeets", apart := false }
def FnExactBoxMeetsSaid : Prop := fnExactBoxMeetsRow.holds Try.pinned (OpenSpec.ofChange fnExactBoxMeetsSpec)

/-- ITS FALSE NEIGHBOUR: 'it returns false'. Refute it at one input. -/
def fnExactBoxMeetsWrong : ChangeSpec := { name := "fnExactBoxMeets", fn := fun _ => fun
  | [d1, d2] => { results := [.lit (.bool false)], args := [d1, d2] }
  | _ => none }
def FnExactBoxMeetsWrongFalsely : Prop := fnExactBoxMeetsRow.holds Try.pinned (OpenSpec.ofChange fnExactBoxMeetsWrong)

/- THE SECOND FORM. 'bulk': how many values and letters a reading holds, each counted each time it is reached (what is shared counts as often as it is met; a slice's spare places count too). A statement '..UptoSaid' is the law's where the arguments, and the package variables that the reading takes, are together of bulk at most 1048576: NARROWER than '..Said'. Prove '..Said' where nothing that the law and all that it calls make is longer than what came in: it says more and counts as full. Else prove '..UptoSaid'. A law counts once. -/
mutual
def uptoBulk {H : Type} : DataW H → Nat
  | .lit (.string bytes) => bytes.length + 1
  | .lit _ => 1
  | .nil => 1
  | .ptr d => uptoBulk d + 1
  | .slice elems spare => uptoBulkAll elems + uptoBulkAll spare + 1
  | .agg parts => uptoBulkAll parts + 1
  | .iface _ d => uptoBulk d + 1
  | .map entries => uptoBulkEntries entries + 1
  | .held _ => 1
def uptoBulkAll {H : Type} : List (DataW H) → Nat
  | [] => 0
  | d :: r => uptoBulk d + uptoBulkAll r
def uptoBulkEntries {H : Type} : List (Lit × DataW H) → Nat
  | [] => 0
  | x :: r => uptoBulkEntry x + uptoBulkEntries r
def uptoBulkEntry {H : Type} : Lit × DataW H → Nat
  | (.string bytes, d) => bytes.length + uptoBulk d + 1
  | (_, d) => uptoBulk d + 1
 end
def uptoSmall : (H : Type) → List (DataW H) → Bool := fun _ ds => decide (uptoBulkAll ds ≤ 1048576)
def OpenSpec.upto (s : _root_.Go.ChangeSpec) : _root_.Go.OpenSpec := { _root_.Go.OpenSpec.ofChange s with cond := some uptoSmall }

/-- 'laws.FnExactPointOk', WHERE WHAT IT READS IS OF BULK AT MOST 1048576: true; the input reads as it did. -/
def fnExactPointOkUptoRow : OpenClaim := { program := "ytodioejofoknpah", sum := "69403f4e51fda6d78a220c5f986b71ee254cdbf00868d177a6986448e628b806", func := "loop.example/g00229/laws.FnExactPointOk", spec := "fnExactPointOk", apart := false, narrowed := true }
def FnExactPointOkUptoSaid : Prop := fnExactPointOkUptoRow.holds Try.pinned (OpenSpec.upto fnExactPointOkSpec)

/-- 'laws.FnExactBoxOk', WHERE WHAT IT READS IS OF BULK AT MOST 1048576: true; the input reads as it did. -/
def fnExactBoxOkUptoRow : OpenClaim := { program := "ytodioejofoknpah", sum := "69403f4e51fda6d78a220c5f986b71ee254cdbf00868d177a6986448e628b806", func := "loop.example/g00229/laws.FnExactBoxOk", spec := "fnExactBoxOk", apart := false, narrowed := true }
def FnExactBoxOkUptoSaid : Prop := fnExactBoxOkUptoRow.holds Try.pinned (OpenSpec.upto fnExactBoxOkSpec)

/-- 'laws.FnExactBoxAround', WHERE WHAT IT READS IS OF BULK AT MOST 1048576: true; the input reads as it did. -/
def fnExactBoxAroundUptoRow : OpenClaim := { program := "ytodioejofoknpah", sum := "69403f4e51fda6d78a220c5f986b71ee254cdbf00868d177a6986448e628b806", func := "loop.example/g00229/laws.FnExactBoxAround", spec := "fnExactBoxAround", apart := false, narrowed := true }
def FnExactBoxAroundUptoSaid : Prop := fnExactBoxAroundUptoRow.holds Try.pinned (OpenSpec.upto fnExactBoxAroundSpec)

/-- 'laws.FnExactBoxMeets', WHERE WHAT IT READS IS OF BULK AT MOST 1048576: true; the input reads as it did. -/
def fnExactBoxMeetsUptoRow : OpenClaim := { program := "ytodioejofoknpah", sum := "69403f4e51fda6d78a220c5f986b71ee254cdbf00868d177a6986448e628b806", func := "loop.example/g00229/laws.FnExactBoxMeets", spec := "fnExactBoxMeets", apart := false, narrowed := true }
def FnExactBoxMeetsUptoSaid : Prop := fnExactBoxMeetsUptoRow.holds Try.pinned (OpenSpec.upto fnExactBoxMeetsSpec)

end Rows
end Go.Proofs.Ytodioejofoknpah
