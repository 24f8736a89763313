/-
  No cell of these rows narrows 'for every input' (looked for: loops, veiled, ifaces, maps, wideKeys, modest, calm, conditions, laid).
  DERIVED. THE GIVEN ROWS OF THIS SEAT. 3 by the template 'for every input the law returns true; each argument reads behind the call as it read before'; 0 by the template 'total and deterministic' (their statements: YteecidnobplgeaaGreatTotals.lean).
  GIVEN WITH THE SEED: the statements are not yours to turn. If you find one false, say at which input.
  Laid BY PROGRAM, IN A SANDBOX (cutbox-rows.mjs): the forced cells as the released guide's own fill.sh prints them over the translation 2be8b5c141f0116c… (all of the seat's roots in one cut). By AI agents, Wed Nov 11 2026. No macro, syntax, notation, axiom, sorry.
-/
import Derived.Test.YteecidnobplgeaaGreatChecked
import GoSem.Claim
import GoSem.ClaimJoined
import GoSem.ClaimMapViews
import Derived.JoinedTies
import Derived.KernelRfl
namespace Go.Proofs.YteecidnobplgeaaGreat
/- THE CELL 'sum', in the pinned program and in every row, IS THE sha256 OF THE DUMP (.gsa) THAT YteecidnobplgeaaGreatProg.lean LOADS. Nothing in Lean hashes anything: it is a label: what it is worth is what the hold of that sum in a sandbox is worth. -/
noncomputable def Tryz.pinned : Pinned := { name := "yteecidnobplgeaagreat", sum := "2be8b5c141f0116c8dd275a0d290bec0799b075f68ea650372b31fc49060cb56", checked := Tryz.checked }
namespace Rows
def none {H : Type} : Left H := { results := [], args := [] }

/-- 'laws.FnExactTouched': WHATEVER THE INPUT: true; the input reads as it did. -/
def fnExactTouchedSpec : ChangeSpec := { name := "fnExactTouched", fn := fun _ => fun
  | [d1, d2, d3] => { results := [.lit (.bool true)], args := [d1, d2, d3] }
  | _ => none }
def fnExactTouchedRow : OpenClaim := { program := "yteecidnobplgeaagreat", sum := "2be8b5c141f0116c8dd275a0d290bec0799b075f68ea650372b31fc49060cb56", func := "loop.example/g00229/laws.FnExactTouched", spec := "fnExactTouched", unfollowed := true, recurses := true, apart := false }
def FnExactTouchedSaid : Prop := fnExactTouchedRow.holds Tryz.pinned (OpenSpec.ofChange fnExactTouchedSpec)

/-- ITS FALSE NEIGHBOUR: 'it returns false'. Refute it at one input. -/
def fnExactTouchedWrong : ChangeSpec := { name := "fnExactTouched", fn := fun _ => fun
  | [d1, d2, d3] => { results := [.lit (.bool false)], args := [d1, d2, d3] }
  | _ => none }
def FnExactTouchedWrongFalsely : Prop := fnExactTouchedRow.holds Tryz.pinned (OpenSpec.ofChange fnExactTouchedWrong)

/-- 'laws.FnExactRowAt': WHATEVER THE INPUT: true; the input reads as it did. -/
def fnExactRowAtSpec : ChangeSpec := { name := "fnExactRowAt", fn := fun _ => fun
  | [d1, d2, d3] => { results := [.lit (.bool true)], args := [d1, d2, d3] }
  | _ => none }
def fnExactRowAtRow : OpenClaim := { program := "yteecidnobplgeaagreat", sum := "2be8b5c141f0116c8dd275a0d290bec0799b075f68ea650372b31fc49060cb56", func := "loop.example/g00229/laws.FnExactRowAt", spec := "fnExactRowAt", unfollowed := true, recurses := true, apart := false }
def FnExactRowAtSaid : Prop := fnExactRowAtRow.holds Tryz.pinned (OpenSpec.ofChange fnExactRowAtSpec)

/-- ITS FALSE NEIGHBOUR: 'it returns false'. Refute it at one input. -/
def fnExactRowAtWrong : ChangeSpec := { name := "fnExactRowAt", fn := fun _ => fun
  | [d1, d2, d3] => { results := [.lit (.bool false)], args := [d1, d2, d3] }
  | _ => none }
def FnExactRowAtWrongFalsely : Prop := fnExactRowAtRow.holds Tryz.pinned (OpenSpec.ofChange fnExactRowAtWrong)

/-- 'laws.FnExactIdsAt': WHATEVER THE INPUT: true; the input reads as it did. -/
def fnExactIdsAtSpec : ChangeSpec := { name := "fnExactIdsAt", fn := fun _ => fun
  | [d1, d2] => { results := [.lit (.bool true)], args := [d1, d2] }
  | _ => none }
def fnExactIdsAtRow : OpenClaim := { program := "yteecidnobplgeaagreat", sum := "2be8b5c141f0116c8dd275a0d290bec0799b075f68ea650372b31fc49060cb56", func := "loop.example/g00229/laws.FnExactIdsAt", spec := "fnExactIdsAt", unfollowed := true, recurses := true, apart := false }
def FnExactIdsAtSaid : Prop := fnExactIdsAtRow.holds Tryz.pinned (OpenSpec.ofChange fnExactIdsAtSpec)

/-- ITS FALSE NEIGHBOUR: 'it returns false'. Refute it at one input. -/
def fnExactIdsAtWrong : ChangeSpec := { name := "fnExactIdsAt", fn := fun _ => fun
  | [d1, d2] => { results := [.lit (.bool false)], args := [d1, d2] }
  | _ => none }
def FnExactIdsAtWrongFalsely : Prop := fnExactIdsAtRow.holds Tryz.pinned (OpenSpec.ofChange fnExactIdsAtWrong)

/- THE SECOND FORM. 'bulk': how many values and letters a reading holds, each counted each time it is reached (what is shared counts as often as it is met; a slice's spare places count too). A statement '..UptoSaid' is the law's where the arguments, and the package variables that the reading takes, are together of bulk at most 1048576: NARROWER than '..Said'. Prove '..Said' where nothing that the law and all that it calls make is longer than what came in: it says more and counts as full. Else prove '..UptoSaid'. A law counts once. -/
mutual
def uptoBulk {H : Type} : DataW H → Nat
  | .lit (.string bytes) => bytes.length + 1
  | .lit _ => 1
  | .nil => 1
  | .ptr d => uptoBulk d + 1
  | .slice elems spare => uptoBulkAll elems + uptoBulkAll spare + 1
  | .agg parts => uptoBulkAll parts + 1
  | .iface _ d => uptoBulk d + 1
  | .map entries => uptoBulkEntries entries + 1
  | .held _ => 1
def uptoBulkAll {H : Type} : List (DataW H) → Nat
  | [] => 0
  | d :: r => uptoBulk d + uptoBulkAll r
def uptoBulkEntries {H : Type} : List (Lit × DataW H) → Nat
  | [] => 0
  | x :: r => uptoBulkEntry x + uptoBulkEntries r
def uptoBulkEntry {H : Type} : Lit × DataW H → Nat
  | (.string bytes, d) => bytes.length + uptoBulk d + 1
  | (_, d) => uptoBulk d + 1
 end
def uptoSmall : (H : Type) → List (DataW H) → Bool := fun _ ds => decide (uptoBulkAll ds ≤ 1048576)
def OpenSpec.upto (s : _root_.Go.ChangeSpec) : _root_.Go.OpenSpec := { _root_.Go.OpenSpec.ofChange s with cond := some uptoSmall }

/-- 'laws.FnExactTouched', WHERE WHAT IT READS IS OF BULK AT MOST 1048576: true; the input reads as it did. -/
def fnExactTouchedUptoRow : OpenClaim := { program := "yteecidnobplgeaagreat", sum := "2be8b5c141f0116c8dd275a0d290bec0799b075f68ea650372b31fc49060cb56", func := "loop.example/g00229/laws.FnExactTouched", spec := "fnExactTouched", unfollowed := true, recurses := true, apart := false, narrowed := true }
def FnExactTouchedUptoSaid : Prop := fnExactTouchedUptoRow.holds Tryz.pinned (OpenSpec.upto fnExactTouchedSpec)

/-- 'laws.FnExactRowAt', WHERE WHAT IT READS IS OF BULK AT MOST 1048576: true; the input reads as it did. -/
def fnExactRowAtUptoRow : OpenClaim := { program := "yteecidnobplgeaagreat", sum := "2be8b5c141f0116c8dd275a0d290bec0799b075f68ea650372b31fc49060cb56", func := "loop.example/g00229/laws.FnExactRowAt", spec := "fnExactRowAt", unfollowed := true, recurses := true, apart := false, narrowed := true }
def FnExactRowAtUptoSaid : Prop := fnExactRowAtUptoRow.holds Tryz.pinned (OpenSpec.upto fnExactRowAtSpec)

/-- 'laws.FnExactIdsAt', WHERE WHAT IT READS IS OF BULK AT MOST 1048576: true; the input reads as it did. -/
def fnExactIdsAtUptoRow : OpenClaim := { program := "yteecidnobplgeaagreat", sum := "2be8b5c141f0116c8dd275a0d290bec0799b075f68ea650372b31fc49060cb56", func := "loop.example/g00229/laws.FnExactIdsAt", spec := "fnExactIdsAt", unfollowed := true, recurses := true, apart := false, narrowed := true }
def FnExactIdsAtUptoSaid : Prop := fnExactIdsAtUptoRow.holds Tryz.pinned (OpenSpec.upto fnExactIdsAtSpec)

end Rows
end Go.Proofs.YteecidnobplgeaaGreat
