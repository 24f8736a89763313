/-
  No cell of these rows narrows 'for every input' (looked for: loops, veiled, ifaces, maps, wideKeys, modest, calm, conditions, laid).
  DERIVED. THE GIVEN ROWS OF THIS SEAT. 6 by the template 'for every input the law returns true; each argument reads behind the call as it read before'; 0 by the template 'total and deterministic' (their statements: YtodioejofoknpaiTotals.lean).
  GIVEN WITH THE SEED: the statements are not yours to turn. If you find one false, say at which input.
  Laid BY PROGRAM, IN A SANDBOX (cutbox-rows.mjs): the forced cells as the released guide's own fill.sh prints them over the translation 78a25e29a1c3bdad… (all of the seat's roots in one cut). By AI agents, Wed Nov 11 2026. No macro, syntax, notation, axiom, sorry.
-/
import Derived.Test.YtodioejofoknpaiChecked
import GoSem.Claim
import GoSem.ClaimJoined
import GoSem.ClaimMapViews
import Derived.JoinedTies
import Derived.KernelRfl
namespace Go.Proofs.Ytodioejofoknpai
/- THE CELL 'sum', in the pinned program and in every row, IS THE sha256 OF THE DUMP (.gsa) THAT YtodioejofoknpaiProg.lean LOADS. Nothing in Lean hashes anything: it is a label: what it is worth is what the hold of that sum in a sandbox is worth. -/
noncomputable def Try.pinned : Pinned := { name := "ytodioejofoknpai", sum := "78a25e29a1c3bdad9f06ece0ec0dcaf7e4f709d0f291051c72a5ca80389321ab", checked := Try.checked }
namespace Rows
def none {H : Type} : Left H := { results := [], args := [] }

/-- 'laws.FnExactBoxHas': WHATEVER THE INPUT: true; the input reads as it did. -/
def fnExactBoxHasSpec : ChangeSpec := { name := "fnExactBoxHas", fn := fun _ => fun
  | [d1, d2] => { results := [.lit (.bool true)], args := [d1, d2] }
  | _ => none }
def fnExactBoxHasRow : OpenClaim := { program := "ytodioejofoknpai", sum := "78a25e29a1c3bdad9f06ece0ec0dcaf7e4f709d0f291051c72a5ca80389321ab", func := "loop.example/g00229/laws.FnExactBoxHas", spec := "fnExactBoxHas", apart := false }
def FnExactBoxHasSaid : Prop := fnExactBoxHasRow.holds Try.pinned (OpenSpec.ofChange fnExactBoxHasSpec)

/-- ITS FALSE NEIGHBOUR: 'it returns false'. Refute it at one input. -/
def fnExactBoxHasWrong : ChangeSpec := { name := "fnExactBoxHas", fn := fun _ => fun
  | [d1, d2] => { results := [.lit (.bool false)], args := [d1, d2] }
  | _ => none }
def FnExactBoxHasWrongFalsely : Prop := fnExactBoxHasRow.holds Try.pinned (OpenSpec.ofChange fnExactBoxHasWrong)

/-- 'laws.FnExactBoxJoin': WHATEVER THE INPUT: true; the input reads as it did. -/
def fnExactBoxJoinSpec : ChangeSpec := { name := "fnExactBoxJoin", fn := fun _ => fun
  | [d1, d2] => { results := [.lit (.bool true)], args := [d1, d2] }
  | _ => none }
def fnExactBoxJoinRow : OpenClaim := { program := "ytodioejofoknpai", sum := "78a25e29a1c3bdad9f06ece0ec0dcaf7e4f709d0f291051c72a5ca80389321ab", func := "loop.example/g00229/laws.FnExactBoxJoin", spec := "fnExactBoxJoin", apart := false }
def FnExactBoxJoinSaid : Prop := fnExactBoxJoinRow.holds Try.pinned (OpenSpec.ofChange fnExactBoxJoinSpec)

/-- ITS FALSE NEIGHBOUR: 'it returns false'. Refute it at one input. -/
def fnExactBoxJoinWrong : ChangeSpec := { name := "fnExactBoxJoin", fn := fun _ => fun
  | [d1, d2] => { results := [.lit (.bool false)], args := [d1, d2] }
  | _ => none }
def FnExactBoxJoinWrongFalsely : Prop := fnExactBoxJoinRow.holds Try.pinned (OpenSpec.ofChange fnExactBoxJoinWrong)

/-- 'laws.FnExactBoxArea': WHATEVER THE INPUT: true; the input reads as it did. -/
def fnExactBoxAreaSpec : ChangeSpec := { name := "fnExactBoxArea", fn := fun _ => fun
  | [d] => { results := [.lit (.bool true)], args := [d] }
  | _ => none }
def fnExactBoxAreaRow : OpenClaim := { program := "ytodioejofoknpai", sum := "78a25e29a1c3bdad9f06ece0ec0dcaf7e4f709d0f291051c72a5ca80389321ab", func := "loop.example/g00229/laws.FnExactBoxArea", spec := "fnExactBoxArea", apart := false }
def FnExactBoxAreaSaid : Prop := fnExactBoxAreaRow.holds Try.pinned (OpenSpec.ofChange fnExactBoxAreaSpec)

/-- ITS FALSE NEIGHBOUR: 'it returns false'. Refute it at one input. -/
def fnExactBoxAreaWrong : ChangeSpec := { name := "fnExactBoxArea", fn := fun _ => fun
  | [d] => { results := [.lit (.bool false)], args := [d] }
  | _ => none }
def FnExactBoxAreaWrongFalsely : Prop := fnExactBoxAreaRow.holds Try.pinned (OpenSpec.ofChange fnExactBoxAreaWrong)

/-- 'laws.FnExactTurn': WHATEVER THE INPUT: true; the input reads as it did. -/
def fnExactTurnSpec : ChangeSpec := { name := "fnExactTurn", fn := fun _ => fun
  | [d1, d2, d3] => { results := [.lit (.bool true)], args := [d1, d2, d3] }
  | _ => none }
def fnExactTurnRow : OpenClaim := { program := "ytodioejofoknpai", sum := "78a25e29a1c3bdad9f06ece0ec0dcaf7e4f709d0f291051c72a5ca80389321ab", func := "loop.example/g00229/laws.FnExactTurn", spec := "fnExactTurn", apart := false }
def FnExactTurnSaid : Prop := fnExactTurnRow.holds Try.pinned (OpenSpec.ofChange fnExactTurnSpec)

/-- ITS FALSE NEIGHBOUR: 'it returns false'. Refute it at one input. -/
def fnExactTurnWrong : ChangeSpec := { name := "fnExactTurn", fn := fun _ => fun
  | [d1, d2, d3] => { results := [.lit (.bool false)], args := [d1, d2, d3] }
  | _ => none }
def FnExactTurnWrongFalsely : Prop := fnExactTurnRow.holds Try.pinned (OpenSpec.ofChange fnExactTurnWrong)

/-- 'laws.FnExactOnSide': WHATEVER THE INPUT: true; the input reads as it did. -/
def fnExactOnSideSpec : ChangeSpec := { name := "fnExactOnSide", fn := fun _ => fun
  | [d1, d2, d3] => { results := [.lit (.bool true)], args := [d1, d2, d3] }
  | _ => none }
def fnExactOnSideRow : OpenClaim := { program := "ytodioejofoknpai", sum := "78a25e29a1c3bdad9f06ece0ec0dcaf7e4f709d0f291051c72a5ca80389321ab", func := "loop.example/g00229/laws.FnExactOnSide", spec := "fnExactOnSide", apart := false }
def FnExactOnSideSaid : Prop := fnExactOnSideRow.holds Try.pinned (OpenSpec.ofChange fnExactOnSideSpec)

/-- ITS FALSE NEIGHBOUR: 'it returns false'. Refute it at one input. -/
def fnExactOnSideWrong : ChangeSpec := { name := "fnExactOnSide", fn := fun _ => fun
  | [d1, d2, d3] => { results := [.lit (.bool false)], args := [d1, d2, d3] }
  | _ => none }
def FnExactOnSideWrongFalsely : Prop := fnExactOnSideRow.holds Try.pinned (OpenSpec.ofChange fnExactOnSideWrong)

/-- 'laws.FnExactSidesMeet': WHATEVER THE INPUT: true; the input reads as it did. -/
def fnExactSidesMeetSpec : ChangeSpec := { name := "fnExactSidesMeet", fn := fun _ => fun
  | [d1, d2, d3, d4] => { results := [.lit (.bool true)], args := [d1, d2, d3, d4] }
  | _ => none }
def fnExactSidesMeetRow : OpenClaim := { program := "ytodioejofoknpai", sum := "78a25e29a1c3bdad9f06ece0ec0dcaf7e4f709d0f291051c72a5ca80389321ab", func := "loop.example/g00229/laws.FnExactSidesMeet", spec := "fnExactSidesMeet", apart := false }
def FnExactSidesMeetSaid : Prop := fnExactSidesMeetRow.holds Try.pinned (OpenSpec.ofChange fnExactSidesMeetSpec)

/-- ITS FALSE NEIGHBOUR: 'it returns false'. Refute it at one input. -/
def fnExactSidesMeetWrong : ChangeSpec := { name := "fnExactSidesMeet", fn := fun _ => fun
  | [d1, d2, d3, d4] => { results := [.lit (.bool false)], args := [d1, d2, d3, d4] }
  | _ => none }
def FnExactSidesMeetWrongFalsely : Prop := fnExactSidesMeetRow.holds Try.pinned (OpenSpec.ofChange fnExactSidesMeetWrong)

/- THE SECOND FORM. 'bulk': how many values and letters a reading holds, each counted each time it is reached (what is shared counts as often as it is met; a slice's spare places count too). A statement '..UptoSaid' is the law's where the arguments, and the package variables that the reading takes, are together of bulk at most 1048576: NARROWER than '..Said'. Prove '..Said' where nothing that the law and all that it calls make is longer than what came in: it says more and counts as full. Else prove '..UptoSaid'. A law counts once. -/
mutual
def uptoBulk {H : Type} : DataW H → Nat
  | .lit (.string bytes) => bytes.length + 1
  | .lit _ => 1
  | .nil => 1
  | .ptr d => uptoBulk d + 1
  | .slice elems spare => uptoBulkAll elems + uptoBulkAll spare + 1
  | .agg parts => uptoBulkAll parts + 1
  | .iface _ d => uptoBulk d + 1
  | .map entries => uptoBulkEntries entries + 1
  | .held _ => 1
def uptoBulkAll {H : Type} : List (DataW H) → Nat
  | [] => 0
  | d :: r => uptoBulk d + uptoBulkAll r
def uptoBulkEntries {H : Type} : List (Lit × DataW H) → Nat
  | [] => 0
  | x :: r => uptoBulkEntry x + uptoBulkEntries r
def uptoBulkEntry {H : Type} : Lit × DataW H → Nat
  | (.string bytes, d) => bytes.length + uptoBulk d + 1
  | (_, d) => uptoBulk d + 1
 end
def uptoSmall : (H : Type) → List (DataW H) → Bool := fun _ ds => decide (uptoBulkAll ds ≤ 1048576)
def OpenSpec.upto (s : _root_.Go.ChangeSpec) : _root_.Go.OpenSpec := { _root_.Go.OpenSpec.ofChange s with cond := some uptoSmall }

/-- 'laws.FnExactBoxHas', WHERE WHAT IT READS IS OF BULK AT MOST 1048576: true; the input reads as it did. -/
def fnExactBoxHasUptoRow : OpenClaim := { program := "ytodioejofoknpai", sum := "78a25e29a1c3bdad9f06ece0ec0dcaf7e4f709d0f291051c72a5ca80389321ab", func := "loop.example/g00229/laws.FnExactBoxHas", spec := "fnExactBoxHas", apart := false, narrowed := true }
def FnExactBoxHasUptoSaid : Prop := fnExactBoxHasUptoRow.holds Try.pinned (OpenSpec.upto fnExactBoxHasSpec)

/-- 'laws.FnExactBoxJoin', WHERE WHAT IT READS IS OF BULK AT MOST 1048576: true; the input reads as it did. -/
def fnExactBoxJoinUptoRow : OpenClaim := { program := "ytodioejofoknpai", sum := "78a25e29a1c3bdad9f06ece0ec0dcaf7e4f709d0f291051c72a5ca80389321ab", func := "loop.example/g00229/laws.FnExactBoxJoin", spec := "fnExactBoxJoin", apart := false, narrowed := true }
def FnExactBoxJoinUptoSaid : Prop := fnExactBoxJoinUptoRow.holds Try.pinned (OpenSpec.upto fnExactBoxJoinSpec)

/-- 'laws.FnExactBoxArea', WHERE WHAT IT READS IS OF BULK AT MOST 1048576: true; the input reads as it did. -/
def fnExactBoxAreaUptoRow : OpenClaim := { program := "ytodioejofoknpai", sum := "78a25e29a1c3bdad9f06ece0ec0dcaf7e4f709d0f291051c72a5ca80389321ab", func := "loop.example/g00229/laws.FnExactBoxArea", spec := "fnExactBoxArea", apart := false, narrowed := true }
def FnExactBoxAreaUptoSaid : Prop := fnExactBoxAreaUptoRow.holds Try.pinned (OpenSpec.upto fnExactBoxAreaSpec)

/-- 'laws.FnExactTurn', WHERE WHAT IT READS IS OF BULK AT MOST 1048576: true; the input reads as it did. -/
def fnExactTurnUptoRow : OpenClaim := { program := "ytodioejofoknpai", sum := "78a25e29a1c3bdad9f06ece0ec0dcaf7e4f709d0f291051c72a5ca80389321ab", func := "loop.example/g00229/laws.FnExactTurn", spec := "fnExactTurn", apart := false, narrowed := true }
def FnExactTurnUptoSaid : Prop := fnExactTurnUptoRow.holds Try.pinned (OpenSpec.upto fnExactTurnSpec)

/-- 'laws.FnExactOnSide', WHERE WHAT IT READS IS OF BULK AT MOST 1048576: true; the input reads as it did. -/
def fnExactOnSideUptoRow : OpenClaim := { program := "ytodioejofoknpai", sum := "78a25e29a1c3bdad9f06ece0ec0dcaf7e4f709d0f291051c72a5ca80389321ab", func := "loop.example/g00229/laws.FnExactOnSide", spec := "fnExactOnSide", apart := false, narrowed := true }
def FnExactOnSideUptoSaid : Prop := fnExactOnSideUptoRow.holds Try.pinned (OpenSpec.upto fnExactOnSideSpec)

/-- 'laws.FnExactSidesMeet', WHERE WHAT IT READS IS OF BULK AT MOST 1048576: true; the input reads as it did. -/
def fnExactSidesMeetUptoRow : OpenClaim := { program := "ytodioejofoknpai", sum := "78a25e29a1c3bdad9f06ece0ec0dcaf7e4f709d0f291051c72a5ca80389321ab", func := "loop.example/g00229/laws.FnExactSidesMeet", spec := "fnExactSidesMeet", apart := false, narrowed := true }
def FnExactSidesMeetUptoSaid : Prop := fnExactSidesMeetUptoRow.holds Try.pinned (OpenSpec.upto fnExactSidesMeetSpec)

end Rows
end Go.Proofs.Ytodioejofoknpai
