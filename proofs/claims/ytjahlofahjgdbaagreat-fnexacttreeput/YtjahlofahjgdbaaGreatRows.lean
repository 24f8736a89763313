/-
  NARROWER THAN 'FOR EVERY INPUT', by the rows' own cells (each row's printed sentence says how): FnExactTreePut: loops · FnExactTreeCut: loops.
  DERIVED. THE GIVEN ROWS OF THIS SEAT. 4 by the template 'for every input the law returns true; each argument reads behind the call as it read before'; 0 by the template 'total and deterministic' (their statements: YtjahlofahjgdbaaGreatTotals.lean).
  GIVEN WITH THE SEED: the statements are not yours to turn. If you find one false, say at which input.
  Laid BY PROGRAM, IN A SANDBOX (cutbox-rows.mjs): the forced cells as the released guide's own fill.sh prints them over the translation bf2af810ede96729… (all of the seat's roots in one cut). By AI agents, Wed Nov 11 2026. No macro, syntax, notation, axiom, sorry.
-/
import Derived.Test.YtjahlofahjgdbaaGreatChecked
import GoSem.Claim
import GoSem.ClaimJoined
import GoSem.ClaimMapViews
import Derived.JoinedTies
import Derived.KernelRfl
namespace Go.Proofs.YtjahlofahjgdbaaGreat
/- THE CELL 'sum', in the pinned program and in every row, IS THE sha256 OF THE DUMP (.gsa) THAT YtjahlofahjgdbaaGreatProg.lean LOADS. Nothing in Lean hashes anything: it is a label: what it is worth is what the hold of that sum in a sandbox is worth. -/
noncomputable def Tryz.pinned : Pinned := { name := "ytjahlofahjgdbaagreat", sum := "bf2af810ede967293dbff79ee543cbb9faf2aeb25bea53e9de1552993a777b7d", checked := Tryz.checked }
namespace Rows
def none {H : Type} : Left H := { results := [], args := [] }

/-- 'laws.FnExactTreePut': WHATEVER THE INPUT: true; the input reads as it did. -/
def fnExactTreePutSpec : ChangeSpec := { name := "fnExactTreePut", fn := fun _ => fun
  | [d1, d2] => { results := [.lit (.bool true)], args := [d1, d2] }
  | _ => none }
def fnExactTreePutRow : OpenClaim := { program := "ytjahlofahjgdbaagreat", sum := "bf2af810ede967293dbff79ee543cbb9faf2aeb25bea53e9de1552993a777b7d", func := "loop.example/g00229/laws.FnExactTreePut", spec := "fnExactTreePut", inPlace := ["slices.overlaps[loop.example/g00229/impl.Knot]"], unfollowed := true, recurses := true, loops := true, apart := false }
def FnExactTreePutSaid : Prop := fnExactTreePutRow.holds Tryz.pinned (OpenSpec.ofChange fnExactTreePutSpec)

/-- ITS FALSE NEIGHBOUR: 'it returns false'. Refute it at one input. -/
def fnExactTreePutWrong : ChangeSpec := { name := "fnExactTreePut", fn := fun _ => fun
  | [d1, d2] => { results := [.lit (.bool false)], args := [d1, d2] }
  | _ => none }
def FnExactTreePutWrongFalsely : Prop := fnExactTreePutRow.holds Tryz.pinned (OpenSpec.ofChange fnExactTreePutWrong)

/-- 'laws.FnExactTreeCut': WHATEVER THE INPUT: true; the input reads as it did. -/
def fnExactTreeCutSpec : ChangeSpec := { name := "fnExactTreeCut", fn := fun _ => fun
  | [d1, d2] => { results := [.lit (.bool true)], args := [d1, d2] }
  | _ => none }
def fnExactTreeCutRow : OpenClaim := { program := "ytjahlofahjgdbaagreat", sum := "bf2af810ede967293dbff79ee543cbb9faf2aeb25bea53e9de1552993a777b7d", func := "loop.example/g00229/laws.FnExactTreeCut", spec := "fnExactTreeCut", inPlace := ["slices.overlaps[loop.example/g00229/impl.Knot]"], unfollowed := true, recurses := true, loops := true, apart := false }
def FnExactTreeCutSaid : Prop := fnExactTreeCutRow.holds Tryz.pinned (OpenSpec.ofChange fnExactTreeCutSpec)

/-- ITS FALSE NEIGHBOUR: 'it returns false'. Refute it at one input. -/
def fnExactTreeCutWrong : ChangeSpec := { name := "fnExactTreeCut", fn := fun _ => fun
  | [d1, d2] => { results := [.lit (.bool false)], args := [d1, d2] }
  | _ => none }
def FnExactTreeCutWrongFalsely : Prop := fnExactTreeCutRow.holds Tryz.pinned (OpenSpec.ofChange fnExactTreeCutWrong)

/-- 'laws.FnTree': WHATEVER THE INPUT: true; the input reads as it did. -/
def fnTreeSpec : ChangeSpec := { name := "fnTree", fn := fun _ => fun
  | [d] => { results := [.lit (.bool true)], args := [d] }
  | _ => none }
def fnTreeRow : OpenClaim := { program := "ytjahlofahjgdbaagreat", sum := "bf2af810ede967293dbff79ee543cbb9faf2aeb25bea53e9de1552993a777b7d", func := "loop.example/g00229/laws.FnTree", spec := "fnTree", inPlace := ["slices.overlaps[loop.example/g00229/impl.Knot]"], unfollowed := true, recurses := true, apart := false }
def FnTreeSaid : Prop := fnTreeRow.holds Tryz.pinned (OpenSpec.ofChange fnTreeSpec)

/-- ITS FALSE NEIGHBOUR: 'it returns false'. Refute it at one input. -/
def fnTreeWrong : ChangeSpec := { name := "fnTree", fn := fun _ => fun
  | [d] => { results := [.lit (.bool false)], args := [d] }
  | _ => none }
def FnTreeWrongFalsely : Prop := fnTreeRow.holds Tryz.pinned (OpenSpec.ofChange fnTreeWrong)

/-- 'laws.FnFound': WHATEVER THE INPUT: true; the input reads as it did. -/
def fnFoundSpec : ChangeSpec := { name := "fnFound", fn := fun _ => fun
  | [d] => { results := [.lit (.bool true)], args := [d] }
  | _ => none }
def fnFoundRow : OpenClaim := { program := "ytjahlofahjgdbaagreat", sum := "bf2af810ede967293dbff79ee543cbb9faf2aeb25bea53e9de1552993a777b7d", func := "loop.example/g00229/laws.FnFound", spec := "fnFound", inPlace := ["slices.overlaps[loop.example/g00229/impl.Knot]"], unfollowed := true, recurses := true, apart := false }
def FnFoundSaid : Prop := fnFoundRow.holds Tryz.pinned (OpenSpec.ofChange fnFoundSpec)

/-- ITS FALSE NEIGHBOUR: 'it returns false'. Refute it at one input. -/
def fnFoundWrong : ChangeSpec := { name := "fnFound", fn := fun _ => fun
  | [d] => { results := [.lit (.bool false)], args := [d] }
  | _ => none }
def FnFoundWrongFalsely : Prop := fnFoundRow.holds Tryz.pinned (OpenSpec.ofChange fnFoundWrong)

/- THE SECOND FORM. 'bulk': how many values and letters a reading holds, each counted each time it is reached (what is shared counts as often as it is met; a slice's spare places count too). A statement '..UptoSaid' is the law's where the arguments, and the package variables that the reading takes, are together of bulk at most 1048576: NARROWER than '..Said'. Prove '..Said' where nothing that the law and all that it calls make is longer than what came in: it says more and counts as full. Else prove '..UptoSaid'. A law counts once. -/
mutual
def uptoBulk {H : Type} : DataW H → Nat
  | .lit (.string bytes) => bytes.length + 1
  | .lit _ => 1
  | .nil => 1
  | .ptr d => uptoBulk d + 1
  | .slice elems spare => uptoBulkAll elems + uptoBulkAll spare + 1
  | .agg parts => uptoBulkAll parts + 1
  | .iface _ d => uptoBulk d + 1
  | .map entries => uptoBulkEntries entries + 1
  | .held _ => 1
def uptoBulkAll {H : Type} : List (DataW H) → Nat
  | [] => 0
  | d :: r => uptoBulk d + uptoBulkAll r
def uptoBulkEntries {H : Type} : List (Lit × DataW H) → Nat
  | [] => 0
  | x :: r => uptoBulkEntry x + uptoBulkEntries r
def uptoBulkEntry {H : Type} : Lit × DataW H → Nat
  | (.string bytes, d) => bytes.length + uptoBulk d + 1
  | (_, d) => uptoBulk d + 1
 end
def uptoSmall : (H : Type) → List (DataW H) → Bool := fun _ ds => decide (uptoBulkAll ds ≤ 1048576)
def OpenSpec.upto (s : _root_.Go.ChangeSpec) : _root_.Go.OpenSpec := { _root_.Go.OpenSpec.ofChange s with cond := some uptoSmall }

/-- 'laws.FnExactTreePut', WHERE WHAT IT READS IS OF BULK AT MOST 1048576: true; the input reads as it did. -/
def fnExactTreePutUptoRow : OpenClaim := { program := "ytjahlofahjgdbaagreat", sum := "bf2af810ede967293dbff79ee543cbb9faf2aeb25bea53e9de1552993a777b7d", func := "loop.example/g00229/laws.FnExactTreePut", spec := "fnExactTreePut", inPlace := ["slices.overlaps[loop.example/g00229/impl.Knot]"], unfollowed := true, recurses := true, loops := true, apart := false, narrowed := true }
def FnExactTreePutUptoSaid : Prop := fnExactTreePutUptoRow.holds Tryz.pinned (OpenSpec.upto fnExactTreePutSpec)

/-- 'laws.FnExactTreeCut', WHERE WHAT IT READS IS OF BULK AT MOST 1048576: true; the input reads as it did. -/
def fnExactTreeCutUptoRow : OpenClaim := { program := "ytjahlofahjgdbaagreat", sum := "bf2af810ede967293dbff79ee543cbb9faf2aeb25bea53e9de1552993a777b7d", func := "loop.example/g00229/laws.FnExactTreeCut", spec := "fnExactTreeCut", inPlace := ["slices.overlaps[loop.example/g00229/impl.Knot]"], unfollowed := true, recurses := true, loops := true, apart := false, narrowed := true }
def FnExactTreeCutUptoSaid : Prop := fnExactTreeCutUptoRow.holds Tryz.pinned (OpenSpec.upto fnExactTreeCutSpec)

/-- 'laws.FnTree', WHERE WHAT IT READS IS OF BULK AT MOST 1048576: true; the input reads as it did. -/
def fnTreeUptoRow : OpenClaim := { program := "ytjahlofahjgdbaagreat", sum := "bf2af810ede967293dbff79ee543cbb9faf2aeb25bea53e9de1552993a777b7d", func := "loop.example/g00229/laws.FnTree", spec := "fnTree", inPlace := ["slices.overlaps[loop.example/g00229/impl.Knot]"], unfollowed := true, recurses := true, apart := false, narrowed := true }
def FnTreeUptoSaid : Prop := fnTreeUptoRow.holds Tryz.pinned (OpenSpec.upto fnTreeSpec)

/-- 'laws.FnFound', WHERE WHAT IT READS IS OF BULK AT MOST 1048576: true; the input reads as it did. -/
def fnFoundUptoRow : OpenClaim := { program := "ytjahlofahjgdbaagreat", sum := "bf2af810ede967293dbff79ee543cbb9faf2aeb25bea53e9de1552993a777b7d", func := "loop.example/g00229/laws.FnFound", spec := "fnFound", inPlace := ["slices.overlaps[loop.example/g00229/impl.Knot]"], unfollowed := true, recurses := true, apart := false, narrowed := true }
def FnFoundUptoSaid : Prop := fnFoundUptoRow.holds Tryz.pinned (OpenSpec.upto fnFoundSpec)

end Rows
end Go.Proofs.YtjahlofahjgdbaaGreat
