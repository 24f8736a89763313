/-
  NARROWER THAN 'FOR EVERY INPUT', by the rows' own cells (each row's printed sentence says how): FnTiles: laid · FnExactTileOk: laid · FnExactTileBox: laid · FnExactTileUp: laid · FnExactTileDown: laid · FnExactTileKey: laid · FnExactTileOf: laid.
  DERIVED. THE GIVEN ROWS OF THIS SEAT. 7 by the template 'for every input the law returns true; each argument reads behind the call as it read before'; 0 by the template 'total and deterministic' (their statements: YtncnppkpkemajaaDoorTotals.lean).
  GIVEN WITH THE SEED: the statements are not yours to turn. If you find one false, say at which input.
  Laid BY PROGRAM, IN A SANDBOX (cutbox-rows.mjs): the forced cells as the released guide's own fill.sh prints them over the translation 7967ef6fe9d0a945… (all of the seat's roots in one cut). By AI agents, Wed Nov 11 2026. No macro, syntax, notation, axiom, sorry.
-/
import Derived.Test.YtncnppkpkemajaaDoorChecked
import GoSem.Claim
import GoSem.ClaimJoined
import GoSem.ClaimMapViews
import Derived.JoinedTies
import Derived.KernelRfl
namespace Go.Proofs.YtncnppkpkemajaaDoor
/- THE CELL 'sum', in the pinned program and in every row, IS THE sha256 OF THE DUMP (.gsa) THAT YtncnppkpkemajaaDoorProg.lean LOADS. Nothing in Lean hashes anything: it is a label: what it is worth is what the hold of that sum in a sandbox is worth. -/
noncomputable def Tryd.pinned : Pinned := { name := "ytncnppkpkemajaadoor", sum := "7967ef6fe9d0a9452c55a47ff8ecee9de65d4d312939ddc5104d8c0585641913", checked := Tryd.checked }
namespace Rows
def none {H : Type} : Left H := { results := [], args := [] }

/- WHAT THE LISTED PACKAGE-LEVEL VARIABLES READ AS WHEN THE CALL BEGINS. Each datum BY PROGRAM (the guide's laid-datum.mjs) off the statement by which the dump's own 'gosem.cut.vars' lays the variable. In a bare row this is a premise. The card (YtncnppkpkemajaaDoorCards.lean) ties it to the program's text. -/
def laid_loop_example_g00229_impl_tileSides {H : Type} : DataW H := .agg [.lit (.int .i64 65536), .lit (.int .i64 32768), .lit (.int .i64 16384), .lit (.int .i64 8192), .lit (.int .i64 4096), .lit (.int .i64 2048), .lit (.int .i64 1024), .lit (.int .i64 512), .lit (.int .i64 256)]

/-- 'laws.FnTiles': WHATEVER THE INPUT: true; the input reads as it did. -/
def fnTilesSpec : ChangeSpec := { name := "fnTiles", vars := ["loop.example/g00229/impl.tileSides"], fn := fun _ => fun
  | [d, g1] => { results := [.lit (.bool true)], args := [d], vars := [g1] }
  | _ => none }
def fnTilesRow : OpenClaim := { program := "ytncnppkpkemajaadoor", sum := "7967ef6fe9d0a9452c55a47ff8ecee9de65d4d312939ddc5104d8c0585641913", func := "loop.example/g00229/laws.FnTiles", spec := "fnTiles", named := ["loop.example/g00229/impl.tileSides"], apart := false, laid := [("loop.example/g00229/impl.tileSides", laid_loop_example_g00229_impl_tileSides)] }
def FnTilesSaid : Prop := fnTilesRow.holds Tryd.pinned (OpenSpec.ofChange fnTilesSpec)

/-- ITS FALSE NEIGHBOUR: 'it returns false'. Refute it at one input. -/
def fnTilesWrong : ChangeSpec := { name := "fnTiles", vars := ["loop.example/g00229/impl.tileSides"], fn := fun _ => fun
  | [d, g1] => { results := [.lit (.bool false)], args := [d], vars := [g1] }
  | _ => none }
def FnTilesWrongFalsely : Prop := fnTilesRow.holds Tryd.pinned (OpenSpec.ofChange fnTilesWrong)

/-- 'laws.FnExactTileOk': WHATEVER THE INPUT: true; the input reads as it did. -/
def fnExactTileOkSpec : ChangeSpec := { name := "fnExactTileOk", vars := ["loop.example/g00229/impl.tileSides"], fn := fun _ => fun
  | [d, g1] => { results := [.lit (.bool true)], args := [d], vars := [g1] }
  | _ => none }
def fnExactTileOkRow : OpenClaim := { program := "ytncnppkpkemajaadoor", sum := "7967ef6fe9d0a9452c55a47ff8ecee9de65d4d312939ddc5104d8c0585641913", func := "loop.example/g00229/laws.FnExactTileOk", spec := "fnExactTileOk", named := ["loop.example/g00229/impl.tileSides"], apart := false, laid := [("loop.example/g00229/impl.tileSides", laid_loop_example_g00229_impl_tileSides)] }
def FnExactTileOkSaid : Prop := fnExactTileOkRow.holds Tryd.pinned (OpenSpec.ofChange fnExactTileOkSpec)

/-- ITS FALSE NEIGHBOUR: 'it returns false'. Refute it at one input. -/
def fnExactTileOkWrong : ChangeSpec := { name := "fnExactTileOk", vars := ["loop.example/g00229/impl.tileSides"], fn := fun _ => fun
  | [d, g1] => { results := [.lit (.bool false)], args := [d], vars := [g1] }
  | _ => none }
def FnExactTileOkWrongFalsely : Prop := fnExactTileOkRow.holds Tryd.pinned (OpenSpec.ofChange fnExactTileOkWrong)

/-- 'laws.FnExactTileBox': WHATEVER THE INPUT: true; the input reads as it did. -/
def fnExactTileBoxSpec : ChangeSpec := { name := "fnExactTileBox", vars := ["loop.example/g00229/impl.tileSides"], fn := fun _ => fun
  | [d, g1] => { results := [.lit (.bool true)], args := [d], vars := [g1] }
  | _ => none }
def fnExactTileBoxRow : OpenClaim := { program := "ytncnppkpkemajaadoor", sum := "7967ef6fe9d0a9452c55a47ff8ecee9de65d4d312939ddc5104d8c0585641913", func := "loop.example/g00229/laws.FnExactTileBox", spec := "fnExactTileBox", named := ["loop.example/g00229/impl.tileSides"], apart := false, laid := [("loop.example/g00229/impl.tileSides", laid_loop_example_g00229_impl_tileSides)] }
def FnExactTileBoxSaid : Prop := fnExactTileBoxRow.holds Tryd.pinned (OpenSpec.ofChange fnExactTileBoxSpec)

/-- ITS FALSE NEIGHBOUR: 'it returns false'. Refute it at one input. -/
def fnExactTileBoxWrong : ChangeSpec := { name := "fnExactTileBox", vars := ["loop.example/g00229/impl.tileSides"], fn := fun _ => fun
  | [d, g1] => { results := [.lit (.bool false)], args := [d], vars := [g1] }
  | _ => none }
def FnExactTileBoxWrongFalsely : Prop := fnExactTileBoxRow.holds Tryd.pinned (OpenSpec.ofChange fnExactTileBoxWrong)

/-- 'laws.FnExactTileUp': WHATEVER THE INPUT: true; the input reads as it did. -/
def fnExactTileUpSpec : ChangeSpec := { name := "fnExactTileUp", vars := ["loop.example/g00229/impl.tileSides"], fn := fun _ => fun
  | [d, g1] => { results := [.lit (.bool true)], args := [d], vars := [g1] }
  | _ => none }
def fnExactTileUpRow : OpenClaim := { program := "ytncnppkpkemajaadoor", sum := "7967ef6fe9d0a9452c55a47ff8ecee9de65d4d312939ddc5104d8c0585641913", func := "loop.example/g00229/laws.FnExactTileUp", spec := "fnExactTileUp", named := ["loop.example/g00229/impl.tileSides"], apart := false, laid := [("loop.example/g00229/impl.tileSides", laid_loop_example_g00229_impl_tileSides)] }
def FnExactTileUpSaid : Prop := fnExactTileUpRow.holds Tryd.pinned (OpenSpec.ofChange fnExactTileUpSpec)

/-- ITS FALSE NEIGHBOUR: 'it returns false'. Refute it at one input. -/
def fnExactTileUpWrong : ChangeSpec := { name := "fnExactTileUp", vars := ["loop.example/g00229/impl.tileSides"], fn := fun _ => fun
  | [d, g1] => { results := [.lit (.bool false)], args := [d], vars := [g1] }
  | _ => none }
def FnExactTileUpWrongFalsely : Prop := fnExactTileUpRow.holds Tryd.pinned (OpenSpec.ofChange fnExactTileUpWrong)

/-- 'laws.FnExactTileDown': WHATEVER THE INPUT: true; the input reads as it did. -/
def fnExactTileDownSpec : ChangeSpec := { name := "fnExactTileDown", vars := ["loop.example/g00229/impl.tileSides"], fn := fun _ => fun
  | [d, g1] => { results := [.lit (.bool true)], args := [d], vars := [g1] }
  | _ => none }
def fnExactTileDownRow : OpenClaim := { program := "ytncnppkpkemajaadoor", sum := "7967ef6fe9d0a9452c55a47ff8ecee9de65d4d312939ddc5104d8c0585641913", func := "loop.example/g00229/laws.FnExactTileDown", spec := "fnExactTileDown", named := ["loop.example/g00229/impl.tileSides"], apart := false, laid := [("loop.example/g00229/impl.tileSides", laid_loop_example_g00229_impl_tileSides)] }
def FnExactTileDownSaid : Prop := fnExactTileDownRow.holds Tryd.pinned (OpenSpec.ofChange fnExactTileDownSpec)

/-- ITS FALSE NEIGHBOUR: 'it returns false'. Refute it at one input. -/
def fnExactTileDownWrong : ChangeSpec := { name := "fnExactTileDown", vars := ["loop.example/g00229/impl.tileSides"], fn := fun _ => fun
  | [d, g1] => { results := [.lit (.bool false)], args := [d], vars := [g1] }
  | _ => none }
def FnExactTileDownWrongFalsely : Prop := fnExactTileDownRow.holds Tryd.pinned (OpenSpec.ofChange fnExactTileDownWrong)

/-- 'laws.FnExactTileKey': WHATEVER THE INPUT: true; the input reads as it did. -/
def fnExactTileKeySpec : ChangeSpec := { name := "fnExactTileKey", vars := ["loop.example/g00229/impl.tileSides"], fn := fun _ => fun
  | [d, g1] => { results := [.lit (.bool true)], args := [d], vars := [g1] }
  | _ => none }
def fnExactTileKeyRow : OpenClaim := { program := "ytncnppkpkemajaadoor", sum := "7967ef6fe9d0a9452c55a47ff8ecee9de65d4d312939ddc5104d8c0585641913", func := "loop.example/g00229/laws.FnExactTileKey", spec := "fnExactTileKey", named := ["loop.example/g00229/impl.tileSides"], apart := false, laid := [("loop.example/g00229/impl.tileSides", laid_loop_example_g00229_impl_tileSides)] }
def FnExactTileKeySaid : Prop := fnExactTileKeyRow.holds Tryd.pinned (OpenSpec.ofChange fnExactTileKeySpec)

/-- ITS FALSE NEIGHBOUR: 'it returns false'. Refute it at one input. -/
def fnExactTileKeyWrong : ChangeSpec := { name := "fnExactTileKey", vars := ["loop.example/g00229/impl.tileSides"], fn := fun _ => fun
  | [d, g1] => { results := [.lit (.bool false)], args := [d], vars := [g1] }
  | _ => none }
def FnExactTileKeyWrongFalsely : Prop := fnExactTileKeyRow.holds Tryd.pinned (OpenSpec.ofChange fnExactTileKeyWrong)

/-- 'laws.FnExactTileOf': WHATEVER THE INPUT: true; the input reads as it did. -/
def fnExactTileOfSpec : ChangeSpec := { name := "fnExactTileOf", vars := ["loop.example/g00229/impl.tileSides"], fn := fun _ => fun
  | [d1, d2, g1] => { results := [.lit (.bool true)], args := [d1, d2], vars := [g1] }
  | _ => none }
def fnExactTileOfRow : OpenClaim := { program := "ytncnppkpkemajaadoor", sum := "7967ef6fe9d0a9452c55a47ff8ecee9de65d4d312939ddc5104d8c0585641913", func := "loop.example/g00229/laws.FnExactTileOf", spec := "fnExactTileOf", named := ["loop.example/g00229/impl.tileSides"], apart := false, laid := [("loop.example/g00229/impl.tileSides", laid_loop_example_g00229_impl_tileSides)] }
def FnExactTileOfSaid : Prop := fnExactTileOfRow.holds Tryd.pinned (OpenSpec.ofChange fnExactTileOfSpec)

/-- ITS FALSE NEIGHBOUR: 'it returns false'. Refute it at one input. -/
def fnExactTileOfWrong : ChangeSpec := { name := "fnExactTileOf", vars := ["loop.example/g00229/impl.tileSides"], fn := fun _ => fun
  | [d1, d2, g1] => { results := [.lit (.bool false)], args := [d1, d2], vars := [g1] }
  | _ => none }
def FnExactTileOfWrongFalsely : Prop := fnExactTileOfRow.holds Tryd.pinned (OpenSpec.ofChange fnExactTileOfWrong)

/- THE SECOND FORM. 'bulk': how many values and letters a reading holds, each counted each time it is reached (what is shared counts as often as it is met; a slice's spare places count too). A statement '..UptoSaid' is the law's where the arguments, and the package variables that the reading takes, are together of bulk at most 1048576: NARROWER than '..Said'. Prove '..Said' where nothing that the law and all that it calls make is longer than what came in: it says more and counts as full. Else prove '..UptoSaid'. A law counts once. -/
mutual
def uptoBulk {H : Type} : DataW H → Nat
  | .lit (.string bytes) => bytes.length + 1
  | .lit _ => 1
  | .nil => 1
  | .ptr d => uptoBulk d + 1
  | .slice elems spare => uptoBulkAll elems + uptoBulkAll spare + 1
  | .agg parts => uptoBulkAll parts + 1
  | .iface _ d => uptoBulk d + 1
  | .map entries => uptoBulkEntries entries + 1
  | .held _ => 1
def uptoBulkAll {H : Type} : List (DataW H) → Nat
  | [] => 0
  | d :: r => uptoBulk d + uptoBulkAll r
def uptoBulkEntries {H : Type} : List (Lit × DataW H) → Nat
  | [] => 0
  | x :: r => uptoBulkEntry x + uptoBulkEntries r
def uptoBulkEntry {H : Type} : Lit × DataW H → Nat
  | (.string bytes, d) => bytes.length + uptoBulk d + 1
  | (_, d) => uptoBulk d + 1
 end
def uptoSmall : (H : Type) → List (DataW H) → Bool := fun _ ds => decide (uptoBulkAll ds ≤ 1048576)
def OpenSpec.upto (s : _root_.Go.ChangeSpec) : _root_.Go.OpenSpec := { _root_.Go.OpenSpec.ofChange s with cond := some uptoSmall }

/-- 'laws.FnTiles', WHERE WHAT IT READS IS OF BULK AT MOST 1048576: true; the input reads as it did. -/
def fnTilesUptoRow : OpenClaim := { program := "ytncnppkpkemajaadoor", sum := "7967ef6fe9d0a9452c55a47ff8ecee9de65d4d312939ddc5104d8c0585641913", func := "loop.example/g00229/laws.FnTiles", spec := "fnTiles", named := ["loop.example/g00229/impl.tileSides"], apart := false, laid := [("loop.example/g00229/impl.tileSides", laid_loop_example_g00229_impl_tileSides)], narrowed := true }
def FnTilesUptoSaid : Prop := fnTilesUptoRow.holds Tryd.pinned (OpenSpec.upto fnTilesSpec)

/-- 'laws.FnExactTileOk', WHERE WHAT IT READS IS OF BULK AT MOST 1048576: true; the input reads as it did. -/
def fnExactTileOkUptoRow : OpenClaim := { program := "ytncnppkpkemajaadoor", sum := "7967ef6fe9d0a9452c55a47ff8ecee9de65d4d312939ddc5104d8c0585641913", func := "loop.example/g00229/laws.FnExactTileOk", spec := "fnExactTileOk", named := ["loop.example/g00229/impl.tileSides"], apart := false, laid := [("loop.example/g00229/impl.tileSides", laid_loop_example_g00229_impl_tileSides)], narrowed := true }
def FnExactTileOkUptoSaid : Prop := fnExactTileOkUptoRow.holds Tryd.pinned (OpenSpec.upto fnExactTileOkSpec)

/-- 'laws.FnExactTileBox', WHERE WHAT IT READS IS OF BULK AT MOST 1048576: true; the input reads as it did. -/
def fnExactTileBoxUptoRow : OpenClaim := { program := "ytncnppkpkemajaadoor", sum := "7967ef6fe9d0a9452c55a47ff8ecee9de65d4d312939ddc5104d8c0585641913", func := "loop.example/g00229/laws.FnExactTileBox", spec := "fnExactTileBox", named := ["loop.example/g00229/impl.tileSides"], apart := false, laid := [("loop.example/g00229/impl.tileSides", laid_loop_example_g00229_impl_tileSides)], narrowed := true }
def FnExactTileBoxUptoSaid : Prop := fnExactTileBoxUptoRow.holds Tryd.pinned (OpenSpec.upto fnExactTileBoxSpec)

/-- 'laws.FnExactTileUp', WHERE WHAT IT READS IS OF BULK AT MOST 1048576: true; the input reads as it did. -/
def fnExactTileUpUptoRow : OpenClaim := { program := "ytncnppkpkemajaadoor", sum := "7967ef6fe9d0a9452c55a47ff8ecee9de65d4d312939ddc5104d8c0585641913", func := "loop.example/g00229/laws.FnExactTileUp", spec := "fnExactTileUp", named := ["loop.example/g00229/impl.tileSides"], apart := false, laid := [("loop.example/g00229/impl.tileSides", laid_loop_example_g00229_impl_tileSides)], narrowed := true }
def FnExactTileUpUptoSaid : Prop := fnExactTileUpUptoRow.holds Tryd.pinned (OpenSpec.upto fnExactTileUpSpec)

/-- 'laws.FnExactTileDown', WHERE WHAT IT READS IS OF BULK AT MOST 1048576: true; the input reads as it did. -/
def fnExactTileDownUptoRow : OpenClaim := { program := "ytncnppkpkemajaadoor", sum := "7967ef6fe9d0a9452c55a47ff8ecee9de65d4d312939ddc5104d8c0585641913", func := "loop.example/g00229/laws.FnExactTileDown", spec := "fnExactTileDown", named := ["loop.example/g00229/impl.tileSides"], apart := false, laid := [("loop.example/g00229/impl.tileSides", laid_loop_example_g00229_impl_tileSides)], narrowed := true }
def FnExactTileDownUptoSaid : Prop := fnExactTileDownUptoRow.holds Tryd.pinned (OpenSpec.upto fnExactTileDownSpec)

/-- 'laws.FnExactTileKey', WHERE WHAT IT READS IS OF BULK AT MOST 1048576: true; the input reads as it did. -/
def fnExactTileKeyUptoRow : OpenClaim := { program := "ytncnppkpkemajaadoor", sum := "7967ef6fe9d0a9452c55a47ff8ecee9de65d4d312939ddc5104d8c0585641913", func := "loop.example/g00229/laws.FnExactTileKey", spec := "fnExactTileKey", named := ["loop.example/g00229/impl.tileSides"], apart := false, laid := [("loop.example/g00229/impl.tileSides", laid_loop_example_g00229_impl_tileSides)], narrowed := true }
def FnExactTileKeyUptoSaid : Prop := fnExactTileKeyUptoRow.holds Tryd.pinned (OpenSpec.upto fnExactTileKeySpec)

/-- 'laws.FnExactTileOf', WHERE WHAT IT READS IS OF BULK AT MOST 1048576: true; the input reads as it did. -/
def fnExactTileOfUptoRow : OpenClaim := { program := "ytncnppkpkemajaadoor", sum := "7967ef6fe9d0a9452c55a47ff8ecee9de65d4d312939ddc5104d8c0585641913", func := "loop.example/g00229/laws.FnExactTileOf", spec := "fnExactTileOf", named := ["loop.example/g00229/impl.tileSides"], apart := false, laid := [("loop.example/g00229/impl.tileSides", laid_loop_example_g00229_impl_tileSides)], narrowed := true }
def FnExactTileOfUptoSaid : Prop := fnExactTileOfUptoRow.holds Tryd.pinned (OpenSpec.upto fnExactTileOfSpec)

end Rows
end Go.Proofs.YtncnppkpkemajaaDoor
