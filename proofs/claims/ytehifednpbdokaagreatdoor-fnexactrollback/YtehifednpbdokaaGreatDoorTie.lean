/-
  DERIVED. GIVEN WITH THE SEED: THE PROGRAM's TIES (one call each: nine closed facts by the kernel) AND EACH ROW's TIE, after the 31st guide's Derived/Test/Toyas{Tie, Card}.lean. No idea stands in it: it is a product of the set-up. Laid BY PROGRAM, IN A SANDBOX (cutbox-door.mjs). By AI agents, Wed Nov 11 2026. No macro, syntax, notation, axiom, sorry.
-/
import Derived.Test.YtehifednpbdokaaGreatDoorRows
import Derived.LaidByTextLater
import Derived.SevenTiedAt
import Derived.LaidSub
import Derived.LaidOnce
namespace Go.Proofs.YtehifednpbdokaaGreatDoor
open Go
set_option maxRecDepth 100000
theorem seatTie1 : Tryz.prog.laidByTextLater [("errors.errorType", Rows.laid_errors_errorType), ("loop.example/g00229/impl.errNone", Rows.laid_loop_example_g00229_impl_errNone), ("loop.example/g00229/impl.errBad", Rows.laid_loop_example_g00229_impl_errBad), ("loop.example/g00229/impl.errMissing", Rows.laid_loop_example_g00229_impl_errMissing)] [.handle, .sentinel, .sentinel, .sentinel] true :=
  Program.laidByTextLater_by_one 73 8 2 (by kernel_rfl) (by kernel_rfl) (by kernel_rfl) (by kernel_rfl) (by kernel_rfl) (by kernel_rfl) (fun _ _ => by kernel_rfl)
theorem noOwnUnsafe : Tryz.pinned.checked.prog.headLifts.contains "ownunsafe" = false := by kernel_rfl
theorem tie : Tryz.prog.laidByTextLater [("loop.example/g00229/impl.errNone", Rows.laid_loop_example_g00229_impl_errNone)] [.sentinel] true :=
  Program.laidByTextLater.sub seatTie1 ["loop.example/g00229/impl.errNone"] (by kernel_rfl) (by kernel_rfl)
theorem fnExactTxnGet_row_tie : Rows.fnExactTxnGetRow.laidByTextAt .later Tryz.pinned [.sentinel] true :=
  OpenClaim.laidByTextAt_later rfl rfl tie noOwnUnsafe
theorem fnExactTxnIds_row_tie : Rows.fnExactTxnIdsRow.laidByTextAt .later Tryz.pinned [.sentinel] true :=
  OpenClaim.laidByTextAt_later rfl rfl tie noOwnUnsafe
theorem tie2 : Tryz.prog.laidByTextLater [("errors.errorType", Rows.laid_errors_errorType), ("loop.example/g00229/impl.errNone", Rows.laid_loop_example_g00229_impl_errNone), ("loop.example/g00229/impl.errBad", Rows.laid_loop_example_g00229_impl_errBad)] [.handle, .sentinel, .sentinel] true :=
  Program.laidByTextLater.sub seatTie1 ["errors.errorType", "loop.example/g00229/impl.errNone", "loop.example/g00229/impl.errBad"] (by kernel_rfl) (by kernel_rfl)
theorem fnExactTxnPut_row_tie : Rows.fnExactTxnPutRow.laidByTextAt .later Tryz.pinned [.handle, .sentinel, .sentinel] true :=
  OpenClaim.laidByTextAt_later rfl rfl tie2 noOwnUnsafe
theorem tie3 : Tryz.prog.laidByTextLater [("errors.errorType", Rows.laid_errors_errorType), ("loop.example/g00229/impl.errNone", Rows.laid_loop_example_g00229_impl_errNone), ("loop.example/g00229/impl.errMissing", Rows.laid_loop_example_g00229_impl_errMissing)] [.handle, .sentinel, .sentinel] true :=
  Program.laidByTextLater.sub seatTie1 ["errors.errorType", "loop.example/g00229/impl.errNone", "loop.example/g00229/impl.errMissing"] (by kernel_rfl) (by kernel_rfl)
theorem fnExactTxnCut_row_tie : Rows.fnExactTxnCutRow.laidByTextAt .later Tryz.pinned [.handle, .sentinel, .sentinel] true :=
  OpenClaim.laidByTextAt_later rfl rfl tie3 noOwnUnsafe
theorem tie4 : Tryz.prog.laidByTextLater [("errors.errorType", Rows.laid_errors_errorType), ("loop.example/g00229/impl.errNone", Rows.laid_loop_example_g00229_impl_errNone)] [.handle, .sentinel] true :=
  Program.laidByTextLater.sub seatTie1 ["errors.errorType", "loop.example/g00229/impl.errNone"] (by kernel_rfl) (by kernel_rfl)
theorem fnExactRollback_row_tie : Rows.fnExactRollbackRow.laidByTextAt .later Tryz.pinned [.handle, .sentinel] true :=
  OpenClaim.laidByTextAt_later rfl rfl tie4 noOwnUnsafe
theorem fnExactTxnGetUpto_row_tie : Rows.fnExactTxnGetUptoRow.laidByTextAt .later Tryz.pinned [.sentinel] true :=
  OpenClaim.laidByTextAt_later rfl rfl tie noOwnUnsafe
theorem fnExactTxnIdsUpto_row_tie : Rows.fnExactTxnIdsUptoRow.laidByTextAt .later Tryz.pinned [.sentinel] true :=
  OpenClaim.laidByTextAt_later rfl rfl tie noOwnUnsafe
theorem fnExactTxnPutUpto_row_tie : Rows.fnExactTxnPutUptoRow.laidByTextAt .later Tryz.pinned [.handle, .sentinel, .sentinel] true :=
  OpenClaim.laidByTextAt_later rfl rfl tie2 noOwnUnsafe
theorem fnExactTxnCutUpto_row_tie : Rows.fnExactTxnCutUptoRow.laidByTextAt .later Tryz.pinned [.handle, .sentinel, .sentinel] true :=
  OpenClaim.laidByTextAt_later rfl rfl tie3 noOwnUnsafe
theorem fnExactRollbackUpto_row_tie : Rows.fnExactRollbackUptoRow.laidByTextAt .later Tryz.pinned [.handle, .sentinel] true :=
  OpenClaim.laidByTextAt_later rfl rfl tie4 noOwnUnsafe
end Go.Proofs.YtehifednpbdokaaGreatDoor
