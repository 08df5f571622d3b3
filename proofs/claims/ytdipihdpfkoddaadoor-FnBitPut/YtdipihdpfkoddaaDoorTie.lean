/-
  DERIVED. GIVEN WITH THE SEED: THE PROGRAM's TIES (one call each: nine closed facts by the kernel) AND EACH ROW's TIE, after the 31st guide's Derived/Test/Toyas{Tie, Card}.lean. No idea stands in it: it is a product of the set-up. Laid BY PROGRAM, IN A SANDBOX (cutbox-door.mjs). By AI agents, Wed Nov 11 2026. No macro, syntax, notation, axiom, sorry.
-/
import Derived.Test.YtdipihdpfkoddaaDoorRows
import Derived.LaidByTextLater
import Derived.SevenTiedAt
import Derived.LaidSub
import Derived.LaidOnce
namespace Go.Proofs.YtdipihdpfkoddaaDoor
open Go
set_option maxRecDepth 100000
theorem seatTie1 : Tryd.prog.laidByTextLater [("loop.example/easel/impl.errBitNumber", Rows.laid_loop_example_easel_impl_errBitNumber), ("loop.example/easel/impl.errBitRoom", Rows.laid_loop_example_easel_impl_errBitRoom), ("loop.example/easel/impl.errBitStart", Rows.laid_loop_example_easel_impl_errBitStart), ("loop.example/easel/impl.errBitEnd", Rows.laid_loop_example_easel_impl_errBitEnd)] [.sentinel, .sentinel, .sentinel, .sentinel] true :=
  Program.laidByTextLater_by_one 85 8 2 (by kernel_rfl) (by kernel_rfl) (by kernel_rfl) (by kernel_rfl) (by kernel_rfl) (by kernel_rfl) (fun _ _ => by kernel_rfl)
theorem noOwnUnsafe : Tryd.pinned.checked.prog.headLifts.contains "ownunsafe" = false := by kernel_rfl
theorem tie : Tryd.prog.laidByTextLater [("loop.example/easel/impl.errBitNumber", Rows.laid_loop_example_easel_impl_errBitNumber), ("loop.example/easel/impl.errBitRoom", Rows.laid_loop_example_easel_impl_errBitRoom), ("loop.example/easel/impl.errBitStart", Rows.laid_loop_example_easel_impl_errBitStart), ("loop.example/easel/impl.errBitEnd", Rows.laid_loop_example_easel_impl_errBitEnd)] [.sentinel, .sentinel, .sentinel, .sentinel] true :=
  Program.laidByTextLater.sub seatTie1 ["loop.example/easel/impl.errBitNumber", "loop.example/easel/impl.errBitRoom", "loop.example/easel/impl.errBitStart", "loop.example/easel/impl.errBitEnd"] (by kernel_rfl) (by kernel_rfl)
theorem fnBitPut_row_tie : Rows.fnBitPutRow.laidByTextAt .later Tryd.pinned [.sentinel, .sentinel, .sentinel, .sentinel] true :=
  OpenClaim.laidByTextAt_later rfl rfl tie noOwnUnsafe
theorem tie2 : Tryd.prog.laidByTextLater [("loop.example/easel/impl.errBitNumber", Rows.laid_loop_example_easel_impl_errBitNumber), ("loop.example/easel/impl.errBitStart", Rows.laid_loop_example_easel_impl_errBitStart), ("loop.example/easel/impl.errBitEnd", Rows.laid_loop_example_easel_impl_errBitEnd)] [.sentinel, .sentinel, .sentinel] true :=
  Program.laidByTextLater.sub seatTie1 ["loop.example/easel/impl.errBitNumber", "loop.example/easel/impl.errBitStart", "loop.example/easel/impl.errBitEnd"] (by kernel_rfl) (by kernel_rfl)
theorem fnBitGet_row_tie : Rows.fnBitGetRow.laidByTextAt .later Tryd.pinned [.sentinel, .sentinel, .sentinel] true :=
  OpenClaim.laidByTextAt_later rfl rfl tie2 noOwnUnsafe
theorem tie3 : Tryd.prog.laidByTextLater [("loop.example/easel/impl.errBitNumber", Rows.laid_loop_example_easel_impl_errBitNumber), ("loop.example/easel/impl.errBitRoom", Rows.laid_loop_example_easel_impl_errBitRoom)] [.sentinel, .sentinel] true :=
  Program.laidByTextLater.sub seatTie1 ["loop.example/easel/impl.errBitNumber", "loop.example/easel/impl.errBitRoom"] (by kernel_rfl) (by kernel_rfl)
theorem fnBitJoin_row_tie : Rows.fnBitJoinRow.laidByTextAt .later Tryd.pinned [.sentinel, .sentinel] true :=
  OpenClaim.laidByTextAt_later rfl rfl tie3 noOwnUnsafe
theorem fnBitPutUpto_row_tie : Rows.fnBitPutUptoRow.laidByTextAt .later Tryd.pinned [.sentinel, .sentinel, .sentinel, .sentinel] true :=
  OpenClaim.laidByTextAt_later rfl rfl tie noOwnUnsafe
theorem fnBitGetUpto_row_tie : Rows.fnBitGetUptoRow.laidByTextAt .later Tryd.pinned [.sentinel, .sentinel, .sentinel] true :=
  OpenClaim.laidByTextAt_later rfl rfl tie2 noOwnUnsafe
theorem fnBitJoinUpto_row_tie : Rows.fnBitJoinUptoRow.laidByTextAt .later Tryd.pinned [.sentinel, .sentinel] true :=
  OpenClaim.laidByTextAt_later rfl rfl tie3 noOwnUnsafe
end Go.Proofs.YtdipihdpfkoddaaDoor
