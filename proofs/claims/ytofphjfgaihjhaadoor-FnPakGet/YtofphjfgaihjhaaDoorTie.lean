/-
  DERIVED. GIVEN WITH THE SEED: THE PROGRAM's TIES (one call each: nine closed facts by the kernel) AND EACH ROW's TIE, after the 31st guide's Derived/Test/Toyas{Tie, Card}.lean. No idea stands in it: it is a product of the set-up. Laid BY PROGRAM, IN A SANDBOX (cutbox-door.mjs). By AI agents, Wed Nov 11 2026. No macro, syntax, notation, axiom, sorry.
-/
import Derived.Test.YtofphjfgaihjhaaDoorRows
import Derived.LaidByTextLater
import Derived.SevenTiedAt
import Derived.LaidSub
import Derived.LaidOnce
namespace Go.Proofs.YtofphjfgaihjhaaDoor
open Go
set_option maxRecDepth 100000
theorem seatTie1 : Tryd.prog.laidByTextLater [("loop.example/easel/impl.errBitNumber", Rows.laid_loop_example_easel_impl_errBitNumber), ("loop.example/easel/impl.errBitRoom", Rows.laid_loop_example_easel_impl_errBitRoom), ("loop.example/easel/impl.errBitStart", Rows.laid_loop_example_easel_impl_errBitStart), ("loop.example/easel/impl.errBitEnd", Rows.laid_loop_example_easel_impl_errBitEnd)] [.sentinel, .sentinel, .sentinel, .sentinel] true :=
  Program.laidByTextLater_by_one 85 8 2 (by kernel_rfl) (by kernel_rfl) (by kernel_rfl) (by kernel_rfl) (by kernel_rfl) (by kernel_rfl) (fun _ _ => by kernel_rfl)
theorem noOwnUnsafe : Tryd.pinned.checked.prog.headLifts.contains "ownunsafe" = false := by kernel_rfl
theorem tie : Tryd.prog.laidByTextLater [("loop.example/easel/impl.errBitNumber", Rows.laid_loop_example_easel_impl_errBitNumber), ("loop.example/easel/impl.errBitRoom", Rows.laid_loop_example_easel_impl_errBitRoom), ("loop.example/easel/impl.errBitStart", Rows.laid_loop_example_easel_impl_errBitStart), ("loop.example/easel/impl.errBitEnd", Rows.laid_loop_example_easel_impl_errBitEnd)] [.sentinel, .sentinel, .sentinel, .sentinel] true :=
  Program.laidByTextLater.sub seatTie1 ["loop.example/easel/impl.errBitNumber", "loop.example/easel/impl.errBitRoom", "loop.example/easel/impl.errBitStart", "loop.example/easel/impl.errBitEnd"] (by kernel_rfl) (by kernel_rfl)
theorem fnPakPut_row_tie : Rows.fnPakPutRow.laidByTextAt .later Tryd.pinned [.sentinel, .sentinel, .sentinel, .sentinel] true :=
  OpenClaim.laidByTextAt_later rfl rfl tie noOwnUnsafe
theorem fnPakGet_row_tie : Rows.fnPakGetRow.laidByTextAt .later Tryd.pinned [.sentinel, .sentinel, .sentinel, .sentinel] true :=
  OpenClaim.laidByTextAt_later rfl rfl tie noOwnUnsafe
theorem fnPakApart_row_tie : Rows.fnPakApartRow.laidByTextAt .later Tryd.pinned [.sentinel, .sentinel, .sentinel, .sentinel] true :=
  OpenClaim.laidByTextAt_later rfl rfl tie noOwnUnsafe
theorem fnPakMore_row_tie : Rows.fnPakMoreRow.laidByTextAt .later Tryd.pinned [.sentinel, .sentinel, .sentinel, .sentinel] true :=
  OpenClaim.laidByTextAt_later rfl rfl tie noOwnUnsafe
theorem tie2 : Tryd.prog.laidByTextLater [("loop.example/easel/impl.errBitNumber", Rows.laid_loop_example_easel_impl_errBitNumber), ("loop.example/easel/impl.errBitRoom", Rows.laid_loop_example_easel_impl_errBitRoom)] [.sentinel, .sentinel] true :=
  Program.laidByTextLater.sub seatTie1 ["loop.example/easel/impl.errBitNumber", "loop.example/easel/impl.errBitRoom"] (by kernel_rfl) (by kernel_rfl)
theorem fnExactPakPut_row_tie : Rows.fnExactPakPutRow.laidByTextAt .later Tryd.pinned [.sentinel, .sentinel] true :=
  OpenClaim.laidByTextAt_later rfl rfl tie2 noOwnUnsafe
theorem tie3 : Tryd.prog.laidByTextLater [("loop.example/easel/impl.errBitNumber", Rows.laid_loop_example_easel_impl_errBitNumber), ("loop.example/easel/impl.errBitStart", Rows.laid_loop_example_easel_impl_errBitStart), ("loop.example/easel/impl.errBitEnd", Rows.laid_loop_example_easel_impl_errBitEnd)] [.sentinel, .sentinel, .sentinel] true :=
  Program.laidByTextLater.sub seatTie1 ["loop.example/easel/impl.errBitNumber", "loop.example/easel/impl.errBitStart", "loop.example/easel/impl.errBitEnd"] (by kernel_rfl) (by kernel_rfl)
theorem fnExactPakGet_row_tie : Rows.fnExactPakGetRow.laidByTextAt .later Tryd.pinned [.sentinel, .sentinel, .sentinel] true :=
  OpenClaim.laidByTextAt_later rfl rfl tie3 noOwnUnsafe
theorem fnPakPutUpto_row_tie : Rows.fnPakPutUptoRow.laidByTextAt .later Tryd.pinned [.sentinel, .sentinel, .sentinel, .sentinel] true :=
  OpenClaim.laidByTextAt_later rfl rfl tie noOwnUnsafe
theorem fnPakGetUpto_row_tie : Rows.fnPakGetUptoRow.laidByTextAt .later Tryd.pinned [.sentinel, .sentinel, .sentinel, .sentinel] true :=
  OpenClaim.laidByTextAt_later rfl rfl tie noOwnUnsafe
theorem fnPakApartUpto_row_tie : Rows.fnPakApartUptoRow.laidByTextAt .later Tryd.pinned [.sentinel, .sentinel, .sentinel, .sentinel] true :=
  OpenClaim.laidByTextAt_later rfl rfl tie noOwnUnsafe
theorem fnPakMoreUpto_row_tie : Rows.fnPakMoreUptoRow.laidByTextAt .later Tryd.pinned [.sentinel, .sentinel, .sentinel, .sentinel] true :=
  OpenClaim.laidByTextAt_later rfl rfl tie noOwnUnsafe
theorem fnExactPakPutUpto_row_tie : Rows.fnExactPakPutUptoRow.laidByTextAt .later Tryd.pinned [.sentinel, .sentinel] true :=
  OpenClaim.laidByTextAt_later rfl rfl tie2 noOwnUnsafe
theorem fnExactPakGetUpto_row_tie : Rows.fnExactPakGetUptoRow.laidByTextAt .later Tryd.pinned [.sentinel, .sentinel, .sentinel] true :=
  OpenClaim.laidByTextAt_later rfl rfl tie3 noOwnUnsafe
end Go.Proofs.YtofphjfgaihjhaaDoor
