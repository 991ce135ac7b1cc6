/-
  DERIVED. GIVEN WITH THE SEED: THE PROGRAM's TIES (one call each: nine closed facts by the kernel) AND EACH ROW's TIE, after the 31st guide's Derived/Test/Toyas{Tie, Card}.lean. No idea stands in it: it is a product of the set-up. Laid BY PROGRAM, IN A SANDBOX (cutbox-door.mjs). By AI agents, Wed Nov 11 2026. No macro, syntax, notation, axiom, sorry.
-/
import Derived.Test.YtffefhgemmjkoaaDoorRows
import Derived.LaidByTextLater
import Derived.SevenTiedAt
import Derived.LaidSub
import Derived.LaidOnce
namespace Go.Proofs.YtffefhgemmjkoaaDoor
open Go
set_option maxRecDepth 100000
theorem seatTie1 : Tryd.prog.laidByTextLater [("loop.example/g00899/impl.groupCodes", Rows.laid_loop_example_g00899_impl_groupCodes), ("loop.example/g00899/impl.clockedBytes", Rows.laid_loop_example_g00899_impl_clockedBytes), ("loop.example/g00899/impl.groupedBytes", Rows.laid_loop_example_g00899_impl_groupedBytes), ("loop.example/g00899/impl.layouts", Rows.laid_loop_example_g00899_impl_layouts)] [.data, .data, .data, .wider] true :=
  Program.laidByTextLater_by_one 32 8 21 (by kernel_rfl) (by kernel_rfl) (by kernel_rfl) (by kernel_rfl) (by kernel_rfl) (by kernel_rfl) (fun _ _ => by kernel_rfl)
theorem noOwnUnsafe : Tryd.pinned.checked.prog.headLifts.contains "ownunsafe" = false := by kernel_rfl
theorem tie : Tryd.prog.laidByTextLater [("loop.example/g00899/impl.groupCodes", Rows.laid_loop_example_g00899_impl_groupCodes), ("loop.example/g00899/impl.clockedBytes", Rows.laid_loop_example_g00899_impl_clockedBytes), ("loop.example/g00899/impl.groupedBytes", Rows.laid_loop_example_g00899_impl_groupedBytes)] [.data, .data, .data] true :=
  Program.laidByTextLater.sub seatTie1 ["loop.example/g00899/impl.groupCodes", "loop.example/g00899/impl.clockedBytes", "loop.example/g00899/impl.groupedBytes"] (by kernel_rfl) (by kernel_rfl)
theorem fnExactMarkCells_row_tie : Rows.fnExactMarkCellsRow.laidByTextAt .later Tryd.pinned [.data, .data, .data] true :=
  OpenClaim.laidByTextAt_later rfl rfl tie noOwnUnsafe
theorem tie2 : Tryd.prog.laidByTextLater [("loop.example/g00899/impl.clockedBytes", Rows.laid_loop_example_g00899_impl_clockedBytes), ("loop.example/g00899/impl.groupedBytes", Rows.laid_loop_example_g00899_impl_groupedBytes), ("loop.example/g00899/impl.layouts", Rows.laid_loop_example_g00899_impl_layouts)] [.data, .data, .wider] true :=
  Program.laidByTextLater.sub seatTie1 ["loop.example/g00899/impl.clockedBytes", "loop.example/g00899/impl.groupedBytes", "loop.example/g00899/impl.layouts"] (by kernel_rfl) (by kernel_rfl)
theorem fnExactIdField_row_tie : Rows.fnExactIdFieldRow.laidByTextAt .later Tryd.pinned [.data, .data, .wider] true :=
  OpenClaim.laidByTextAt_later rfl rfl tie2 noOwnUnsafe
theorem fnExactDataField_row_tie : Rows.fnExactDataFieldRow.laidByTextAt .later Tryd.pinned [.data, .data, .wider] true :=
  OpenClaim.laidByTextAt_later rfl rfl tie2 noOwnUnsafe
theorem tie3 : Tryd.prog.laidByTextLater [("loop.example/g00899/impl.groupCodes", Rows.laid_loop_example_g00899_impl_groupCodes)] [.data] true :=
  Program.laidByTextLater.sub seatTie1 ["loop.example/g00899/impl.groupCodes"] (by kernel_rfl) (by kernel_rfl)
theorem fnExactDecodeGcr_row_tie : Rows.fnExactDecodeGcrRow.laidByTextAt .later Tryd.pinned [.data] true :=
  OpenClaim.laidByTextAt_later rfl rfl tie3 noOwnUnsafe
theorem fnGcr_row_tie : Rows.fnGcrRow.laidByTextAt .later Tryd.pinned [.data] true :=
  OpenClaim.laidByTextAt_later rfl rfl tie3 noOwnUnsafe
theorem fnExactRawBytes_row_tie : Rows.fnExactRawBytesRow.laidByTextAt .later Tryd.pinned [.data] true :=
  OpenClaim.laidByTextAt_later rfl rfl tie3 noOwnUnsafe
theorem tie4 : Tryd.prog.laidByTextLater [("loop.example/g00899/impl.groupCodes", Rows.laid_loop_example_g00899_impl_groupCodes), ("loop.example/g00899/impl.clockedBytes", Rows.laid_loop_example_g00899_impl_clockedBytes), ("loop.example/g00899/impl.groupedBytes", Rows.laid_loop_example_g00899_impl_groupedBytes), ("loop.example/g00899/impl.layouts", Rows.laid_loop_example_g00899_impl_layouts)] [.data, .data, .data, .wider] true :=
  Program.laidByTextLater.sub seatTie1 ["loop.example/g00899/impl.groupCodes", "loop.example/g00899/impl.clockedBytes", "loop.example/g00899/impl.groupedBytes", "loop.example/g00899/impl.layouts"] (by kernel_rfl) (by kernel_rfl)
theorem fnExactSectorCells_row_tie : Rows.fnExactSectorCellsRow.laidByTextAt .later Tryd.pinned [.data, .data, .data, .wider] true :=
  OpenClaim.laidByTextAt_later rfl rfl tie4 noOwnUnsafe
theorem fnExactMarkCellsUpto_row_tie : Rows.fnExactMarkCellsUptoRow.laidByTextAt .later Tryd.pinned [.data, .data, .data] true :=
  OpenClaim.laidByTextAt_later rfl rfl tie noOwnUnsafe
theorem fnExactIdFieldUpto_row_tie : Rows.fnExactIdFieldUptoRow.laidByTextAt .later Tryd.pinned [.data, .data, .wider] true :=
  OpenClaim.laidByTextAt_later rfl rfl tie2 noOwnUnsafe
theorem fnExactDataFieldUpto_row_tie : Rows.fnExactDataFieldUptoRow.laidByTextAt .later Tryd.pinned [.data, .data, .wider] true :=
  OpenClaim.laidByTextAt_later rfl rfl tie2 noOwnUnsafe
theorem fnExactDecodeGcrUpto_row_tie : Rows.fnExactDecodeGcrUptoRow.laidByTextAt .later Tryd.pinned [.data] true :=
  OpenClaim.laidByTextAt_later rfl rfl tie3 noOwnUnsafe
theorem fnGcrUpto_row_tie : Rows.fnGcrUptoRow.laidByTextAt .later Tryd.pinned [.data] true :=
  OpenClaim.laidByTextAt_later rfl rfl tie3 noOwnUnsafe
theorem fnExactSectorCellsUpto_row_tie : Rows.fnExactSectorCellsUptoRow.laidByTextAt .later Tryd.pinned [.data, .data, .data, .wider] true :=
  OpenClaim.laidByTextAt_later rfl rfl tie4 noOwnUnsafe
theorem fnExactRawBytesUpto_row_tie : Rows.fnExactRawBytesUptoRow.laidByTextAt .later Tryd.pinned [.data] true :=
  OpenClaim.laidByTextAt_later rfl rfl tie3 noOwnUnsafe
end Go.Proofs.YtffefhgemmjkoaaDoor
