/-
  DERIVED. GIVEN WITH THE SEED: THE PROGRAM's TIES (one call each: nine closed facts by the kernel) AND EACH ROW's TIE, after the 31st guide's Derived/Test/Toyas{Tie, Card}.lean. No idea stands in it: it is a product of the set-up. Laid BY PROGRAM, IN A SANDBOX (cutbox-door.mjs). By AI agents, Wed Nov 11 2026. No macro, syntax, notation, axiom, sorry.
-/
import Derived.Test.YtdabllnigaafmaaDoorRows
import Derived.LaidByTextLater
import Derived.SevenTiedAt
import Derived.LaidSub
import Derived.LaidOnce
namespace Go.Proofs.YtdabllnigaafmaaDoor
open Go
set_option maxRecDepth 100000
theorem seatTie1 : Tryd.prog.laidByTextLater [("loop.example/g00654/impl.errRange", Rows.laid_loop_example_g00654_impl_errRange), ("loop.example/g00654/impl.errSize", Rows.laid_loop_example_g00654_impl_errSize), ("loop.example/g00654/impl.errForm", Rows.laid_loop_example_g00654_impl_errForm), ("loop.example/g00654/impl.errSum", Rows.laid_loop_example_g00654_impl_errSum), ("loop.example/g00654/impl.errEnd", Rows.laid_loop_example_g00654_impl_errEnd), ("loop.example/g00654/impl.relocNames", Rows.laid_loop_example_g00654_impl_relocNames)] [.sentinel, .sentinel, .sentinel, .sentinel, .sentinel, .data] true :=
  Program.laidByTextLater_by_one 109 8 11 (by kernel_rfl) (by kernel_rfl) (by kernel_rfl) (by kernel_rfl) (by kernel_rfl) (by kernel_rfl) (fun _ _ => by kernel_rfl)
theorem noOwnUnsafe : Tryd.pinned.checked.prog.headLifts.contains "ownunsafe" = false := by kernel_rfl
theorem tie : Tryd.prog.laidByTextLater [("loop.example/g00654/impl.errRange", Rows.laid_loop_example_g00654_impl_errRange), ("loop.example/g00654/impl.errSize", Rows.laid_loop_example_g00654_impl_errSize), ("loop.example/g00654/impl.errForm", Rows.laid_loop_example_g00654_impl_errForm), ("loop.example/g00654/impl.errSum", Rows.laid_loop_example_g00654_impl_errSum), ("loop.example/g00654/impl.errEnd", Rows.laid_loop_example_g00654_impl_errEnd), ("loop.example/g00654/impl.relocNames", Rows.laid_loop_example_g00654_impl_relocNames)] [.sentinel, .sentinel, .sentinel, .sentinel, .sentinel, .data] true :=
  Program.laidByTextLater.sub seatTie1 ["loop.example/g00654/impl.errRange", "loop.example/g00654/impl.errSize", "loop.example/g00654/impl.errForm", "loop.example/g00654/impl.errSum", "loop.example/g00654/impl.errEnd", "loop.example/g00654/impl.relocNames"] (by kernel_rfl) (by kernel_rfl)
theorem fnSplit_row_tie : Rows.fnSplitRow.laidByTextAt .later Tryd.pinned [.sentinel, .sentinel, .sentinel, .sentinel, .sentinel, .data] true :=
  OpenClaim.laidByTextAt_later rfl rfl tie noOwnUnsafe
theorem tie2 : Tryd.prog.laidByTextLater [("loop.example/g00654/impl.errRange", Rows.laid_loop_example_g00654_impl_errRange), ("loop.example/g00654/impl.errSize", Rows.laid_loop_example_g00654_impl_errSize), ("loop.example/g00654/impl.errForm", Rows.laid_loop_example_g00654_impl_errForm), ("loop.example/g00654/impl.errSum", Rows.laid_loop_example_g00654_impl_errSum), ("loop.example/g00654/impl.errEnd", Rows.laid_loop_example_g00654_impl_errEnd)] [.sentinel, .sentinel, .sentinel, .sentinel, .sentinel] true :=
  Program.laidByTextLater.sub seatTie1 ["loop.example/g00654/impl.errRange", "loop.example/g00654/impl.errSize", "loop.example/g00654/impl.errForm", "loop.example/g00654/impl.errSum", "loop.example/g00654/impl.errEnd"] (by kernel_rfl) (by kernel_rfl)
theorem fnExactSplitAddress_row_tie : Rows.fnExactSplitAddressRow.laidByTextAt .later Tryd.pinned [.sentinel, .sentinel, .sentinel, .sentinel, .sentinel] true :=
  OpenClaim.laidByTextAt_later rfl rfl tie2 noOwnUnsafe
theorem tie3 : Tryd.prog.laidByTextLater [("loop.example/g00654/impl.relocNames", Rows.laid_loop_example_g00654_impl_relocNames)] [.data] true :=
  Program.laidByTextLater.sub seatTie1 ["loop.example/g00654/impl.relocNames"] (by kernel_rfl) (by kernel_rfl)
theorem fnExactRelocName_row_tie : Rows.fnExactRelocNameRow.laidByTextAt .later Tryd.pinned [.data] true :=
  OpenClaim.laidByTextAt_later rfl rfl tie3 noOwnUnsafe
theorem fnExactRelocOf_row_tie : Rows.fnExactRelocOfRow.laidByTextAt .later Tryd.pinned [.data] true :=
  OpenClaim.laidByTextAt_later rfl rfl tie3 noOwnUnsafe
theorem fnSplitUpto_row_tie : Rows.fnSplitUptoRow.laidByTextAt .later Tryd.pinned [.sentinel, .sentinel, .sentinel, .sentinel, .sentinel, .data] true :=
  OpenClaim.laidByTextAt_later rfl rfl tie noOwnUnsafe
theorem fnExactSplitAddressUpto_row_tie : Rows.fnExactSplitAddressUptoRow.laidByTextAt .later Tryd.pinned [.sentinel, .sentinel, .sentinel, .sentinel, .sentinel] true :=
  OpenClaim.laidByTextAt_later rfl rfl tie2 noOwnUnsafe
theorem fnExactRelocNameUpto_row_tie : Rows.fnExactRelocNameUptoRow.laidByTextAt .later Tryd.pinned [.data] true :=
  OpenClaim.laidByTextAt_later rfl rfl tie3 noOwnUnsafe
theorem fnExactRelocOfUpto_row_tie : Rows.fnExactRelocOfUptoRow.laidByTextAt .later Tryd.pinned [.data] true :=
  OpenClaim.laidByTextAt_later rfl rfl tie3 noOwnUnsafe
end Go.Proofs.YtdabllnigaafmaaDoor
