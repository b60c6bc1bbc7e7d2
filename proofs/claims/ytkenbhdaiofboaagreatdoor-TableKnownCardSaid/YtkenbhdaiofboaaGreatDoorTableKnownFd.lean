/- Closed facts of TableKnown's row, apart because the program is big. -/
import Derived.Test.YtkenbhdaiofboaaGreatDoorFrame
import Derived.Test.YtkenbhdaiofboaaGreatDoorRows
import Derived.Test.YtkenbhdaiofboaaGreatDoorTableKnownFa
import Derived.Test.YtkenbhdaiofboaaGreatDoorTableKnownFb
import Derived.Test.YtkenbhdaiofboaaGreatDoorTableKnownFc
namespace Go.Proofs.YtkenbhdaiofboaaGreatDoor
open Go.ChangeShapes Go.WideShapes Go.ChangeAt Go.RowKit
theorem tableKnown_and {a b : Bool} (h : a = true) (k : b = true) : (a && b) = true := by rw [h, k]; rfl
set_option maxRecDepth 100000 in
theorem tableKnown_k0 : (Rows.tableKnownRow.wf (OpenSpec.ofChange Rows.tableKnownSpec)) = true := by kernel_rfl
set_option maxRecDepth 100000 in
theorem tableKnown_k3 : (Tryz.f3.params.all (Tryz.pinned.checked.prog.readableRec ·)) = true := by kernel_rfl
set_option maxRecDepth 100000 in
theorem tableKnown_k4 : (namedTie Tryz.pinned.checked.prog Rows.tableKnownRow.named Rows.tableKnownSpec.vars) = true := by kernel_rfl
set_option maxRecDepth 100000 in
theorem tableKnown_k5 : ((Rows.tableKnownRow.stops == [])) = true := by kernel_rfl
set_option maxRecDepth 100000 in
theorem tableKnown_k6 : ((Tryz.pinned.checked.prog.stops == [])) = true := by kernel_rfl
set_option maxRecDepth 100000 in
theorem tableKnown_k7 : ((Rows.tableKnownRow.knobs == [])) = true := by kernel_rfl
set_option maxRecDepth 100000 in
theorem tableKnown_k8 : ((Tryz.pinned.checked.prog.stopKnobs == [])) = true := by kernel_rfl
set_option maxRecDepth 100000 in
theorem tableKnown_k13 : ((Rows.tableKnownRow.maps == (Tryz.f3.params.toList ++ Rows.tableKnownSpec.plain.varTypes Tryz.pinned.checked.prog).any (Tryz.pinned.checked.prog.mapsRec ·))) = true := by kernel_rfl
set_option maxRecDepth 100000 in
theorem tableKnown_k14 : ((Rows.tableKnownRow.ifaces == (Tryz.f3.params.toList ++ Rows.tableKnownSpec.plain.varTypes Tryz.pinned.checked.prog).any (Tryz.pinned.checked.prog.ifacesRec ·))) = true := by kernel_rfl
set_option maxRecDepth 100000 in
theorem tableKnown_k15 : ((Rows.tableKnownRow.mapsOut == Tryz.pinned.checked.prog.mapsAmong Tryz.f3.resultTypes.toList)) = true := by kernel_rfl
set_option maxRecDepth 100000 in
theorem tableKnown_k16 : ((Rows.tableKnownRow.loops == (Tryz.f3.params.toList ++ Rows.tableKnownSpec.plain.varTypes Tryz.pinned.checked.prog).any (Tryz.pinned.checked.prog.loopsFrom ·))) = true := by kernel_rfl
set_option maxRecDepth 100000 in
theorem tableKnown_k17 : ((Rows.tableKnownRow.wideKeys == (Tryz.f3.params.toList ++ Rows.tableKnownSpec.plain.varTypes Tryz.pinned.checked.prog ++ Tryz.f3.resultTypes.toList).any (Tryz.pinned.checked.prog.wideKeysFrom ·))) = true := by kernel_rfl
set_option maxRecDepth 100000 in
theorem tableKnown_k18 : (Rows.tableKnownSpec.vars.all (Tryz.pinned.checked.prog.varReadable ·)) = true := by kernel_rfl
set_option maxRecDepth 100000 in
theorem tableKnown_k19 : (Tryz.f3.resultTypes.all (fun t => Tryz.pinned.checked.prog.readableRec t && decide (t < Tryz.pinned.checked.prog.types.size))) = true := by kernel_rfl
set_option maxRecDepth 100000 in
theorem tableKnown_k20 : ((Rows.tableKnownRow.ifacesOut == Tryz.f3.resultTypes.toList.any (Tryz.pinned.checked.prog.ifacesRec ·))) = true := by kernel_rfl
set_option maxRecDepth 100000 in
theorem tableKnown_k21 : ((Rows.tableKnownRow.loopsOut == Tryz.f3.resultTypes.toList.any (Tryz.pinned.checked.prog.loopsFrom ·))) = true := by kernel_rfl
set_option maxRecDepth 100000 in
theorem tableKnown_k23 : (Rows.tableKnownRow.shortTexts.isNone) = true := by kernel_rfl
set_option maxRecDepth 100000 in
theorem tableKnown_k25 : (Tryz.pinned.checked.prog.mayEnter) = true := by kernel_rfl
set_option maxRecDepth 100000 in
theorem tableKnown_k26 : ((Rows.tableKnownRow.lifted == Tryz.pinned.checked.prog.liftsFinal)) = true := by kernel_rfl
set_option maxRecDepth 100000 in
theorem tableKnown_k27 : ((Tryz.pinned.checked.prog.make == some Rows.tableKnownRow.make)) = true := by kernel_rfl
set_option maxRecDepth 100000 in
theorem tableKnown_k28 : ((Rows.tableKnownRow.kinds == (if Rows.tableKnownRow.domain.isEmpty then [] else Tryz.f3.params.toList.map fun t => match Tryz.pinned.checked.prog.underlying t with | some (.int k) => some k | _ => none))) = true := by kernel_rfl
set_option maxRecDepth 100000 in
theorem tableKnown_k29 : ((Rows.tableKnownRow.pinned == Rows.tableKnownRow.pinnedBy)) = true := by kernel_rfl
set_option maxRecDepth 100000 in
theorem tableKnown_k30 : ((Rows.tableKnownRow.veiled == (Tryz.f3.params.toList ++ Rows.tableKnownSpec.plain.varTypes Tryz.pinned.checked.prog ++ Tryz.f3.resultTypes.toList).any (Tryz.pinned.checked.prog.veiledRec ·))) = true := by kernel_rfl
set_option maxRecDepth 100000 in
theorem tableKnown_k31 : (Rows.tableKnownRow.veiledFits Tryz.pinned.checked.prog Tryz.f3.params.toList (Tryz.f3.params.toList ++ Rows.tableKnownSpec.plain.varTypes Tryz.pinned.checked.prog ++ Tryz.f3.resultTypes.toList)) = true := by kernel_rfl
set_option maxRecDepth 100000 in
theorem tableKnown_closed : joinedFacts Tryz.pinned.checked.prog 3 Tryz.f3 Rows.tableKnownSpec Rows.tableKnownRow = true := tableKnown_and (tableKnown_and (tableKnown_and (tableKnown_and (tableKnown_and (tableKnown_and (tableKnown_and (tableKnown_and (tableKnown_and (tableKnown_and (tableKnown_and (tableKnown_and (tableKnown_and (tableKnown_and (tableKnown_and (tableKnown_and (tableKnown_and (tableKnown_and (tableKnown_and (tableKnown_and (tableKnown_and (tableKnown_and (tableKnown_and (tableKnown_and (tableKnown_and (tableKnown_and (tableKnown_and (tableKnown_and (tableKnown_and (tableKnown_and (tableKnown_and (tableKnown_k0) tableKnown_k1) tableKnown_k2) tableKnown_k3) tableKnown_k4) tableKnown_k5) tableKnown_k6) tableKnown_k7) tableKnown_k8) tableKnown_k9) tableKnown_k10) tableKnown_k11) tableKnown_k12) tableKnown_k13) tableKnown_k14) tableKnown_k15) tableKnown_k16) tableKnown_k17) tableKnown_k18) tableKnown_k19) tableKnown_k20) tableKnown_k21) tableKnown_k22) tableKnown_k23) tableKnown_k24) tableKnown_k25) tableKnown_k26) tableKnown_k27) tableKnown_k28) tableKnown_k29) tableKnown_k30) tableKnown_k31
end Go.Proofs.YtkenbhdaiofboaaGreatDoor
