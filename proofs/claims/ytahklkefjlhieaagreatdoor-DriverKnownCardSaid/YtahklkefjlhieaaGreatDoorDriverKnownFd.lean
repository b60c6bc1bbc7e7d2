/- Closed facts of DriverKnown's row, apart because the program is big. -/
import Derived.Test.YtahklkefjlhieaaGreatDoorFrame
import Derived.Test.YtahklkefjlhieaaGreatDoorRows
import Derived.Test.YtahklkefjlhieaaGreatDoorDriverKnownFa
import Derived.Test.YtahklkefjlhieaaGreatDoorDriverKnownFb
import Derived.Test.YtahklkefjlhieaaGreatDoorDriverKnownFc
namespace Go.Proofs.YtahklkefjlhieaaGreatDoor
open Go.ChangeShapes Go.WideShapes Go.ChangeAt Go.RowKit
theorem driverKnown_and {a b : Bool} (h : a = true) (k : b = true) : (a && b) = true := by rw [h, k]; rfl
set_option maxRecDepth 100000 in
theorem driverKnown_k0 : (Rows.driverKnownRow.wf (OpenSpec.ofChange Rows.driverKnownSpec)) = true := by kernel_rfl
set_option maxRecDepth 100000 in
theorem driverKnown_k3 : (Tryz.f3.params.all (Tryz.pinned.checked.prog.readableRec ·)) = true := by kernel_rfl
set_option maxRecDepth 100000 in
theorem driverKnown_k4 : (namedTie Tryz.pinned.checked.prog Rows.driverKnownRow.named Rows.driverKnownSpec.vars) = true := by kernel_rfl
set_option maxRecDepth 100000 in
theorem driverKnown_k5 : ((Rows.driverKnownRow.stops == [])) = true := by kernel_rfl
set_option maxRecDepth 100000 in
theorem driverKnown_k6 : ((Tryz.pinned.checked.prog.stops == [])) = true := by kernel_rfl
set_option maxRecDepth 100000 in
theorem driverKnown_k7 : ((Rows.driverKnownRow.knobs == [])) = true := by kernel_rfl
set_option maxRecDepth 100000 in
theorem driverKnown_k8 : ((Tryz.pinned.checked.prog.stopKnobs == [])) = true := by kernel_rfl
set_option maxRecDepth 100000 in
theorem driverKnown_k13 : ((Rows.driverKnownRow.maps == (Tryz.f3.params.toList ++ Rows.driverKnownSpec.plain.varTypes Tryz.pinned.checked.prog).any (Tryz.pinned.checked.prog.mapsRec ·))) = true := by kernel_rfl
set_option maxRecDepth 100000 in
theorem driverKnown_k14 : ((Rows.driverKnownRow.ifaces == (Tryz.f3.params.toList ++ Rows.driverKnownSpec.plain.varTypes Tryz.pinned.checked.prog).any (Tryz.pinned.checked.prog.ifacesRec ·))) = true := by kernel_rfl
set_option maxRecDepth 100000 in
theorem driverKnown_k15 : ((Rows.driverKnownRow.mapsOut == Tryz.pinned.checked.prog.mapsAmong Tryz.f3.resultTypes.toList)) = true := by kernel_rfl
set_option maxRecDepth 100000 in
theorem driverKnown_k16 : ((Rows.driverKnownRow.loops == (Tryz.f3.params.toList ++ Rows.driverKnownSpec.plain.varTypes Tryz.pinned.checked.prog).any (Tryz.pinned.checked.prog.loopsFrom ·))) = true := by kernel_rfl
set_option maxRecDepth 100000 in
theorem driverKnown_k17 : ((Rows.driverKnownRow.wideKeys == (Tryz.f3.params.toList ++ Rows.driverKnownSpec.plain.varTypes Tryz.pinned.checked.prog ++ Tryz.f3.resultTypes.toList).any (Tryz.pinned.checked.prog.wideKeysFrom ·))) = true := by kernel_rfl
set_option maxRecDepth 100000 in
theorem driverKnown_k18 : (Rows.driverKnownSpec.vars.all (Tryz.pinned.checked.prog.varReadable ·)) = true := by kernel_rfl
set_option maxRecDepth 100000 in
theorem driverKnown_k19 : (Tryz.f3.resultTypes.all (fun t => Tryz.pinned.checked.prog.readableRec t && decide (t < Tryz.pinned.checked.prog.types.size))) = true := by kernel_rfl
set_option maxRecDepth 100000 in
theorem driverKnown_k20 : ((Rows.driverKnownRow.ifacesOut == Tryz.f3.resultTypes.toList.any (Tryz.pinned.checked.prog.ifacesRec ·))) = true := by kernel_rfl
set_option maxRecDepth 100000 in
theorem driverKnown_k21 : ((Rows.driverKnownRow.loopsOut == Tryz.f3.resultTypes.toList.any (Tryz.pinned.checked.prog.loopsFrom ·))) = true := by kernel_rfl
set_option maxRecDepth 100000 in
theorem driverKnown_k23 : (Rows.driverKnownRow.shortTexts.isNone) = true := by kernel_rfl
set_option maxRecDepth 100000 in
theorem driverKnown_k25 : (Tryz.pinned.checked.prog.mayEnter) = true := by kernel_rfl
set_option maxRecDepth 100000 in
theorem driverKnown_k26 : ((Rows.driverKnownRow.lifted == Tryz.pinned.checked.prog.liftsFinal)) = true := by kernel_rfl
set_option maxRecDepth 100000 in
theorem driverKnown_k27 : ((Tryz.pinned.checked.prog.make == some Rows.driverKnownRow.make)) = true := by kernel_rfl
set_option maxRecDepth 100000 in
theorem driverKnown_k28 : ((Rows.driverKnownRow.kinds == (if Rows.driverKnownRow.domain.isEmpty then [] else Tryz.f3.params.toList.map fun t => match Tryz.pinned.checked.prog.underlying t with | some (.int k) => some k | _ => none))) = true := by kernel_rfl
set_option maxRecDepth 100000 in
theorem driverKnown_k29 : ((Rows.driverKnownRow.pinned == Rows.driverKnownRow.pinnedBy)) = true := by kernel_rfl
set_option maxRecDepth 100000 in
theorem driverKnown_k30 : ((Rows.driverKnownRow.veiled == (Tryz.f3.params.toList ++ Rows.driverKnownSpec.plain.varTypes Tryz.pinned.checked.prog ++ Tryz.f3.resultTypes.toList).any (Tryz.pinned.checked.prog.veiledRec ·))) = true := by kernel_rfl
set_option maxRecDepth 100000 in
theorem driverKnown_k31 : (Rows.driverKnownRow.veiledFits Tryz.pinned.checked.prog Tryz.f3.params.toList (Tryz.f3.params.toList ++ Rows.driverKnownSpec.plain.varTypes Tryz.pinned.checked.prog ++ Tryz.f3.resultTypes.toList)) = true := by kernel_rfl
set_option maxRecDepth 100000 in
theorem driverKnown_closed : joinedFacts Tryz.pinned.checked.prog 3 Tryz.f3 Rows.driverKnownSpec Rows.driverKnownRow = true := driverKnown_and (driverKnown_and (driverKnown_and (driverKnown_and (driverKnown_and (driverKnown_and (driverKnown_and (driverKnown_and (driverKnown_and (driverKnown_and (driverKnown_and (driverKnown_and (driverKnown_and (driverKnown_and (driverKnown_and (driverKnown_and (driverKnown_and (driverKnown_and (driverKnown_and (driverKnown_and (driverKnown_and (driverKnown_and (driverKnown_and (driverKnown_and (driverKnown_and (driverKnown_and (driverKnown_and (driverKnown_and (driverKnown_and (driverKnown_and (driverKnown_and (driverKnown_k0) driverKnown_k1) driverKnown_k2) driverKnown_k3) driverKnown_k4) driverKnown_k5) driverKnown_k6) driverKnown_k7) driverKnown_k8) driverKnown_k9) driverKnown_k10) driverKnown_k11) driverKnown_k12) driverKnown_k13) driverKnown_k14) driverKnown_k15) driverKnown_k16) driverKnown_k17) driverKnown_k18) driverKnown_k19) driverKnown_k20) driverKnown_k21) driverKnown_k22) driverKnown_k23) driverKnown_k24) driverKnown_k25) driverKnown_k26) driverKnown_k27) driverKnown_k28) driverKnown_k29) driverKnown_k30) driverKnown_k31
end Go.Proofs.YtahklkefjlhieaaGreatDoor
