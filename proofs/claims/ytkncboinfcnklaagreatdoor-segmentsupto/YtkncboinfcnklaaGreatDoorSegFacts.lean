import Derived.Test.YtkncboinfcnklaaGreatDoorRows
import Derived.JoinedCond
import Derived.KernelRfl
namespace Go.Proofs.YtkncboinfcnklaaGreatDoor.segs
set_option maxRecDepth 100000
theorem j1 : laidOutB Tryz.prog = true := by kernel_rfl
theorem j2 : mapsRowed Tryz.prog = true := by kernel_rfl
theorem j3 : (Rows.segmentsUptoRow.inPlace == Tryz.prog.inPlace 4) = true := by kernel_rfl
theorem j4 : (Rows.segmentsUptoRow.unfollowed == Tryz.prog.unfollowed 4) = true := by kernel_rfl
end Go.Proofs.YtkncboinfcnklaaGreatDoor.segs
