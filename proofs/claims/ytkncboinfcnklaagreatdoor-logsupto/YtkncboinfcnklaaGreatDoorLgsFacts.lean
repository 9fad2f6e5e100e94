import Derived.Test.YtkncboinfcnklaaGreatDoorRows
import Derived.JoinedCond
import Derived.KernelRfl
namespace Go.Proofs.YtkncboinfcnklaaGreatDoor.lgs
set_option maxRecDepth 100000
theorem j1 : laidOutB Tryz.prog = true := by kernel_rfl
theorem j2 : mapsRowed Tryz.prog = true := by kernel_rfl
theorem j3 : (Rows.logsUptoRow.inPlace == Tryz.prog.inPlace 6) = true := by kernel_rfl
theorem j4 : (Rows.logsUptoRow.unfollowed == Tryz.prog.unfollowed 6) = true := by kernel_rfl
end Go.Proofs.YtkncboinfcnklaaGreatDoor.lgs
