import Derived.Test.YtkncboinfcnklaaGreatDoorRows
import Derived.JoinedCond
import Derived.KernelRfl
namespace Go.Proofs.YtkncboinfcnklaaGreatDoor.disks
set_option maxRecDepth 100000
theorem j1 : laidOutB Tryz.prog = true := by kernel_rfl
theorem j2 : mapsRowed Tryz.prog = true := by kernel_rfl
theorem j3 : (Rows.disksUptoRow.inPlace == Tryz.prog.inPlace 5) = true := by kernel_rfl
theorem j4 : (Rows.disksUptoRow.unfollowed == Tryz.prog.unfollowed 5) = true := by kernel_rfl
end Go.Proofs.YtkncboinfcnklaaGreatDoor.disks
