import Derived.Test.YtkncboinfcnklaaGreatDoorRows
import Derived.JoinedCond
import Derived.KernelRfl
namespace Go.Proofs.YtkncboinfcnklaaGreatDoor.fnds
set_option maxRecDepth 100000
theorem j1 : laidOutB Tryz.prog = true := by kernel_rfl
theorem j2 : mapsRowed Tryz.prog = true := by kernel_rfl
theorem j3 : (Rows.foundUptoRow.inPlace == Tryz.prog.inPlace 9) = true := by kernel_rfl
theorem j4 : (Rows.foundUptoRow.unfollowed == Tryz.prog.unfollowed 9) = true := by kernel_rfl
end Go.Proofs.YtkncboinfcnklaaGreatDoor.fnds
