import Derived.Test.YtkncboinfcnklaaGreatDoorRows
import Derived.JoinedCond
import Derived.KernelRfl
namespace Go.Proofs.YtkncboinfcnklaaGreatDoor.gaps
set_option maxRecDepth 100000
theorem j1 : laidOutB Tryz.prog = true := by kernel_rfl
theorem j2 : mapsRowed Tryz.prog = true := by kernel_rfl
theorem j3 : (Rows.gaplessUptoRow.inPlace == Tryz.prog.inPlace 10) = true := by kernel_rfl
theorem j4 : (Rows.gaplessUptoRow.unfollowed == Tryz.prog.unfollowed 10) = true := by kernel_rfl
end Go.Proofs.YtkncboinfcnklaaGreatDoor.gaps
