import Derived.Test.YtkncboinfcnklaaGreatDoorRows
import Derived.JoinedCond
import Derived.KernelRfl
namespace Go.Proofs.YtkncboinfcnklaaGreatDoor.wrks
set_option maxRecDepth 100000
theorem j1:laidOutB Tryz.prog=true:=by kernel_rfl
theorem j2:mapsRowed Tryz.prog=true:=by kernel_rfl
theorem j3:(Rows.workersUptoRow.inPlace == Tryz.prog.inPlace 7)=true:=by kernel_rfl
theorem j4:(Rows.workersUptoRow.unfollowed == Tryz.prog.unfollowed 7)=true:=by kernel_rfl
end Go.Proofs.YtkncboinfcnklaaGreatDoor.wrks
