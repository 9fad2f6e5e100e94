import Derived.Test.YtkncboinfcnklaaGreatDoorRows
import Derived.JoinedCond
import Derived.KernelRfl
set_option maxRecDepth 100000
set_option maxHeartbeats 8000000
namespace Go.Proofs.YtkncboinfcnklaaGreatDoor.tlss
theorem j1:laidOutB Tryz.prog=true:=by kernel_rfl
theorem j2:mapsRowed Tryz.prog=true:=by kernel_rfl
theorem j3:(Rows.tailsUptoRow.inPlace == Tryz.prog.inPlace 8)=true:=by kernel_rfl
theorem j4:(Rows.tailsUptoRow.unfollowed == Tryz.prog.unfollowed 8)=true:=by kernel_rfl
end Go.Proofs.YtkncboinfcnklaaGreatDoor.tlss
