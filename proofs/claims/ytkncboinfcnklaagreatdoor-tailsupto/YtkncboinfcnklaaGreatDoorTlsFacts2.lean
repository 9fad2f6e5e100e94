import Derived.Test.YtkncboinfcnklaaGreatDoorTlsFacts
set_option maxRecDepth 100000
set_option maxHeartbeats 8000000
namespace Go.Proofs.YtkncboinfcnklaaGreatDoor.tlss
theorem j5:(Rows.tailsUptoRow.recurses == Tryz.prog.recurses 8)=true:=by kernel_rfl
theorem j6:(Rows.tailsUptoRow.named == Tryz.prog.varsNamed 8)=true:=by kernel_rfl
theorem j7:(Rows.tailsUptoRow.plainKeys == Tryz.prog.plainKeys)=true:=by kernel_rfl
end Go.Proofs.YtkncboinfcnklaaGreatDoor.tlss
