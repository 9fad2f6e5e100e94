import Derived.Test.YtkncboinfcnklaaGreatDoorTlsFacts2
set_option maxRecDepth 100000
set_option maxHeartbeats 8000000
namespace Go.Proofs.YtkncboinfcnklaaGreatDoor.tlss
theorem closed:joinedFacts Tryz.prog 8 Tryz.f8 (Rows.OpenSpec.upto Rows.tailsSpec).bare Rows.tailsUptoRow=true:=by
 unfold joinedFacts;rw[j1,j2,j3,j4,j5,j6,j7];kernel_rfl
end Go.Proofs.YtkncboinfcnklaaGreatDoor.tlss
