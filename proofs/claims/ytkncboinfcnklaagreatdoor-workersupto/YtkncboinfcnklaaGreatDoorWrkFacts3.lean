import Derived.Test.YtkncboinfcnklaaGreatDoorWrkFacts2
namespace Go.Proofs.YtkncboinfcnklaaGreatDoor.wrks
set_option maxRecDepth 100000
theorem closed:joinedFacts Tryz.prog 7 Tryz.f7 (Rows.OpenSpec.upto Rows.workersSpec).bare Rows.workersUptoRow=true:=by
 unfold joinedFacts
 rw [j1,j2,j3,j4,j5,j6,j7]
 kernel_rfl
end Go.Proofs.YtkncboinfcnklaaGreatDoor.wrks
