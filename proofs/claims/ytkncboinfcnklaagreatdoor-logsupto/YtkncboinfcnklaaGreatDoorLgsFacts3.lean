import Derived.Test.YtkncboinfcnklaaGreatDoorLgsFacts2
namespace Go.Proofs.YtkncboinfcnklaaGreatDoor.lgs
set_option maxRecDepth 100000
theorem closed : joinedFacts Tryz.prog 6 Tryz.f6 (Rows.OpenSpec.upto Rows.logsSpec).bare Rows.logsUptoRow = true := by
  unfold joinedFacts
  rw [j1, j2, j3, j4, j5, j6, j7]
  kernel_rfl
end Go.Proofs.YtkncboinfcnklaaGreatDoor.lgs
