import Derived.Test.YtkncboinfcnklabGreatDoorKptFacts2
namespace Go.Proofs.YtkncboinfcnklabGreatDoor.kpts
set_option maxRecDepth 100000
theorem closed : joinedFacts Tryz.prog 3 Tryz.f3 (Rows.OpenSpec.upto Rows.keptSpec).bare Rows.keptUptoRow = true := by
  unfold joinedFacts
  rw [j1, j2, j3, j4, j5, j6, j7]
  kernel_rfl
end Go.Proofs.YtkncboinfcnklabGreatDoor.kpts
