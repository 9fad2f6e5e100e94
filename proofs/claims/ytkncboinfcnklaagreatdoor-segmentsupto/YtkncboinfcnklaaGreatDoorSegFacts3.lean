import Derived.Test.YtkncboinfcnklaaGreatDoorSegFacts2
namespace Go.Proofs.YtkncboinfcnklaaGreatDoor.segs
set_option maxRecDepth 100000
theorem closed : joinedFacts Tryz.prog 4 Tryz.f4 (Rows.OpenSpec.upto Rows.segmentsSpec).bare Rows.segmentsUptoRow = true := by
  unfold joinedFacts
  rw [j1, j2, j3, j4, j5, j6, j7]
  kernel_rfl
end Go.Proofs.YtkncboinfcnklaaGreatDoor.segs
