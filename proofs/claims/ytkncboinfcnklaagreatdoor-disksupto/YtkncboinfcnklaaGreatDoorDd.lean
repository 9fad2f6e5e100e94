import Derived.Test.YtkncboinfcnklaaGreatDoorDskFacts
namespace Go.Proofs.YtkncboinfcnklaaGreatDoor.disks
set_option maxRecDepth 100000
theorem j5 : (Rows.disksUptoRow.recurses == Tryz.prog.recurses 5) = true := by kernel_rfl
theorem j6 : (Rows.disksUptoRow.named == Tryz.prog.varsNamed 5) = true := by kernel_rfl
theorem j7 : (Rows.disksUptoRow.plainKeys == Tryz.prog.plainKeys) = true := by kernel_rfl
end Go.Proofs.YtkncboinfcnklaaGreatDoor.disks

namespace Go.Proofs.YtkncboinfcnklaaGreatDoor.disks
set_option maxRecDepth 100000
theorem closed : joinedFacts Tryz.prog 5 Tryz.f5 (Rows.OpenSpec.upto Rows.disksSpec).bare Rows.disksUptoRow = true := by
  unfold joinedFacts
  rw [j1, j2, j3, j4, j5, j6, j7]
  kernel_rfl
end Go.Proofs.YtkncboinfcnklaaGreatDoor.disks
