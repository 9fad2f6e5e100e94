import Derived.Test.YtkncboinfcnklaaGreatDoorFndFacts
namespace Go.Proofs.YtkncboinfcnklaaGreatDoor.fnds
set_option maxRecDepth 100000
theorem j5 : (Rows.foundUptoRow.recurses == Tryz.prog.recurses 9) = true := by kernel_rfl
theorem j6 : (Rows.foundUptoRow.named == Tryz.prog.varsNamed 9) = true := by kernel_rfl
theorem j7 : (Rows.foundUptoRow.plainKeys == Tryz.prog.plainKeys) = true := by kernel_rfl
end Go.Proofs.YtkncboinfcnklaaGreatDoor.fnds

namespace Go.Proofs.YtkncboinfcnklaaGreatDoor.fnds
set_option maxRecDepth 100000
theorem closed : joinedFacts Tryz.prog 9 Tryz.f9 (Rows.OpenSpec.upto Rows.foundSpec).bare Rows.foundUptoRow = true := by
  unfold joinedFacts
  rw [j1, j2, j3, j4, j5, j6, j7]
  kernel_rfl
end Go.Proofs.YtkncboinfcnklaaGreatDoor.fnds
