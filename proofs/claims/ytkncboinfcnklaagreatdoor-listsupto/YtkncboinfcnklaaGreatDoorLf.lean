import Derived.Test.YtkncboinfcnklaaGreatDoorLstFacts
namespace Go.Proofs.YtkncboinfcnklaaGreatDoor.lsts
set_option maxRecDepth 100000
theorem j5 : (Rows.listsUptoRow.recurses == Tryz.prog.recurses 3) = true := by kernel_rfl
theorem j6 : (Rows.listsUptoRow.named == Tryz.prog.varsNamed 3) = true := by kernel_rfl
theorem j7 : (Rows.listsUptoRow.plainKeys == Tryz.prog.plainKeys) = true := by kernel_rfl
end Go.Proofs.YtkncboinfcnklaaGreatDoor.lsts

namespace Go.Proofs.YtkncboinfcnklaaGreatDoor.lsts
set_option maxRecDepth 100000
theorem closed : joinedFacts Tryz.prog 3 Tryz.f3 (Rows.OpenSpec.upto Rows.listsSpec).bare Rows.listsUptoRow = true := by
  unfold joinedFacts
  rw [j1, j2, j3, j4, j5, j6, j7]
  kernel_rfl
end Go.Proofs.YtkncboinfcnklaaGreatDoor.lsts
