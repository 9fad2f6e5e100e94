import Derived.Test.YtkncboinfcnklaaGreatDoorRstFacts
namespace Go.Proofs.YtkncboinfcnklaaGreatDoor.rsts
set_option maxRecDepth 100000
theorem j5 : (Rows.restUptoRow.recurses == Tryz.prog.recurses 11) = true := by kernel_rfl
theorem j6 : (Rows.restUptoRow.named == Tryz.prog.varsNamed 11) = true := by kernel_rfl
theorem j7 : (Rows.restUptoRow.plainKeys == Tryz.prog.plainKeys) = true := by kernel_rfl
end Go.Proofs.YtkncboinfcnklaaGreatDoor.rsts

namespace Go.Proofs.YtkncboinfcnklaaGreatDoor.rsts
set_option maxRecDepth 100000
theorem closed : joinedFacts Tryz.prog 11 Tryz.f11 (Rows.OpenSpec.upto Rows.restSpec).bare Rows.restUptoRow = true := by
  unfold joinedFacts
  rw [j1, j2, j3, j4, j5, j6, j7]
  kernel_rfl
end Go.Proofs.YtkncboinfcnklaaGreatDoor.rsts
