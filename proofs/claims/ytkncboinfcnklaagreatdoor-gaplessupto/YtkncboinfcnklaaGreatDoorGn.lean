import Derived.Test.YtkncboinfcnklaaGreatDoorGapFacts
namespace Go.Proofs.YtkncboinfcnklaaGreatDoor.gaps
set_option maxRecDepth 100000
theorem j5 : (Rows.gaplessUptoRow.recurses == Tryz.prog.recurses 10) = true := by kernel_rfl
theorem j6 : (Rows.gaplessUptoRow.named == Tryz.prog.varsNamed 10) = true := by kernel_rfl
theorem j7 : (Rows.gaplessUptoRow.plainKeys == Tryz.prog.plainKeys) = true := by kernel_rfl
end Go.Proofs.YtkncboinfcnklaaGreatDoor.gaps

namespace Go.Proofs.YtkncboinfcnklaaGreatDoor.gaps
set_option maxRecDepth 100000
theorem closed : joinedFacts Tryz.prog 10 Tryz.f10 (Rows.OpenSpec.upto Rows.gaplessSpec).bare Rows.gaplessUptoRow = true := by
  unfold joinedFacts
  rw [j1, j2, j3, j4, j5, j6, j7]
  kernel_rfl
end Go.Proofs.YtkncboinfcnklaaGreatDoor.gaps
