import Derived.Test.YtkncboinfcnklaaGreatDoorSegFacts
namespace Go.Proofs.YtkncboinfcnklaaGreatDoor.segs
set_option maxRecDepth 100000
theorem j5 : (Rows.segmentsUptoRow.recurses == Tryz.prog.recurses 4) = true := by kernel_rfl
theorem j6 : (Rows.segmentsUptoRow.named == Tryz.prog.varsNamed 4) = true := by kernel_rfl
theorem j7 : (Rows.segmentsUptoRow.plainKeys == Tryz.prog.plainKeys) = true := by kernel_rfl
end Go.Proofs.YtkncboinfcnklaaGreatDoor.segs
