import Derived.Test.YtkncboinfcnklabGreatDoorKptFacts
namespace Go.Proofs.YtkncboinfcnklabGreatDoor.kpts
set_option maxRecDepth 100000
theorem j5 : (Rows.keptUptoRow.recurses == Tryz.prog.recurses 3) = true := by kernel_rfl
theorem j6 : (Rows.keptUptoRow.named == Tryz.prog.varsNamed 3) = true := by kernel_rfl
theorem j7 : (Rows.keptUptoRow.plainKeys == Tryz.prog.plainKeys) = true := by kernel_rfl
end Go.Proofs.YtkncboinfcnklabGreatDoor.kpts
