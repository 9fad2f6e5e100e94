import Derived.Test.YtkncboinfcnklaaGreatDoorLgsFacts
namespace Go.Proofs.YtkncboinfcnklaaGreatDoor.lgs
set_option maxRecDepth 100000
theorem j5 : (Rows.logsUptoRow.recurses == Tryz.prog.recurses 6) = true := by kernel_rfl
theorem j6 : (Rows.logsUptoRow.named == Tryz.prog.varsNamed 6) = true := by kernel_rfl
theorem j7 : (Rows.logsUptoRow.plainKeys == Tryz.prog.plainKeys) = true := by kernel_rfl
end Go.Proofs.YtkncboinfcnklaaGreatDoor.lgs
