import Derived.Test.YtkncboinfcnklaaGreatDoorWrkFacts
namespace Go.Proofs.YtkncboinfcnklaaGreatDoor.wrks
set_option maxRecDepth 100000
theorem j5:(Rows.workersUptoRow.recurses == Tryz.prog.recurses 7)=true:=by kernel_rfl
theorem j6:(Rows.workersUptoRow.named == Tryz.prog.varsNamed 7)=true:=by kernel_rfl
theorem j7:(Rows.workersUptoRow.plainKeys == Tryz.prog.plainKeys)=true:=by kernel_rfl
end Go.Proofs.YtkncboinfcnklaaGreatDoor.wrks
