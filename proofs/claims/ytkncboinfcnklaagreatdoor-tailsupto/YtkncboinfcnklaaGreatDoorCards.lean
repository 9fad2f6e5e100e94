/-
  DERIVED. GIVEN WITH THE SEED: THE CARDS: each row of YtkncboinfcnklaaGreatDoorRows.lean that lists a variable, with what it lists TIED to the program's text (the seventh form; the later family's looks); each row that meets fmt, with fmt's text TOLD by the authors' own Lean function (tested against real Go, not proved from fmt's source: count such statements apart). THE CARD IS WHAT COUNTS. Prove the row's statement (the work); the ties are given (YtkncboinfcnklaaGreatDoorTie.lean); close each card by the builder's one call (the guide's Derived/Test/ToyasCard.lean, 'card_holds'). Laid BY PROGRAM, IN A SANDBOX (cutbox-door.mjs). By AI agents, Wed Nov 11 2026. No macro, syntax, notation, axiom, sorry.
-/
import Derived.Test.YtkncboinfcnklaaGreatDoorRows
import GoSem.ClaimSeven
namespace Go.Proofs.YtkncboinfcnklaaGreatDoor
namespace Rows

/-- THE TIED CARD OF 'almanaclaw.Lists'. -/
def listsCard : Claim7 := { stood := { row := listsRow, standIns := [], harness := (true, "2da0f0eb8a86b9130dfbbac48ed8147a0213b2cfe382e5983747477b9389b4a5"), looks := true }, kinds := [], alts := [], laidByText := true, laidKinds := [.data, .data, .data, .sentinel, .sentinel, .listed, .data], laidTests := true, laidLooks := .later }
def ListsCardSaid : Prop := Claim7.holds Tryz.pinned (.plain (OpenSpec.ofChange listsSpec)) listsCard

/-- THE TIED CARD OF 'almanaclaw.Segments'. -/
def segmentsCard : Claim7 := { stood := { row := segmentsRow, standIns := [], harness := (true, "2da0f0eb8a86b9130dfbbac48ed8147a0213b2cfe382e5983747477b9389b4a5"), looks := true }, kinds := [], alts := [], laidByText := true, laidKinds := [.data, .data, .data, .sentinel, .sentinel, .listed, .data], laidTests := true, laidLooks := .later }
def SegmentsCardSaid : Prop := Claim7.holds Tryz.pinned (.plain (OpenSpec.ofChange segmentsSpec)) segmentsCard

/-- THE TIED CARD OF 'almanaclaw.Disks'. -/
def disksCard : Claim7 := { stood := { row := disksRow, standIns := [], harness := (true, "2da0f0eb8a86b9130dfbbac48ed8147a0213b2cfe382e5983747477b9389b4a5"), looks := true }, kinds := [], alts := [], laidByText := true, laidKinds := [.data, .data, .data, .sentinel, .sentinel, .listed, .data], laidTests := true, laidLooks := .later }
def DisksCardSaid : Prop := Claim7.holds Tryz.pinned (.plain (OpenSpec.ofChange disksSpec)) disksCard

/-- THE TIED CARD OF 'almanaclaw.Logs'. -/
def logsCard : Claim7 := { stood := { row := logsRow, standIns := [], harness := (true, "2da0f0eb8a86b9130dfbbac48ed8147a0213b2cfe382e5983747477b9389b4a5"), looks := true }, kinds := [], alts := [], laidByText := true, laidKinds := [.data, .data, .data, .sentinel, .sentinel, .listed, .data], laidTests := true, laidLooks := .later }
def LogsCardSaid : Prop := Claim7.holds Tryz.pinned (.plain (OpenSpec.ofChange logsSpec)) logsCard

/-- THE TIED CARD OF 'almanaclaw.Workers'. -/
def workersCard : Claim7 := { stood := { row := workersRow, standIns := [], harness := (true, "2da0f0eb8a86b9130dfbbac48ed8147a0213b2cfe382e5983747477b9389b4a5"), looks := true }, kinds := [], alts := [], laidByText := true, laidKinds := [.data, .data, .data, .sentinel, .sentinel, .listed, .data], laidTests := true, laidLooks := .later }
def WorkersCardSaid : Prop := Claim7.holds Tryz.pinned (.plain (OpenSpec.ofChange workersSpec)) workersCard

/-- THE TIED CARD OF 'almanaclaw.Tails'. -/
def tailsCard : Claim7 := { stood := { row := tailsRow, standIns := [], harness := (true, "2da0f0eb8a86b9130dfbbac48ed8147a0213b2cfe382e5983747477b9389b4a5"), looks := true }, kinds := [], alts := [], laidByText := true, laidKinds := [.data, .data, .data, .sentinel, .sentinel, .listed, .data], laidTests := true, laidLooks := .later }
def TailsCardSaid : Prop := Claim7.holds Tryz.pinned (.plain (OpenSpec.ofChange tailsSpec)) tailsCard

/-- THE TIED CARD OF 'almanackeep.Found'. -/
def foundCard : Claim7 := { stood := { row := foundRow, standIns := [], harness := (true, "2da0f0eb8a86b9130dfbbac48ed8147a0213b2cfe382e5983747477b9389b4a5"), looks := true }, kinds := [], alts := [], laidByText := true, laidKinds := [.data, .data, .data, .sentinel, .sentinel, .listed, .data], laidTests := true, laidLooks := .later }
def FoundCardSaid : Prop := Claim7.holds Tryz.pinned (.plain (OpenSpec.ofChange foundSpec)) foundCard

/-- THE TIED CARD OF 'almanackeep.Gapless'. -/
def gaplessCard : Claim7 := { stood := { row := gaplessRow, standIns := [], harness := (true, "2da0f0eb8a86b9130dfbbac48ed8147a0213b2cfe382e5983747477b9389b4a5"), looks := true }, kinds := [], alts := [], laidByText := true, laidKinds := [.data, .data, .data, .sentinel, .sentinel, .listed, .data], laidTests := true, laidLooks := .later }
def GaplessCardSaid : Prop := Claim7.holds Tryz.pinned (.plain (OpenSpec.ofChange gaplessSpec)) gaplessCard

/-- THE TIED CARD OF 'almanackeep.Rest'. -/
def restCard : Claim7 := { stood := { row := restRow, standIns := [], harness := (true, "2da0f0eb8a86b9130dfbbac48ed8147a0213b2cfe382e5983747477b9389b4a5"), looks := true }, kinds := [], alts := [], laidByText := true, laidKinds := [.data, .data, .data, .sentinel, .sentinel, .listed, .data], laidTests := true, laidLooks := .later }
def RestCardSaid : Prop := Claim7.holds Tryz.pinned (.plain (OpenSpec.ofChange restSpec)) restCard

/-- THE SECOND FORM's CARD OF 'almanaclaw.Lists'. -/
def listsUptoCard : Claim7 := { stood := { row := listsUptoRow, standIns := [], harness := (true, "2da0f0eb8a86b9130dfbbac48ed8147a0213b2cfe382e5983747477b9389b4a5"), looks := true }, kinds := [], alts := [], laidByText := true, laidKinds := [.data, .data, .data, .sentinel, .sentinel, .listed, .data], laidTests := true, laidLooks := .later }
def ListsUptoCardSaid : Prop := Claim7.holds Tryz.pinned (.plain (OpenSpec.upto listsSpec)) listsUptoCard

/-- THE SECOND FORM's CARD OF 'almanaclaw.Segments'. -/
def segmentsUptoCard : Claim7 := { stood := { row := segmentsUptoRow, standIns := [], harness := (true, "2da0f0eb8a86b9130dfbbac48ed8147a0213b2cfe382e5983747477b9389b4a5"), looks := true }, kinds := [], alts := [], laidByText := true, laidKinds := [.data, .data, .data, .sentinel, .sentinel, .listed, .data], laidTests := true, laidLooks := .later }
def SegmentsUptoCardSaid : Prop := Claim7.holds Tryz.pinned (.plain (OpenSpec.upto segmentsSpec)) segmentsUptoCard

/-- THE SECOND FORM's CARD OF 'almanaclaw.Disks'. -/
def disksUptoCard : Claim7 := { stood := { row := disksUptoRow, standIns := [], harness := (true, "2da0f0eb8a86b9130dfbbac48ed8147a0213b2cfe382e5983747477b9389b4a5"), looks := true }, kinds := [], alts := [], laidByText := true, laidKinds := [.data, .data, .data, .sentinel, .sentinel, .listed, .data], laidTests := true, laidLooks := .later }
def DisksUptoCardSaid : Prop := Claim7.holds Tryz.pinned (.plain (OpenSpec.upto disksSpec)) disksUptoCard

/-- THE SECOND FORM's CARD OF 'almanaclaw.Logs'. -/
def logsUptoCard : Claim7 := { stood := { row := logsUptoRow, standIns := [], harness := (true, "2da0f0eb8a86b9130dfbbac48ed8147a0213b2cfe382e5983747477b9389b4a5"), looks := true }, kinds := [], alts := [], laidByText := true, laidKinds := [.data, .data, .data, .sentinel, .sentinel, .listed, .data], laidTests := true, laidLooks := .later }
def LogsUptoCardSaid : Prop := Claim7.holds Tryz.pinned (.plain (OpenSpec.upto logsSpec)) logsUptoCard

/-- THE SECOND FORM's CARD OF 'almanaclaw.Workers'. -/
def workersUptoCard : Claim7 := { stood := { row := workersUptoRow, standIns := [], harness := (true, "2da0f0eb8a86b9130dfbbac48ed8147a0213b2cfe382e5983747477b9389b4a5"), looks := true }, kinds := [], alts := [], laidByText := true, laidKinds := [.data, .data, .data, .sentinel, .sentinel, .listed, .data], laidTests := true, laidLooks := .later }
def WorkersUptoCardSaid : Prop := Claim7.holds Tryz.pinned (.plain (OpenSpec.upto workersSpec)) workersUptoCard

/-- THE SECOND FORM's CARD OF 'almanaclaw.Tails'. -/
def tailsUptoCard : Claim7 := { stood := { row := tailsUptoRow, standIns := [], harness := (true, "2da0f0eb8a86b9130dfbbac48ed8147a0213b2cfe382e5983747477b9389b4a5"), looks := true }, kinds := [], alts := [], laidByText := true, laidKinds := [.data, .data, .data, .sentinel, .sentinel, .listed, .data], laidTests := true, laidLooks := .later }
def TailsUptoCardSaid : Prop := Claim7.holds Tryz.pinned (.plain (OpenSpec.upto tailsSpec)) tailsUptoCard

/-- THE SECOND FORM's CARD OF 'almanackeep.Found'. -/
def foundUptoCard : Claim7 := { stood := { row := foundUptoRow, standIns := [], harness := (true, "2da0f0eb8a86b9130dfbbac48ed8147a0213b2cfe382e5983747477b9389b4a5"), looks := true }, kinds := [], alts := [], laidByText := true, laidKinds := [.data, .data, .data, .sentinel, .sentinel, .listed, .data], laidTests := true, laidLooks := .later }
def FoundUptoCardSaid : Prop := Claim7.holds Tryz.pinned (.plain (OpenSpec.upto foundSpec)) foundUptoCard

/-- THE SECOND FORM's CARD OF 'almanackeep.Gapless'. -/
def gaplessUptoCard : Claim7 := { stood := { row := gaplessUptoRow, standIns := [], harness := (true, "2da0f0eb8a86b9130dfbbac48ed8147a0213b2cfe382e5983747477b9389b4a5"), looks := true }, kinds := [], alts := [], laidByText := true, laidKinds := [.data, .data, .data, .sentinel, .sentinel, .listed, .data], laidTests := true, laidLooks := .later }
def GaplessUptoCardSaid : Prop := Claim7.holds Tryz.pinned (.plain (OpenSpec.upto gaplessSpec)) gaplessUptoCard

/-- THE SECOND FORM's CARD OF 'almanackeep.Rest'. -/
def restUptoCard : Claim7 := { stood := { row := restUptoRow, standIns := [], harness := (true, "2da0f0eb8a86b9130dfbbac48ed8147a0213b2cfe382e5983747477b9389b4a5"), looks := true }, kinds := [], alts := [], laidByText := true, laidKinds := [.data, .data, .data, .sentinel, .sentinel, .listed, .data], laidTests := true, laidLooks := .later }
def RestUptoCardSaid : Prop := Claim7.holds Tryz.pinned (.plain (OpenSpec.upto restSpec)) restUptoCard
end Rows
end Go.Proofs.YtkncboinfcnklaaGreatDoor
