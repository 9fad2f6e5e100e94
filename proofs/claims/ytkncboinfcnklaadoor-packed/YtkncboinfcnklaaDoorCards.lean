/-
  DERIVED. GIVEN WITH THE SEED: THE CARDS: each row of YtkncboinfcnklaaDoorRows.lean that lists a variable, with what it lists TIED to the program's text (the seventh form; the later family's looks); each row that meets fmt, with fmt's text TOLD by the authors' own Lean function (tested against real Go, not proved from fmt's source: count such statements apart). THE CARD IS WHAT COUNTS. Prove the row's statement (the work); the ties are given (YtkncboinfcnklaaDoorTie.lean); close each card by the builder's one call (the guide's Derived/Test/ToyasCard.lean, 'card_holds'). Laid BY PROGRAM, IN A SANDBOX (cutbox-door.mjs). By AI agents, Wed Nov 11 2026. No macro, syntax, notation, axiom, sorry.
-/
import Derived.Test.YtkncboinfcnklaaDoorRows
import GoSem.ClaimSeven
namespace Go.Proofs.YtkncboinfcnklaaDoor
namespace Rows

/-- THE TIED CARD OF 'almanackeep.Packed'. -/
def packedCard : Claim7 := { stood := { row := packedRow, standIns := [], harness := (true, "fbdcb571cbda6b6f63af72c7196453a762a41569d5a6945acb2d610f83d4ca19"), looks := false }, kinds := [], alts := [], laidByText := true, laidKinds := [.listed, .data], laidTests := true, laidLooks := .later }
def PackedCardSaid : Prop := Claim7.holds Tryd.pinned (.plain (OpenSpec.ofChange packedSpec)) packedCard

/-- THE SECOND FORM's CARD OF 'almanackeep.Packed'. -/
def packedUptoCard : Claim7 := { stood := { row := packedUptoRow, standIns := [], harness := (true, "fbdcb571cbda6b6f63af72c7196453a762a41569d5a6945acb2d610f83d4ca19"), looks := false }, kinds := [], alts := [], laidByText := true, laidKinds := [.listed, .data], laidTests := true, laidLooks := .later }
def PackedUptoCardSaid : Prop := Claim7.holds Tryd.pinned (.plain (OpenSpec.upto packedSpec)) packedUptoCard
end Rows
end Go.Proofs.YtkncboinfcnklaaDoor
