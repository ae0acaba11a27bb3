/-
  DERIVED. GIVEN WITH THE SEED: THE CARDS: each row of YtpichplhidiokabGreatDoorRows.lean that lists a variable, with what it lists TIED to the program's text (the seventh form; the later family's looks); each row that meets fmt, with fmt's text TOLD by the authors' own Lean function (tested against real Go, not proved from fmt's source: count such statements apart). THE CARD IS WHAT COUNTS. Prove the row's statement (the work); the ties are given (YtpichplhidiokabGreatDoorTie.lean); close each card by the builder's one call (the guide's Derived/Test/ToyasCard.lean, 'card_holds'). Laid BY PROGRAM, IN A SANDBOX (cutbox-door.mjs). By AI agents, Wed Nov 11 2026. No macro, syntax, notation, axiom, sorry.
-/
import Derived.Test.YtpichplhidiokabGreatDoorRows
import GoSem.ClaimSeven
namespace Go.Proofs.YtpichplhidiokabGreatDoor
namespace Rows

/-- THE TIED CARD OF 'fenestrakeep.DrawTurns'. -/
def drawTurnsCard : Claim7 := { stood := { row := drawTurnsRow, standIns := [], harness := (true, "c2eb92de70f725c838cdd9fbf1470528b294c356c46383b2fe248139ba706a62"), looks := false }, kinds := [], alts := [], laidByText := true, laidKinds := [.data, .data, .data, .data, .pinned], laidTests := true, laidLooks := .later }
def DrawTurnsCardSaid : Prop := Claim7.holds Tryz.pinned (.plain (OpenSpec.ofChange drawTurnsSpec)) drawTurnsCard

/-- THE TIED CARD OF 'fenestrakeep.DrawAnew'. -/
def drawAnewCard : Claim7 := { stood := { row := drawAnewRow, standIns := [], harness := (true, "c2eb92de70f725c838cdd9fbf1470528b294c356c46383b2fe248139ba706a62"), looks := false }, kinds := [], alts := [], laidByText := true, laidKinds := [.data, .data, .data, .data, .pinned], laidTests := true, laidLooks := .later }
def DrawAnewCardSaid : Prop := Claim7.holds Tryz.pinned (.plain (OpenSpec.ofChange drawAnewSpec)) drawAnewCard

/-- THE SECOND FORM's CARD OF 'fenestrakeep.DrawTurns'. -/
def drawTurnsUptoCard : Claim7 := { stood := { row := drawTurnsUptoRow, standIns := [], harness := (true, "c2eb92de70f725c838cdd9fbf1470528b294c356c46383b2fe248139ba706a62"), looks := false }, kinds := [], alts := [], laidByText := true, laidKinds := [.data, .data, .data, .data, .pinned], laidTests := true, laidLooks := .later }
def DrawTurnsUptoCardSaid : Prop := Claim7.holds Tryz.pinned (.plain (OpenSpec.upto drawTurnsSpec)) drawTurnsUptoCard

/-- THE SECOND FORM's CARD OF 'fenestrakeep.DrawAnew'. -/
def drawAnewUptoCard : Claim7 := { stood := { row := drawAnewUptoRow, standIns := [], harness := (true, "c2eb92de70f725c838cdd9fbf1470528b294c356c46383b2fe248139ba706a62"), looks := false }, kinds := [], alts := [], laidByText := true, laidKinds := [.data, .data, .data, .data, .pinned], laidTests := true, laidLooks := .later }
def DrawAnewUptoCardSaid : Prop := Claim7.holds Tryz.pinned (.plain (OpenSpec.upto drawAnewSpec)) drawAnewUptoCard
end Rows
end Go.Proofs.YtpichplhidiokabGreatDoor
