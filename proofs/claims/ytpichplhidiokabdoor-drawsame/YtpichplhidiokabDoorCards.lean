/-
  DERIVED. GIVEN WITH THE SEED: THE CARDS: each row of YtpichplhidiokabDoorRows.lean that lists a variable, with what it lists TIED to the program's text (the seventh form; the later family's looks); each row that meets fmt, with fmt's text TOLD by the authors' own Lean function (tested against real Go, not proved from fmt's source: count such statements apart). THE CARD IS WHAT COUNTS. Prove the row's statement (the work); the ties are given (YtpichplhidiokabDoorTie.lean); close each card by the builder's one call (the guide's Derived/Test/ToyasCard.lean, 'card_holds'). Laid BY PROGRAM, IN A SANDBOX (cutbox-door.mjs). By AI agents, Wed Nov 11 2026. No macro, syntax, notation, axiom, sorry.
-/
import Derived.Test.YtpichplhidiokabDoorRows
import GoSem.ClaimSeven
namespace Go.Proofs.YtpichplhidiokabDoor
namespace Rows

/-- THE TIED CARD OF 'fenestrakeep.DrawSame'. -/
def drawSameCard : Claim7 := { stood := { row := drawSameRow, standIns := [], harness := (true, "0499ddbc440093628df0829ef5363db700843fb9fa388d78e7ec678d553cdab5"), looks := false }, kinds := [], alts := [], laidByText := true, laidKinds := [.data, .data, .data, .data, .pinned], laidTests := true, laidLooks := .later }
def DrawSameCardSaid : Prop := Claim7.holds Tryd.pinned (.plain (OpenSpec.ofChange drawSameSpec)) drawSameCard

/-- THE SECOND FORM's CARD OF 'fenestrakeep.DrawSame'. -/
def drawSameUptoCard : Claim7 := { stood := { row := drawSameUptoRow, standIns := [], harness := (true, "0499ddbc440093628df0829ef5363db700843fb9fa388d78e7ec678d553cdab5"), looks := false }, kinds := [], alts := [], laidByText := true, laidKinds := [.data, .data, .data, .data, .pinned], laidTests := true, laidLooks := .later }
def DrawSameUptoCardSaid : Prop := Claim7.holds Tryd.pinned (.plain (OpenSpec.upto drawSameSpec)) drawSameUptoCard
end Rows
end Go.Proofs.YtpichplhidiokabDoor
