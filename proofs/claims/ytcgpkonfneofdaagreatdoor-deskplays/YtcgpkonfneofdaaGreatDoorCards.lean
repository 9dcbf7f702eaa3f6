/-
  DERIVED. GIVEN WITH THE SEED: THE CARDS: each row of YtcgpkonfneofdaaGreatDoorRows.lean that lists a variable, with what it lists TIED to the program's text (the seventh form; the later family's looks); each row that meets fmt, with fmt's text TOLD by the authors' own Lean function (tested against real Go, not proved from fmt's source: count such statements apart). THE CARD IS WHAT COUNTS. Prove the row's statement (the work); the ties are given (YtcgpkonfneofdaaGreatDoorTie.lean); close each card by the builder's one call (the guide's Derived/Test/ToyasCard.lean, 'card_holds'). Laid BY PROGRAM, IN A SANDBOX (cutbox-door.mjs). By AI agents, Wed Nov 11 2026. No macro, syntax, notation, axiom, sorry.
-/
import Derived.Test.YtcgpkonfneofdaaGreatDoorRows
import GoSem.ClaimSeven
namespace Go.Proofs.YtcgpkonfneofdaaGreatDoor
namespace Rows

/-- THE TIED CARD OF 'marchpastlaw.DeskPlays'. -/
def deskPlaysCard : Claim7 := { stood := { row := deskPlaysRow, standIns := [], harness := (true, "dcab18beaf62a5b6dd9cccdd1b12eb97303b68388c7de6ab0fbb2eb061c25f40"), looks := true }, kinds := [], alts := [], laidByText := true, laidKinds := [.data, .data, .data, .data, .sentinel, .sentinel, .pinned], laidTests := true, laidLooks := .later }
def DeskPlaysCardSaid : Prop := Claim7.holds Tryz.pinned (.plain (OpenSpec.ofChange deskPlaysSpec)) deskPlaysCard

/-- THE TIED CARD OF 'marchpastlaw.DeskSound'. -/
def deskSoundCard : Claim7 := { stood := { row := deskSoundRow, standIns := [], harness := (true, "dcab18beaf62a5b6dd9cccdd1b12eb97303b68388c7de6ab0fbb2eb061c25f40"), looks := true }, kinds := [], alts := [], laidByText := true, laidKinds := [.data, .data, .data, .data, .sentinel, .sentinel, .pinned], laidTests := true, laidLooks := .later }
def DeskSoundCardSaid : Prop := Claim7.holds Tryz.pinned (.plain (OpenSpec.ofChange deskSoundSpec)) deskSoundCard

/-- THE SECOND FORM's CARD OF 'marchpastlaw.DeskPlays'. -/
def deskPlaysUptoCard : Claim7 := { stood := { row := deskPlaysUptoRow, standIns := [], harness := (true, "dcab18beaf62a5b6dd9cccdd1b12eb97303b68388c7de6ab0fbb2eb061c25f40"), looks := true }, kinds := [], alts := [], laidByText := true, laidKinds := [.data, .data, .data, .data, .sentinel, .sentinel, .pinned], laidTests := true, laidLooks := .later }
def DeskPlaysUptoCardSaid : Prop := Claim7.holds Tryz.pinned (.plain (OpenSpec.upto deskPlaysSpec)) deskPlaysUptoCard

/-- THE SECOND FORM's CARD OF 'marchpastlaw.DeskSound'. -/
def deskSoundUptoCard : Claim7 := { stood := { row := deskSoundUptoRow, standIns := [], harness := (true, "dcab18beaf62a5b6dd9cccdd1b12eb97303b68388c7de6ab0fbb2eb061c25f40"), looks := true }, kinds := [], alts := [], laidByText := true, laidKinds := [.data, .data, .data, .data, .sentinel, .sentinel, .pinned], laidTests := true, laidLooks := .later }
def DeskSoundUptoCardSaid : Prop := Claim7.holds Tryz.pinned (.plain (OpenSpec.upto deskSoundSpec)) deskSoundUptoCard
end Rows
end Go.Proofs.YtcgpkonfneofdaaGreatDoor
