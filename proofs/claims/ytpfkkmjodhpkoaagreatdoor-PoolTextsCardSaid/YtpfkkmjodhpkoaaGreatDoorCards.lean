/-
  DERIVED. GIVEN WITH THE SEED: THE CARDS: each row of YtpfkkmjodhpkoaaGreatDoorRows.lean that lists a variable, with what it lists TIED to the program's text (the seventh form; the later family's looks); each row that meets fmt, with fmt's text TOLD by the authors' own Lean function (tested against real Go, not proved from fmt's source: count such statements apart). THE CARD IS WHAT COUNTS. Prove the row's statement (the work); the ties are given (YtpfkkmjodhpkoaaGreatDoorTie.lean); close each card by the builder's one call (the guide's Derived/Test/ToyasCard.lean, 'card_holds'). Laid BY PROGRAM, IN A SANDBOX (cutbox-door.mjs). By AI agents, Wed Nov 11 2026. No macro, syntax, notation, axiom, sorry.
-/
import Derived.Test.YtpfkkmjodhpkoaaGreatDoorRows
import GoSem.ClaimSeven
namespace Go.Proofs.YtpfkkmjodhpkoaaGreatDoor
namespace Rows

/-- THE TIED CARD OF 'clewlaw08.PoolTexts'. -/
def poolTextsCard : Claim7 := { stood := { row := poolTextsRow, standIns := [], harness := (true, "4abc5b001ae8d4d40ec08bde93b2253af0e65ab21dec64a4d3d3fc85bb13faab"), looks := false }, kinds := [], alts := [], laidByText := true, laidKinds := [.data, .pinned], laidTests := true, laidLooks := .later }
def PoolTextsCardSaid : Prop := Claim7.holds Tryz.pinned (.plain (OpenSpec.ofChange poolTextsSpec)) poolTextsCard

/-- THE SECOND FORM's CARD OF 'clewlaw08.PoolTexts'. -/
def poolTextsUptoCard : Claim7 := { stood := { row := poolTextsUptoRow, standIns := [], harness := (true, "4abc5b001ae8d4d40ec08bde93b2253af0e65ab21dec64a4d3d3fc85bb13faab"), looks := false }, kinds := [], alts := [], laidByText := true, laidKinds := [.data, .pinned], laidTests := true, laidLooks := .later }
def PoolTextsUptoCardSaid : Prop := Claim7.holds Tryz.pinned (.plain (OpenSpec.upto poolTextsSpec)) poolTextsUptoCard
end Rows
end Go.Proofs.YtpfkkmjodhpkoaaGreatDoor
