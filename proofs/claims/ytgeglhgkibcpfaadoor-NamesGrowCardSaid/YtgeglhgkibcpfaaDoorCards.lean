/-
  DERIVED. GIVEN WITH THE SEED: THE CARDS: each row of YtgeglhgkibcpfaaDoorRows.lean that lists a variable, with what it lists TIED to the program's text (the seventh form; the later family's looks); each row that meets fmt, with fmt's text TOLD by the authors' own Lean function (tested against real Go, not proved from fmt's source: count such statements apart). THE CARD IS WHAT COUNTS. Prove the row's statement (the work); the ties are given (YtgeglhgkibcpfaaDoorTie.lean); close each card by the builder's one call (the guide's Derived/Test/ToyasCard.lean, 'card_holds'). Laid BY PROGRAM, IN A SANDBOX (cutbox-door.mjs). By AI agents, Wed Nov 11 2026. No macro, syntax, notation, axiom, sorry.
-/
import Derived.Test.YtgeglhgkibcpfaaDoorRows
import GoSem.ClaimSeven
namespace Go.Proofs.YtgeglhgkibcpfaaDoor
namespace Rows

/-- THE TIED CARD OF 'clewlaw15.NamesMake'. -/
def namesMakeCard : Claim7 := { stood := { row := namesMakeRow, standIns := [], harness := (true, "09c6a56475130660e15b8b8cb480e7060e4e2855a03ad8259e395021b96cffe3"), looks := false }, kinds := [], alts := [], laidByText := true, laidKinds := [.data], laidTests := true, laidLooks := .later }
def NamesMakeCardSaid : Prop := Claim7.holds Tryd.pinned (.plain (OpenSpec.ofChange namesMakeSpec)) namesMakeCard

/-- THE TIED CARD OF 'clewlaw15.NamesFind'. -/
def namesFindCard : Claim7 := { stood := { row := namesFindRow, standIns := [], harness := (true, "09c6a56475130660e15b8b8cb480e7060e4e2855a03ad8259e395021b96cffe3"), looks := false }, kinds := [], alts := [], laidByText := true, laidKinds := [.data], laidTests := true, laidLooks := .later }
def NamesFindCardSaid : Prop := Claim7.holds Tryd.pinned (.plain (OpenSpec.ofChange namesFindSpec)) namesFindCard

/-- THE TIED CARD OF 'clewlaw15.NamesBack'. -/
def namesBackCard : Claim7 := { stood := { row := namesBackRow, standIns := [], harness := (true, "09c6a56475130660e15b8b8cb480e7060e4e2855a03ad8259e395021b96cffe3"), looks := false }, kinds := [], alts := [], laidByText := true, laidKinds := [.data], laidTests := true, laidLooks := .later }
def NamesBackCardSaid : Prop := Claim7.holds Tryd.pinned (.plain (OpenSpec.ofChange namesBackSpec)) namesBackCard

/-- THE TIED CARD OF 'clewlaw15.NamesWrong'. -/
def namesWrongCard : Claim7 := { stood := { row := namesWrongRow, standIns := [], harness := (true, "09c6a56475130660e15b8b8cb480e7060e4e2855a03ad8259e395021b96cffe3"), looks := false }, kinds := [], alts := [], laidByText := true, laidKinds := [.data], laidTests := true, laidLooks := .later }
def NamesWrongCardSaid : Prop := Claim7.holds Tryd.pinned (.plain (OpenSpec.ofChange namesWrongSpec)) namesWrongCard

/-- THE TIED CARD OF 'clewlaw15.NamesGrow'. -/
def namesGrowCard : Claim7 := { stood := { row := namesGrowRow, standIns := [], harness := (true, "09c6a56475130660e15b8b8cb480e7060e4e2855a03ad8259e395021b96cffe3"), looks := false }, kinds := [], alts := [], laidByText := true, laidKinds := [.data], laidTests := true, laidLooks := .later }
def NamesGrowCardSaid : Prop := Claim7.holds Tryd.pinned (.plain (OpenSpec.ofChange namesGrowSpec)) namesGrowCard

/-- THE SECOND FORM's CARD OF 'clewlaw15.NamesMake'. -/
def namesMakeUptoCard : Claim7 := { stood := { row := namesMakeUptoRow, standIns := [], harness := (true, "09c6a56475130660e15b8b8cb480e7060e4e2855a03ad8259e395021b96cffe3"), looks := false }, kinds := [], alts := [], laidByText := true, laidKinds := [.data], laidTests := true, laidLooks := .later }
def NamesMakeUptoCardSaid : Prop := Claim7.holds Tryd.pinned (.plain (OpenSpec.upto namesMakeSpec)) namesMakeUptoCard

/-- THE SECOND FORM's CARD OF 'clewlaw15.NamesFind'. -/
def namesFindUptoCard : Claim7 := { stood := { row := namesFindUptoRow, standIns := [], harness := (true, "09c6a56475130660e15b8b8cb480e7060e4e2855a03ad8259e395021b96cffe3"), looks := false }, kinds := [], alts := [], laidByText := true, laidKinds := [.data], laidTests := true, laidLooks := .later }
def NamesFindUptoCardSaid : Prop := Claim7.holds Tryd.pinned (.plain (OpenSpec.upto namesFindSpec)) namesFindUptoCard

/-- THE SECOND FORM's CARD OF 'clewlaw15.NamesBack'. -/
def namesBackUptoCard : Claim7 := { stood := { row := namesBackUptoRow, standIns := [], harness := (true, "09c6a56475130660e15b8b8cb480e7060e4e2855a03ad8259e395021b96cffe3"), looks := false }, kinds := [], alts := [], laidByText := true, laidKinds := [.data], laidTests := true, laidLooks := .later }
def NamesBackUptoCardSaid : Prop := Claim7.holds Tryd.pinned (.plain (OpenSpec.upto namesBackSpec)) namesBackUptoCard

/-- THE SECOND FORM's CARD OF 'clewlaw15.NamesWrong'. -/
def namesWrongUptoCard : Claim7 := { stood := { row := namesWrongUptoRow, standIns := [], harness := (true, "09c6a56475130660e15b8b8cb480e7060e4e2855a03ad8259e395021b96cffe3"), looks := false }, kinds := [], alts := [], laidByText := true, laidKinds := [.data], laidTests := true, laidLooks := .later }
def NamesWrongUptoCardSaid : Prop := Claim7.holds Tryd.pinned (.plain (OpenSpec.upto namesWrongSpec)) namesWrongUptoCard

/-- THE SECOND FORM's CARD OF 'clewlaw15.NamesGrow'. -/
def namesGrowUptoCard : Claim7 := { stood := { row := namesGrowUptoRow, standIns := [], harness := (true, "09c6a56475130660e15b8b8cb480e7060e4e2855a03ad8259e395021b96cffe3"), looks := false }, kinds := [], alts := [], laidByText := true, laidKinds := [.data], laidTests := true, laidLooks := .later }
def NamesGrowUptoCardSaid : Prop := Claim7.holds Tryd.pinned (.plain (OpenSpec.upto namesGrowSpec)) namesGrowUptoCard
end Rows
end Go.Proofs.YtgeglhgkibcpfaaDoor
