/-
  No cell of these rows narrows 'for every input' (looked for: loops, veiled, ifaces, maps, wideKeys, modest, calm, conditions, laid).
  DERIVED. THE GIVEN ROWS OF THIS SEAT. 6 by the template 'for every input the law returns true; each argument reads behind the call as it read before'; 0 by the template 'total and deterministic' (their statements: YtdolmhnajofkoaaTotals.lean).
  GIVEN WITH THE SEED: the statements are not yours to turn. If you find one false, say at which input.
  Laid BY PROGRAM, IN A SANDBOX (cutbox-rows.mjs): the forced cells as the released guide's own fill.sh prints them over the translation 69948a5ffcbd1e05… (all of the seat's roots in one cut). By AI agents, Wed Nov 11 2026. No macro, syntax, notation, axiom, sorry.
-/
import Derived.Test.YtdolmhnajofkoaaChecked
import GoSem.Claim
import GoSem.ClaimJoined
import GoSem.ClaimMapViews
import Derived.JoinedTies
import Derived.KernelRfl
namespace Go.Proofs.Ytdolmhnajofkoaa
/- THE CELL 'sum', in the pinned program and in every row, IS THE sha256 OF THE DUMP (.gsa) THAT YtdolmhnajofkoaaProg.lean LOADS. Nothing in Lean hashes anything: it is a label: what it is worth is what the hold of that sum in a sandbox is worth. -/
noncomputable def Try.pinned : Pinned := { name := "ytdolmhnajofkoaa", sum := "69948a5ffcbd1e050b524b466961335d5e401cac0f834c0f7fabe64c96e68902", checked := Try.checked }
namespace Rows
def none {H : Type} : Left H := { results := [], args := [] }

/-- 'clewlaw06.AlphaCodes': WHATEVER THE INPUT: true; the input reads as it did. -/
def alphaCodesSpec : ChangeSpec := { name := "alphaCodes", fn := fun _ => fun
  | [d] => { results := [.lit (.bool true)], args := [d] }
  | _ => none }
def alphaCodesRow : OpenClaim := { program := "ytdolmhnajofkoaa", sum := "69948a5ffcbd1e050b524b466961335d5e401cac0f834c0f7fabe64c96e68902", func := "clew/clewlaw06.AlphaCodes", spec := "alphaCodes", unfollowed := true, recurses := true, apart := false }
def AlphaCodesSaid : Prop := alphaCodesRow.holds Try.pinned (OpenSpec.ofChange alphaCodesSpec)

/-- ITS FALSE NEIGHBOUR: 'it returns false'. Refute it at one input. -/
def alphaCodesWrong : ChangeSpec := { name := "alphaCodes", fn := fun _ => fun
  | [d] => { results := [.lit (.bool false)], args := [d] }
  | _ => none }
def AlphaCodesWrongFalsely : Prop := alphaCodesRow.holds Try.pinned (OpenSpec.ofChange alphaCodesWrong)

/-- 'clewlaw06.AlphaTexts': WHATEVER THE INPUT: true; the input reads as it did. -/
def alphaTextsSpec : ChangeSpec := { name := "alphaTexts", fn := fun _ => fun
  | [d] => { results := [.lit (.bool true)], args := [d] }
  | _ => none }
def alphaTextsRow : OpenClaim := { program := "ytdolmhnajofkoaa", sum := "69948a5ffcbd1e050b524b466961335d5e401cac0f834c0f7fabe64c96e68902", func := "clew/clewlaw06.AlphaTexts", spec := "alphaTexts", unfollowed := true, recurses := true, apart := false }
def AlphaTextsSaid : Prop := alphaTextsRow.holds Try.pinned (OpenSpec.ofChange alphaTextsSpec)

/-- ITS FALSE NEIGHBOUR: 'it returns false'. Refute it at one input. -/
def alphaTextsWrong : ChangeSpec := { name := "alphaTexts", fn := fun _ => fun
  | [d] => { results := [.lit (.bool false)], args := [d] }
  | _ => none }
def AlphaTextsWrongFalsely : Prop := alphaTextsRow.holds Try.pinned (OpenSpec.ofChange alphaTextsWrong)

/-- 'clewlaw06.AlphaPacks': WHATEVER THE INPUT: true; the input reads as it did. -/
def alphaPacksSpec : ChangeSpec := { name := "alphaPacks", fn := fun _ => fun
  | [d1, d2] => { results := [.lit (.bool true)], args := [d1, d2] }
  | _ => none }
def alphaPacksRow : OpenClaim := { program := "ytdolmhnajofkoaa", sum := "69948a5ffcbd1e050b524b466961335d5e401cac0f834c0f7fabe64c96e68902", func := "clew/clewlaw06.AlphaPacks", spec := "alphaPacks", unfollowed := true, recurses := true, apart := false }
def AlphaPacksSaid : Prop := alphaPacksRow.holds Try.pinned (OpenSpec.ofChange alphaPacksSpec)

/-- ITS FALSE NEIGHBOUR: 'it returns false'. Refute it at one input. -/
def alphaPacksWrong : ChangeSpec := { name := "alphaPacks", fn := fun _ => fun
  | [d1, d2] => { results := [.lit (.bool false)], args := [d1, d2] }
  | _ => none }
def AlphaPacksWrongFalsely : Prop := alphaPacksRow.holds Try.pinned (OpenSpec.ofChange alphaPacksWrong)

/-- 'clewlaw06.AlphaBack': WHATEVER THE INPUT: true; the input reads as it did. -/
def alphaBackSpec : ChangeSpec := { name := "alphaBack", fn := fun _ => fun
  | [d1, d2] => { results := [.lit (.bool true)], args := [d1, d2] }
  | _ => none }
def alphaBackRow : OpenClaim := { program := "ytdolmhnajofkoaa", sum := "69948a5ffcbd1e050b524b466961335d5e401cac0f834c0f7fabe64c96e68902", func := "clew/clewlaw06.AlphaBack", spec := "alphaBack", unfollowed := true, recurses := true, apart := false }
def AlphaBackSaid : Prop := alphaBackRow.holds Try.pinned (OpenSpec.ofChange alphaBackSpec)

/-- ITS FALSE NEIGHBOUR: 'it returns false'. Refute it at one input. -/
def alphaBackWrong : ChangeSpec := { name := "alphaBack", fn := fun _ => fun
  | [d1, d2] => { results := [.lit (.bool false)], args := [d1, d2] }
  | _ => none }
def AlphaBackWrongFalsely : Prop := alphaBackRow.holds Try.pinned (OpenSpec.ofChange alphaBackWrong)

/-- 'clewlaw06.AlphaRound': WHATEVER THE INPUT: true; the input reads as it did. -/
def alphaRoundSpec : ChangeSpec := { name := "alphaRound", fn := fun _ => fun
  | [d1, d2] => { results := [.lit (.bool true)], args := [d1, d2] }
  | _ => none }
def alphaRoundRow : OpenClaim := { program := "ytdolmhnajofkoaa", sum := "69948a5ffcbd1e050b524b466961335d5e401cac0f834c0f7fabe64c96e68902", func := "clew/clewlaw06.AlphaRound", spec := "alphaRound", unfollowed := true, recurses := true, apart := false }
def AlphaRoundSaid : Prop := alphaRoundRow.holds Try.pinned (OpenSpec.ofChange alphaRoundSpec)

/-- ITS FALSE NEIGHBOUR: 'it returns false'. Refute it at one input. -/
def alphaRoundWrong : ChangeSpec := { name := "alphaRound", fn := fun _ => fun
  | [d1, d2] => { results := [.lit (.bool false)], args := [d1, d2] }
  | _ => none }
def AlphaRoundWrongFalsely : Prop := alphaRoundRow.holds Try.pinned (OpenSpec.ofChange alphaRoundWrong)

/-- 'clewlaw06.AlphaJoins': WHATEVER THE INPUT: true; the input reads as it did. -/
def alphaJoinsSpec : ChangeSpec := { name := "alphaJoins", fn := fun _ => fun
  | [d1, d2] => { results := [.lit (.bool true)], args := [d1, d2] }
  | _ => none }
def alphaJoinsRow : OpenClaim := { program := "ytdolmhnajofkoaa", sum := "69948a5ffcbd1e050b524b466961335d5e401cac0f834c0f7fabe64c96e68902", func := "clew/clewlaw06.AlphaJoins", spec := "alphaJoins", unfollowed := true, recurses := true, apart := false }
def AlphaJoinsSaid : Prop := alphaJoinsRow.holds Try.pinned (OpenSpec.ofChange alphaJoinsSpec)

/-- ITS FALSE NEIGHBOUR: 'it returns false'. Refute it at one input. -/
def alphaJoinsWrong : ChangeSpec := { name := "alphaJoins", fn := fun _ => fun
  | [d1, d2] => { results := [.lit (.bool false)], args := [d1, d2] }
  | _ => none }
def AlphaJoinsWrongFalsely : Prop := alphaJoinsRow.holds Try.pinned (OpenSpec.ofChange alphaJoinsWrong)

/- THE SECOND FORM. 'bulk': how many values and letters a reading holds, each counted each time it is reached (what is shared counts as often as it is met; a slice's spare places count too). A statement '..UptoSaid' is the law's where the arguments, and the package variables that the reading takes, are together of bulk at most 1048576: NARROWER than '..Said'. Prove '..Said' where nothing that the law and all that it calls make is longer than what came in: it says more and counts as full. Else prove '..UptoSaid'. A law counts once. -/
mutual
def uptoBulk {H : Type} : DataW H → Nat
  | .lit (.string bytes) => bytes.length + 1
  | .lit _ => 1
  | .nil => 1
  | .ptr d => uptoBulk d + 1
  | .slice elems spare => uptoBulkAll elems + uptoBulkAll spare + 1
  | .agg parts => uptoBulkAll parts + 1
  | .iface _ d => uptoBulk d + 1
  | .map entries => uptoBulkEntries entries + 1
  | .held _ => 1
def uptoBulkAll {H : Type} : List (DataW H) → Nat
  | [] => 0
  | d :: r => uptoBulk d + uptoBulkAll r
def uptoBulkEntries {H : Type} : List (Lit × DataW H) → Nat
  | [] => 0
  | x :: r => uptoBulkEntry x + uptoBulkEntries r
def uptoBulkEntry {H : Type} : Lit × DataW H → Nat
  | (.string bytes, d) => bytes.length + uptoBulk d + 1
  | (_, d) => uptoBulk d + 1
 end
def uptoSmall : (H : Type) → List (DataW H) → Bool := fun _ ds => decide (uptoBulkAll ds ≤ 1048576)
def OpenSpec.upto (s : _root_.Go.ChangeSpec) : _root_.Go.OpenSpec := { _root_.Go.OpenSpec.ofChange s with cond := some uptoSmall }

/-- 'clewlaw06.AlphaCodes', WHERE WHAT IT READS IS OF BULK AT MOST 1048576: true; the input reads as it did. -/
def alphaCodesUptoRow : OpenClaim := { program := "ytdolmhnajofkoaa", sum := "69948a5ffcbd1e050b524b466961335d5e401cac0f834c0f7fabe64c96e68902", func := "clew/clewlaw06.AlphaCodes", spec := "alphaCodes", unfollowed := true, recurses := true, apart := false, narrowed := true }
def AlphaCodesUptoSaid : Prop := alphaCodesUptoRow.holds Try.pinned (OpenSpec.upto alphaCodesSpec)

/-- 'clewlaw06.AlphaTexts', WHERE WHAT IT READS IS OF BULK AT MOST 1048576: true; the input reads as it did. -/
def alphaTextsUptoRow : OpenClaim := { program := "ytdolmhnajofkoaa", sum := "69948a5ffcbd1e050b524b466961335d5e401cac0f834c0f7fabe64c96e68902", func := "clew/clewlaw06.AlphaTexts", spec := "alphaTexts", unfollowed := true, recurses := true, apart := false, narrowed := true }
def AlphaTextsUptoSaid : Prop := alphaTextsUptoRow.holds Try.pinned (OpenSpec.upto alphaTextsSpec)

/-- 'clewlaw06.AlphaPacks', WHERE WHAT IT READS IS OF BULK AT MOST 1048576: true; the input reads as it did. -/
def alphaPacksUptoRow : OpenClaim := { program := "ytdolmhnajofkoaa", sum := "69948a5ffcbd1e050b524b466961335d5e401cac0f834c0f7fabe64c96e68902", func := "clew/clewlaw06.AlphaPacks", spec := "alphaPacks", unfollowed := true, recurses := true, apart := false, narrowed := true }
def AlphaPacksUptoSaid : Prop := alphaPacksUptoRow.holds Try.pinned (OpenSpec.upto alphaPacksSpec)

/-- 'clewlaw06.AlphaBack', WHERE WHAT IT READS IS OF BULK AT MOST 1048576: true; the input reads as it did. -/
def alphaBackUptoRow : OpenClaim := { program := "ytdolmhnajofkoaa", sum := "69948a5ffcbd1e050b524b466961335d5e401cac0f834c0f7fabe64c96e68902", func := "clew/clewlaw06.AlphaBack", spec := "alphaBack", unfollowed := true, recurses := true, apart := false, narrowed := true }
def AlphaBackUptoSaid : Prop := alphaBackUptoRow.holds Try.pinned (OpenSpec.upto alphaBackSpec)

/-- 'clewlaw06.AlphaRound', WHERE WHAT IT READS IS OF BULK AT MOST 1048576: true; the input reads as it did. -/
def alphaRoundUptoRow : OpenClaim := { program := "ytdolmhnajofkoaa", sum := "69948a5ffcbd1e050b524b466961335d5e401cac0f834c0f7fabe64c96e68902", func := "clew/clewlaw06.AlphaRound", spec := "alphaRound", unfollowed := true, recurses := true, apart := false, narrowed := true }
def AlphaRoundUptoSaid : Prop := alphaRoundUptoRow.holds Try.pinned (OpenSpec.upto alphaRoundSpec)

/-- 'clewlaw06.AlphaJoins', WHERE WHAT IT READS IS OF BULK AT MOST 1048576: true; the input reads as it did. -/
def alphaJoinsUptoRow : OpenClaim := { program := "ytdolmhnajofkoaa", sum := "69948a5ffcbd1e050b524b466961335d5e401cac0f834c0f7fabe64c96e68902", func := "clew/clewlaw06.AlphaJoins", spec := "alphaJoins", unfollowed := true, recurses := true, apart := false, narrowed := true }
def AlphaJoinsUptoSaid : Prop := alphaJoinsUptoRow.holds Try.pinned (OpenSpec.upto alphaJoinsSpec)

end Rows
end Go.Proofs.Ytdolmhnajofkoaa
