/-
  NARROWER THAN 'FOR EVERY INPUT', by the rows' own cells (each row's printed sentence says how): NamesMake: laid · NamesFind: laid · NamesBack: laid · NamesWrong: laid · NamesGrow: laid.
  DERIVED. THE GIVEN ROWS OF THIS SEAT. 5 by the template 'for every input the law returns true; each argument reads behind the call as it read before'; 0 by the template 'total and deterministic' (their statements: YtgeglhgkibcpfaaDoorTotals.lean).
  GIVEN WITH THE SEED: the statements are not yours to turn. If you find one false, say at which input.
  Laid BY PROGRAM, IN A SANDBOX (cutbox-rows.mjs): the forced cells as the released guide's own fill.sh prints them over the translation 88b433772574bc67… (all of the seat's roots in one cut). By AI agents, Wed Nov 11 2026. No macro, syntax, notation, axiom, sorry.
-/
import Derived.Test.YtgeglhgkibcpfaaDoorChecked
import GoSem.Claim
import GoSem.ClaimJoined
import GoSem.ClaimMapViews
import Derived.JoinedTies
import Derived.KernelRfl
namespace Go.Proofs.YtgeglhgkibcpfaaDoor
/- THE CELL 'sum', in the pinned program and in every row, IS THE sha256 OF THE DUMP (.gsa) THAT YtgeglhgkibcpfaaDoorProg.lean LOADS. Nothing in Lean hashes anything: it is a label: what it is worth is what the hold of that sum in a sandbox is worth. -/
noncomputable def Tryd.pinned : Pinned := { name := "ytgeglhgkibcpfaadoor", sum := "88b433772574bc678d0fd78b104016069f6c3fc02e2b1fd07f9b138020f44d5b", checked := Tryd.checked }
namespace Rows
def none {H : Type} : Left H := { results := [], args := [] }

/- WHAT THE LISTED PACKAGE-LEVEL VARIABLES READ AS WHEN THE CALL BEGINS. Each datum BY PROGRAM (the guide's laid-datum.mjs) off the statement by which the dump's own 'gosem.cut.vars' lays the variable. In a bare row this is a premise. The card (YtgeglhgkibcpfaaDoorCards.lean) ties it to the program's text. -/
def laid_clew_names_predefinedFlags {H : Type} : DataW H := .agg [.lit (.string [108, 105, 116]), .lit (.string [111, 112, 101, 110]), .lit (.string [98, 111, 120]), .lit (.string [104, 105, 100, 100, 101, 110])]

/-- 'clewlaw15.NamesMake': WHATEVER THE INPUT: true; the input reads as it did. -/
def namesMakeSpec : ChangeSpec := { name := "namesMake", fn := fun _ => fun
  | [d] => { results := [.lit (.bool true)], args := [d] }
  | _ => none }
def namesMakeRow : OpenClaim := { program := "ytgeglhgkibcpfaadoor", sum := "88b433772574bc678d0fd78b104016069f6c3fc02e2b1fd07f9b138020f44d5b", func := "clew/clewlaw15.NamesMake", spec := "namesMake", inPlace := ["internal/bytealg.abigen_runtime_cmpstring"], unfollowed := true, recurses := true, named := ["clew/names.predefinedFlags"], apart := false, laid := [("clew/names.predefinedFlags", laid_clew_names_predefinedFlags)] }
def NamesMakeSaid : Prop := namesMakeRow.holds Tryd.pinned (OpenSpec.ofChange namesMakeSpec)

/-- ITS FALSE NEIGHBOUR: 'it returns false'. Refute it at one input. -/
def namesMakeWrong : ChangeSpec := { name := "namesMake", fn := fun _ => fun
  | [d] => { results := [.lit (.bool false)], args := [d] }
  | _ => none }
def NamesMakeWrongFalsely : Prop := namesMakeRow.holds Tryd.pinned (OpenSpec.ofChange namesMakeWrong)

/-- 'clewlaw15.NamesFind': WHATEVER THE INPUT: true; the input reads as it did. -/
def namesFindSpec : ChangeSpec := { name := "namesFind", fn := fun _ => fun
  | [d1, d2, d3, d4] => { results := [.lit (.bool true)], args := [d1, d2, d3, d4] }
  | _ => none }
def namesFindRow : OpenClaim := { program := "ytgeglhgkibcpfaadoor", sum := "88b433772574bc678d0fd78b104016069f6c3fc02e2b1fd07f9b138020f44d5b", func := "clew/clewlaw15.NamesFind", spec := "namesFind", inPlace := ["internal/bytealg.abigen_runtime_cmpstring"], unfollowed := true, recurses := true, named := ["clew/names.predefinedFlags"], apart := false, laid := [("clew/names.predefinedFlags", laid_clew_names_predefinedFlags)] }
def NamesFindSaid : Prop := namesFindRow.holds Tryd.pinned (OpenSpec.ofChange namesFindSpec)

/-- ITS FALSE NEIGHBOUR: 'it returns false'. Refute it at one input. -/
def namesFindWrong : ChangeSpec := { name := "namesFind", fn := fun _ => fun
  | [d1, d2, d3, d4] => { results := [.lit (.bool false)], args := [d1, d2, d3, d4] }
  | _ => none }
def NamesFindWrongFalsely : Prop := namesFindRow.holds Tryd.pinned (OpenSpec.ofChange namesFindWrong)

/-- 'clewlaw15.NamesBack': WHATEVER THE INPUT: true; the input reads as it did. -/
def namesBackSpec : ChangeSpec := { name := "namesBack", fn := fun _ => fun
  | [d] => { results := [.lit (.bool true)], args := [d] }
  | _ => none }
def namesBackRow : OpenClaim := { program := "ytgeglhgkibcpfaadoor", sum := "88b433772574bc678d0fd78b104016069f6c3fc02e2b1fd07f9b138020f44d5b", func := "clew/clewlaw15.NamesBack", spec := "namesBack", inPlace := ["internal/bytealg.abigen_runtime_cmpstring"], unfollowed := true, recurses := true, named := ["clew/names.predefinedFlags"], apart := false, laid := [("clew/names.predefinedFlags", laid_clew_names_predefinedFlags)] }
def NamesBackSaid : Prop := namesBackRow.holds Tryd.pinned (OpenSpec.ofChange namesBackSpec)

/-- ITS FALSE NEIGHBOUR: 'it returns false'. Refute it at one input. -/
def namesBackWrong : ChangeSpec := { name := "namesBack", fn := fun _ => fun
  | [d] => { results := [.lit (.bool false)], args := [d] }
  | _ => none }
def NamesBackWrongFalsely : Prop := namesBackRow.holds Tryd.pinned (OpenSpec.ofChange namesBackWrong)

/-- 'clewlaw15.NamesWrong': WHATEVER THE INPUT: true; the input reads as it did. -/
def namesWrongSpec : ChangeSpec := { name := "namesWrong", fn := fun _ => fun
  | [d] => { results := [.lit (.bool true)], args := [d] }
  | _ => none }
def namesWrongRow : OpenClaim := { program := "ytgeglhgkibcpfaadoor", sum := "88b433772574bc678d0fd78b104016069f6c3fc02e2b1fd07f9b138020f44d5b", func := "clew/clewlaw15.NamesWrong", spec := "namesWrong", inPlace := ["internal/bytealg.abigen_runtime_cmpstring"], unfollowed := true, recurses := true, named := ["clew/names.predefinedFlags"], apart := false, laid := [("clew/names.predefinedFlags", laid_clew_names_predefinedFlags)] }
def NamesWrongSaid : Prop := namesWrongRow.holds Tryd.pinned (OpenSpec.ofChange namesWrongSpec)

/-- ITS FALSE NEIGHBOUR: 'it returns false'. Refute it at one input. -/
def namesWrongWrong : ChangeSpec := { name := "namesWrong", fn := fun _ => fun
  | [d] => { results := [.lit (.bool false)], args := [d] }
  | _ => none }
def NamesWrongWrongFalsely : Prop := namesWrongRow.holds Tryd.pinned (OpenSpec.ofChange namesWrongWrong)

/-- 'clewlaw15.NamesGrow': WHATEVER THE INPUT: true; the input reads as it did. -/
def namesGrowSpec : ChangeSpec := { name := "namesGrow", fn := fun _ => fun
  | [d1, d2] => { results := [.lit (.bool true)], args := [d1, d2] }
  | _ => none }
def namesGrowRow : OpenClaim := { program := "ytgeglhgkibcpfaadoor", sum := "88b433772574bc678d0fd78b104016069f6c3fc02e2b1fd07f9b138020f44d5b", func := "clew/clewlaw15.NamesGrow", spec := "namesGrow", inPlace := ["internal/bytealg.abigen_runtime_cmpstring"], unfollowed := true, recurses := true, named := ["clew/names.predefinedFlags"], apart := false, laid := [("clew/names.predefinedFlags", laid_clew_names_predefinedFlags)] }
def NamesGrowSaid : Prop := namesGrowRow.holds Tryd.pinned (OpenSpec.ofChange namesGrowSpec)

/-- ITS FALSE NEIGHBOUR: 'it returns false'. Refute it at one input. -/
def namesGrowWrong : ChangeSpec := { name := "namesGrow", fn := fun _ => fun
  | [d1, d2] => { results := [.lit (.bool false)], args := [d1, d2] }
  | _ => none }
def NamesGrowWrongFalsely : Prop := namesGrowRow.holds Tryd.pinned (OpenSpec.ofChange namesGrowWrong)

/- THE SECOND FORM. 'bulk': how many values and letters a reading holds, each counted each time it is reached (what is shared counts as often as it is met; a slice's spare places count too). A statement '..UptoSaid' is the law's where the arguments, and the package variables that the reading takes, are together of bulk at most 1048576: NARROWER than '..Said'. Prove '..Said' where nothing that the law and all that it calls make is longer than what came in: it says more and counts as full. Else prove '..UptoSaid'. A law counts once. -/
mutual
def uptoBulk {H : Type} : DataW H → Nat
  | .lit (.string bytes) => bytes.length + 1
  | .lit _ => 1
  | .nil => 1
  | .ptr d => uptoBulk d + 1
  | .slice elems spare => uptoBulkAll elems + uptoBulkAll spare + 1
  | .agg parts => uptoBulkAll parts + 1
  | .iface _ d => uptoBulk d + 1
  | .map entries => uptoBulkEntries entries + 1
  | .held _ => 1
def uptoBulkAll {H : Type} : List (DataW H) → Nat
  | [] => 0
  | d :: r => uptoBulk d + uptoBulkAll r
def uptoBulkEntries {H : Type} : List (Lit × DataW H) → Nat
  | [] => 0
  | x :: r => uptoBulkEntry x + uptoBulkEntries r
def uptoBulkEntry {H : Type} : Lit × DataW H → Nat
  | (.string bytes, d) => bytes.length + uptoBulk d + 1
  | (_, d) => uptoBulk d + 1
 end
def uptoSmall : (H : Type) → List (DataW H) → Bool := fun _ ds => decide (uptoBulkAll ds ≤ 1048576)
def OpenSpec.upto (s : _root_.Go.ChangeSpec) : _root_.Go.OpenSpec := { _root_.Go.OpenSpec.ofChange s with cond := some uptoSmall }

/-- 'clewlaw15.NamesMake', WHERE WHAT IT READS IS OF BULK AT MOST 1048576: true; the input reads as it did. -/
def namesMakeUptoRow : OpenClaim := { program := "ytgeglhgkibcpfaadoor", sum := "88b433772574bc678d0fd78b104016069f6c3fc02e2b1fd07f9b138020f44d5b", func := "clew/clewlaw15.NamesMake", spec := "namesMake", inPlace := ["internal/bytealg.abigen_runtime_cmpstring"], unfollowed := true, recurses := true, named := ["clew/names.predefinedFlags"], apart := false, laid := [("clew/names.predefinedFlags", laid_clew_names_predefinedFlags)], narrowed := true }
def NamesMakeUptoSaid : Prop := namesMakeUptoRow.holds Tryd.pinned (OpenSpec.upto namesMakeSpec)

/-- 'clewlaw15.NamesFind', WHERE WHAT IT READS IS OF BULK AT MOST 1048576: true; the input reads as it did. -/
def namesFindUptoRow : OpenClaim := { program := "ytgeglhgkibcpfaadoor", sum := "88b433772574bc678d0fd78b104016069f6c3fc02e2b1fd07f9b138020f44d5b", func := "clew/clewlaw15.NamesFind", spec := "namesFind", inPlace := ["internal/bytealg.abigen_runtime_cmpstring"], unfollowed := true, recurses := true, named := ["clew/names.predefinedFlags"], apart := false, laid := [("clew/names.predefinedFlags", laid_clew_names_predefinedFlags)], narrowed := true }
def NamesFindUptoSaid : Prop := namesFindUptoRow.holds Tryd.pinned (OpenSpec.upto namesFindSpec)

/-- 'clewlaw15.NamesBack', WHERE WHAT IT READS IS OF BULK AT MOST 1048576: true; the input reads as it did. -/
def namesBackUptoRow : OpenClaim := { program := "ytgeglhgkibcpfaadoor", sum := "88b433772574bc678d0fd78b104016069f6c3fc02e2b1fd07f9b138020f44d5b", func := "clew/clewlaw15.NamesBack", spec := "namesBack", inPlace := ["internal/bytealg.abigen_runtime_cmpstring"], unfollowed := true, recurses := true, named := ["clew/names.predefinedFlags"], apart := false, laid := [("clew/names.predefinedFlags", laid_clew_names_predefinedFlags)], narrowed := true }
def NamesBackUptoSaid : Prop := namesBackUptoRow.holds Tryd.pinned (OpenSpec.upto namesBackSpec)

/-- 'clewlaw15.NamesWrong', WHERE WHAT IT READS IS OF BULK AT MOST 1048576: true; the input reads as it did. -/
def namesWrongUptoRow : OpenClaim := { program := "ytgeglhgkibcpfaadoor", sum := "88b433772574bc678d0fd78b104016069f6c3fc02e2b1fd07f9b138020f44d5b", func := "clew/clewlaw15.NamesWrong", spec := "namesWrong", inPlace := ["internal/bytealg.abigen_runtime_cmpstring"], unfollowed := true, recurses := true, named := ["clew/names.predefinedFlags"], apart := false, laid := [("clew/names.predefinedFlags", laid_clew_names_predefinedFlags)], narrowed := true }
def NamesWrongUptoSaid : Prop := namesWrongUptoRow.holds Tryd.pinned (OpenSpec.upto namesWrongSpec)

/-- 'clewlaw15.NamesGrow', WHERE WHAT IT READS IS OF BULK AT MOST 1048576: true; the input reads as it did. -/
def namesGrowUptoRow : OpenClaim := { program := "ytgeglhgkibcpfaadoor", sum := "88b433772574bc678d0fd78b104016069f6c3fc02e2b1fd07f9b138020f44d5b", func := "clew/clewlaw15.NamesGrow", spec := "namesGrow", inPlace := ["internal/bytealg.abigen_runtime_cmpstring"], unfollowed := true, recurses := true, named := ["clew/names.predefinedFlags"], apart := false, laid := [("clew/names.predefinedFlags", laid_clew_names_predefinedFlags)], narrowed := true }
def NamesGrowUptoSaid : Prop := namesGrowUptoRow.holds Tryd.pinned (OpenSpec.upto namesGrowSpec)

end Rows
end Go.Proofs.YtgeglhgkibcpfaaDoor
