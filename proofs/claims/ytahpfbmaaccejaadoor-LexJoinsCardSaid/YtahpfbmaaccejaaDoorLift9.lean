/- A row of the layer lex, which lists tables, lifted: that its first world holds the table of powers of ten is handed to the walk. -/
import Derived.Test.YtahpfbmaaccejaaDoorRows
import Derived.Test.YtahpfbmaaccejaaDoorFmt
import Derived.Lay
import Derived.LaidHandle
import Derived.MakeChecks
import Derived.WalkKit
import Derived.ProofKit
namespace Go.Proofs.YtahpfbmaaccejaaDoor
open Go.ChangeShapes Go.WideShapes Go.ChangeAt Go.RowKit

/-- the listed tables -/
def tablesL : List (String × DataW Unit) := [("math/bits.deBruijn32tab", Rows.laid_math_bits_deBruijn32tab), ("math/bits.deBruijn64tab", Rows.laid_math_bits_deBruijn64tab), ("internal/strconv.uint64pow10", Rows.laid_internal_strconv_uint64pow10)]

theorem ownKnob_ : ownKnob Tryd.prog.godebug = none := by kernel_rfl
theorem laidOut : laidOutB Tryd.prog = true := by kernel_rfl

/-- a world that holds the tables and is of the program's shape -/
theorem tables_shaped (os : Os) (args : Array Value) : ((World.laidAll Tryd.prog os tablesL).forCall (fun _ _ => 0) ⟨#[], args, []⟩).Shaped Tryd.prog := World.shaped_of_ZipB (by kernel_rfl) (by kernel_rfl)

theorem tables_met (os : Os) (args : Array Value) : laidMetH Tryd.prog tablesL ((World.laidAll Tryd.prog os tablesL).forCall (fun _ _ => 0) ⟨#[], args, []⟩).memory := by
  rw [MakeChecks.laidMetH_plain _ _ _ (by kernel_rfl)]
  exact laidMet_laidAll _ (by kernel_rfl) (by kernel_rfl)

theorem laid_tail {P : Program} {x : String × DataW Unit} {r : List (String × DataW Unit)} {w : World} (h : laidMet P (x :: r) w) : laidMet P r w := by
  obtain ⟨ps, hv, hnd, hrows⟩ := h
  obtain ⟨n, d⟩ := x
  obtain ⟨g, t, cs, fuel, p, q, _, _, _, _, hq, rfl⟩ := hv
  exact ⟨q, hq, List.Nodup.sublist (List.sublist_append_right _ _) hnd, fun b off hm => hrows b off (List.mem_append_right _ hm)⟩

/-- the listed powers are the table's -/
theorem Pw.of_laid {w : World} (h : laidMetH Tryd.prog tablesL w) : Pw w := by
  rw [MakeChecks.laidMetH_plain _ _ _ (by kernel_rfl)] at h
  have h2 : laidMet Tryd.prog [("internal/strconv.uint64pow10", Lib.tabData .u64 Lib.pow10Tab)] w := laid_tail (laid_tail h)
  exact Lib.tabIs_of_head (t := 80) (n := 20) pow10_at (by kernel_rfl) Tryd.underlying80 Tryd.underlying57 (by kernel_rfl) (by kernel_rfl) h2

set_option maxRecDepth 100000 in
/-- The lift: a contract that asks that the table of powers holds them; the row's first world gives it. -/
theorem lift_tables {H : Type} {enc : TypeId × Value → H} {os : Os} {f : FuncId} {fn : Func} {s : ChangeSpec} (started : os.Started) (noInit : Tryd.prog.inits.idxOf? f = none) (hfn : Tryd.prog.funcs[f]? = some fn)
    (args0 : Array Value) (hok0 : Input.okWideB Tryd.prog ((World.laidAll Tryd.prog os tablesL).forCall (fun _ _ => 0) ⟨#[], args0, []⟩) f ⟨#[], args0, []⟩ = true)
    (hpre0 : s.preB enc Tryd.prog fn [] false ((World.laidAll Tryd.prog os tablesL).forCall (fun _ _ => 0) ⟨#[], args0, []⟩).memory args0 8 = true)
    (hsz0 : s.sizedB enc Tryd.prog fn false ((World.laidAll Tryd.prog os tablesL).forCall (fun _ _ => 0) ⟨#[], args0, []⟩).memory args0 8 = true)
    (walks : ∀ (W : World) (base : Nat) (args : Array Value) (ds gs : List (DataW H)) (before : List MemPlace), Pw W →
      (∀ (j : Nat) t v, fn.params[j]? = some t → args[j]? = some v → Value.okWide Tryd.prog W .any base t v) → DataW.Whole enc Tryd.prog fn.params.toList s.vars false W args.toList ds gs before →
      (DataW.weightsEach Tryd.prog (fn.params.toList ++ s.plain.varTypes Tryd.prog) (ds ++ gs)).all (· ≤ reachBytes) = true →
      Calls Tryd.prog f args W fun e W' => ∃ v, e = .returned v ∧ s.post enc Tryd.prog fn false true false false W args v W') :
    ReturnsInHanded {} Tryd.checked os f .any (fun w args => (s.pre enc Tryd.prog fn [] false w args ∧ laidMetH Tryd.prog tablesL w) ∧ sizedMet enc Tryd.prog fn (OpenSpec.ofChange s) false w args) (s.post enc Tryd.prog fn false true false false) := by
  refine returnsInHanded_of_calls ownKnob_ started noInit (ChangeSpec.witness_shaped (enc := enc) (C := Tryd.checked) (os := os) (X := fun w _ => laidMetH Tryd.prog tablesL w) false (World.laidAll Tryd.prog os tablesL) args0 8 (World.laidAll_os _ _ _) (tables_shaped os args0) hok0 hpre0 hsz0 (tables_met os args0)) ?_
  intro w tape i _ _ _ okay given _
  obtain ⟨_, _, _, g, hg, _, _, _, _, vals⟩ := okay
  cases hg.symm.trans hfn
  obtain ⟨⟨⟨ds, gs, before, whole, _⟩, laid⟩, heavy⟩ := given
  refine (walks (w.forCall tape i) w.heap.size i.args ds gs before ((Pw.of_laid laid).heap (by rfl)) vals (DataW.Whole.of_heap (w' := w.forCall tape i) (by rfl) whole) (heavy.weights whole)).mono fun e W' ⟨v, h1, h2⟩ => ?_
  cases h1
  exact ChangeSpec.post_blind h2

end Go.Proofs.YtahpfbmaaccejaaDoor
