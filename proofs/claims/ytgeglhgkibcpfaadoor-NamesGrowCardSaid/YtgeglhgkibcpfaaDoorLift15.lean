/- A row of the layer names, which lists a table, lifted: that its first world holds the predefined flags is handed to the walk. -/
import Derived.Test.YtgeglhgkibcpfaaDoorRows
import Derived.Test.YtgeglhgkibcpfaaDoorNmqE
import Derived.Lay
import Derived.LaidHandle
import Derived.MakeChecks
import Derived.WalkKit
import Derived.ProofKit
namespace Go.Proofs.YtgeglhgkibcpfaaDoor
open Go.ChangeShapes Go.WideShapes Go.ChangeAt Go.RowKit

/-- the listed tables -/
def tablesL : List (String × DataW Unit) := [("clew/names.predefinedFlags", Rows.laid_clew_names_predefinedFlags)]

theorem ownKnob_ : ownKnob Tryd.prog.godebug = none := by kernel_rfl
theorem laidOut : laidOutB Tryd.prog = true := by kernel_rfl

/-- a world that holds the tables and is of the program's shape -/
theorem tables_shaped (os : Os) (args : Array Value) : ((World.laidAll Tryd.prog os tablesL).forCall (fun _ _ => 0) ⟨#[], args, []⟩).Shaped Tryd.prog := World.shaped_of_ZipB (by kernel_rfl) (by kernel_rfl)

theorem tables_met (os : Os) (args : Array Value) : laidMetH Tryd.prog tablesL ((World.laidAll Tryd.prog os tablesL).forCall (fun _ _ => 0) ⟨#[], args, []⟩).memory := by
  rw [MakeChecks.laidMetH_plain _ _ _ (by kernel_rfl)]
  exact laidMet_laidAll _ (by kernel_rfl) (by kernel_rfl)

theorem fl_type : (Tryd.prog.globals[0]?).map (·.type) = some 95 := by kernel_rfl
theorem fl_cellsS : Tryd.prog.cellsOf 9 = 1 := by kernel_rfl
theorem fl_cellsA : Tryd.prog.cellsOf 95 = 4 := by kernel_rfl

/-- the listed flags are the table's -/
theorem Fl.of_laid {w : World} (h : laidMetH Tryd.prog tablesL w) : Fl w := by
  rw [MakeChecks.laidMetH_plain _ _ _ (by kernel_rfl)] at h
  obtain ⟨ps, ⟨g, t, cs, fuel, p, q, hg, ht, hvar, hd, _, _⟩, _⟩ := h
  obtain rfl := Option.some.inj (fl_at.symm.trans hg)
  obtain rfl := Option.some.inj (fl_type.symm.trans ht)
  obtain ⟨xs, m, _, ex, hlen, hl, hel⟩ := DataW.trod_array Tryd.underlying95 hd
  rw [fl_cellsA] at hlen
  rw [fl_cellsS] at hel
  obtain ⟨cl⟩ := cs
  have h0 := hel 0 (by omega)
  have h1 := hel 1 (by omega)
  have h2 := hel 2 (by omega)
  have h3 := hel 3 (by omega)
  match cl, hlen, xs, hl with
  | [v0, v1, v2, v3], _, [x0, x1, x2, x3], _ =>
    simp at h0 h1 h2 h3
    obtain ⟨s0, e0, d0, _⟩ := DataW.trod_string Tryd.underlying9 h0
    obtain ⟨s1, e1, d1, _⟩ := DataW.trod_string Tryd.underlying9 h1
    obtain ⟨s2, e2, d2, _⟩ := DataW.trod_string Tryd.underlying9 h2
    obtain ⟨s3, e3, d3, _⟩ := DataW.trod_string Tryd.underlying9 h3
    subst d0 d1 d2 d3
    simp [Rows.laid_clew_names_predefinedFlags] at ex
    simp at e0 e1 e2 e3
    obtain ⟨⟨q0, q1, q2, q3⟩, _⟩ := ex
    unfold Fl
    have r0 : s0 = bs [108, 105, 116] := by rw [← bs_data s0]; congr 1; first | exact q0 | exact q0.symm | simpa using q0
    have r1 : s1 = bs [111, 112, 101, 110] := by rw [← bs_data s1]; congr 1; first | exact q1 | exact q1.symm | simpa using q1
    have r2 : s2 = bs [98, 111, 120] := by rw [← bs_data s2]; congr 1; first | exact q2 | exact q2.symm | simpa using q2
    have r3 : s3 = bs [104, 105, 100, 100, 101, 110] := by rw [← bs_data s3]; congr 1; first | exact q3 | exact q3.symm | simpa using q3
    rw [hvar, e0, e1, e2, e3, r0, r1, r2, r3]
    rfl

set_option maxRecDepth 100000 in
/-- The lift: a contract that asks that the table holds them; the row's first world gives it. -/
theorem lift_tables {H : Type} {enc : TypeId × Value → H} {os : Os} {f : FuncId} {fn : Func} {s : ChangeSpec} (started : os.Started) (noInit : Tryd.prog.inits.idxOf? f = none) (hfn : Tryd.prog.funcs[f]? = some fn)
    (args0 : Array Value) (hok0 : Input.okWideB Tryd.prog ((World.laidAll Tryd.prog os tablesL).forCall (fun _ _ => 0) ⟨#[], args0, []⟩) f ⟨#[], args0, []⟩ = true)
    (hpre0 : s.preB enc Tryd.prog fn [] false ((World.laidAll Tryd.prog os tablesL).forCall (fun _ _ => 0) ⟨#[], args0, []⟩).memory args0 8 = true)
    (hsz0 : s.sizedB enc Tryd.prog fn false ((World.laidAll Tryd.prog os tablesL).forCall (fun _ _ => 0) ⟨#[], args0, []⟩).memory args0 8 = true)
    (walks : ∀ (W : World) (base : Nat) (args : Array Value) (ds gs : List (DataW H)) (before : List MemPlace), Fl W →
      (∀ (j : Nat) t v, fn.params[j]? = some t → args[j]? = some v → Value.okWide Tryd.prog W .any base t v) → DataW.Whole enc Tryd.prog fn.params.toList s.vars false W args.toList ds gs before →
      (DataW.weightsEach Tryd.prog (fn.params.toList ++ s.plain.varTypes Tryd.prog) (ds ++ gs)).all (· ≤ reachBytes) = true →
      Calls Tryd.prog f args W fun e W' => ∃ v, e = .returned v ∧ s.post enc Tryd.prog fn false true false false W args v W') :
    ReturnsInHanded {} Tryd.checked os f .any (fun w args => (s.pre enc Tryd.prog fn [] false w args ∧ laidMetH Tryd.prog tablesL w) ∧ sizedMet enc Tryd.prog fn (OpenSpec.ofChange s) false w args) (s.post enc Tryd.prog fn false true false false) := by
  refine returnsInHanded_of_calls ownKnob_ started noInit (ChangeSpec.witness_shaped (enc := enc) (C := Tryd.checked) (os := os) (X := fun w _ => laidMetH Tryd.prog tablesL w) false (World.laidAll Tryd.prog os tablesL) args0 8 (World.laidAll_os _ _ _) (tables_shaped os args0) hok0 hpre0 hsz0 (tables_met os args0)) ?_
  intro w tape i _ _ _ okay given _
  obtain ⟨_, _, _, g, hg, _, _, _, _, vals⟩ := okay
  cases hg.symm.trans hfn
  obtain ⟨⟨⟨ds, gs, before, whole, _⟩, laid⟩, heavy⟩ := given
  refine (walks (w.forCall tape i) w.heap.size i.args ds gs before ((Fl.of_laid laid).heap (by rfl)) vals (DataW.Whole.of_heap (w' := w.forCall tape i) (by rfl) whole) (heavy.weights whole)).mono fun e W' ⟨v, h1, h2⟩ => ?_
  cases h1
  exact ChangeSpec.post_blind h2

end Go.Proofs.YtgeglhgkibcpfaaDoor
