/- The Go function FoldOnce of layer 18's statements returns true for every input, and its argument reads afterwards as before. Conditions: none beyond the statement's own. -/
import Derived.Test.YtiioffjjlcfhgaaRows
import Derived.Test.YtiioffjjlcfhgaaFoldOnceQ2
import Derived.WalkKit
import Derived.ProofKit
import Derived.OpenShut
import Derived.ShutString
import Derived.ChangeOld
import Derived.Below
import Derived.SizedLaws
import Derived.Lib.SmallJoins
namespace Go.Proofs.Ytiioffjjlcfhgaa.foldOnce
open Go.ChangeShapes Go.WideShapes Go.ChangeAt Go.RowKit Go.Joins
set_option linter.unusedVariables false

theorem ownKnob_ : ownKnob Try.prog.godebug = none := by kernel_rfl
theorem laidOut : laidOutB Try.prog = true := by kernel_rfl

set_option maxRecDepth 100000 in
theorem lifted (os : Os) (started : os.Started) (H : Type) (enc : TypeId × Value → H) :
    ReturnsInHanded {} Try.checked os 5 .any (Rows.foldOnceSpec.pre6 enc Try.prog Try.f5 Rows.foldOnceRow.domain false) (Rows.foldOnceSpec.post enc Try.prog Try.f5 false true false false) := by
  refine returnsInHanded_of_change_sized (C := Try.checked) ownKnob_ started (by kernel_rfl) Try.func5
    (ChangeSpec.witness6 (enc := enc) (C := Try.checked) false ⟨#[], #[.agg #[.int .i64 0, .int .i64 0, .int .i64 0, .int .i64 0, .slice none 0 0, .int .i64 0, .slice none 0 0, .slice none 0 0, .slice none 0 0, .slice none 0 0, .slice none 0 0, .slice none 0 0, .slice none 0 0, .slice none 0 0, .slice none 0 0, .int .i64 0, .int .i64 0, .int .i64 0, .string ByteArray.empty, .slice none 0 0, .slice none 0 0, .int .i64 0]], []⟩ 8 (by kernel_rfl) (by kernel_rfl) (by kernel_rfl) (by kernel_rfl)) ?_
  intro W base args ds gs before hval0 hW hcnd hwt _
  have hval : ∀ (j : Nat) t v, Try.f5.params[j]? = some t → args[j]? = some v → Value.okWide Try.prog W .any base t v := hval0
  have hW' := hW
  obtain ⟨p, q, hA0, hV, rfl, hfz, hnd⟩ := hW
  have hA : DataW.TrodAll enc Try.prog W 0 (fun _ => true) true Try.f5.params.toList args.toList ds p := hA0
  rw [Try.params5] at hA hval hwt
  obtain ⟨v0, vs0, d0, ds0, p0, q0, hargs, rfl, rfl, h0, r0⟩ := trodAll_cons hA
  obtain ⟨rfl, rfl, rfl⟩ := trodAll_nil r0
  obtain rfl : args = #[v0] := by cases args; simp_all
  obtain ⟨rfl, rfl⟩ := trodVars_none hV
  obtain ⟨cs0, rfl, _⟩ := okWide_struct Try.underlying34 (hval 0 34 v0 rfl rfl)
  have k0 := h0
  have lt0 : ∀ x ∈ p0, x.block < W.heap.size := by obtain ⟨m, hm⟩ := k0; exact DataW.trod_lt m _ _ _ hm
  have hw0 : ∀ b ∈ DataW.weights Try.prog 34 d0, b ≤ reachBytes := fun b hb => by
    have h := List.all_eq_true.1 hwt b (by
      show b ∈ DataW.weightsEach Try.prog (34 :: _) (d0 :: _)
      unfold DataW.weightsEach
      exact List.mem_append_left _ hb)
    exact of_decide_eq_true h
  obtain ⟨T, e, A, n, c, ss, loc, hv0, i0, i1, i2, i3, i4, i5, i6, i7⟩ : ∃ (T : TV) (e : EL) (A : Option Addr) (n c : Nat) (ss : List SL) (loc : Int), Value.agg cs0 = .agg (T.cells ++ eCells e ++ #[Value.slice A n c, Value.int .i64 loc]) ∧ T.In W W.heap.size ∧ e.In W W.heap.size ∧ litP (plE e) ∧ RowS6 W W.heap.size A n ss ∧ SL.Ins W W.heap.size ss ∧ n * 104 ≤ 140737488355328 ∧ (∀ z ∈ ss, litS (plS z)) ∧ (-9223372036854775808 ≤ loc ∧ loc ≤ 9223372036854775807) := by
    obtain ⟨fuel, hf⟩ := h0
    obtain ⟨T, e, A, n, c, ss, loc, he, i0, i1, i2, i3, i4, i5, i6, i7⟩ := open_bitW fuel _ _ hf hw0
    refine ⟨T, e, A, n, c, ss, loc, ?_, i0, i1, i2, i3, i4, i5, i6, i7⟩
    rw [show cs0 = T.cells ++ eCells e ++ #[Value.slice A n c, Value.int .i64 loc] from Array.toList_inj.1 (by rw [← he]; simp [Value.cells])]
  clear hA0 hval0
  refine Calls.mono (R := fun e w' => e = .returned (.bool true) ∧ Below W.heap.size W w') ?_ fun e W' ⟨he, bel⟩ => ?_
  · clear hA hval
    rw [hv0]
    exact foldOnce_of fexpr18_any fblock18_any T e A n c ss loc i7 W i0 i1 i3 (fun x hx => SL.Ins.mem i4 x hx) i2 i5 i6
  subst he
  exact ⟨_, rfl, _, _, _, [], _, [], hW', trodAll_mk1 (shut_bool Try.underlying4 _), (trodAll_cons_mk (Below.trod laidOut (by kernel_rfl) (of_decide_eq_true (by kernel_rfl)) k0 bel lt0) trodAll_mk0), rfl, bel.frame _, fun h => by cases h⟩

theorem over : Rows.foldOnceRow.holds Try.pinned (OpenSpec.ofChange Rows.foldOnceSpec) :=
  OpenClaim.holds_of_wide 5 Try.f5 rfl rfl rfl rfl rfl rfl rfl ⟨rfl, rfl, rfl, rfl, rfl⟩ rfl rfl rfl rfl rfl (by kernel_rfl) Try.func5 (by kernel_rfl)
    (of_decide_eq_true (by kernel_rfl)) (by unfold Func.isWrapper; first | (rw [if_pos (by decide +kernel)]; kernel_rfl) | (rw [if_neg (by decide +kernel)]; exact ⟨rfl, rfl⟩))
    (fun os started H enc _ => lifted os started H enc)

/-- The statement. -/
theorem proved : Rows.FoldOnceSaid := over
#print axioms proved
end Go.Proofs.Ytiioffjjlcfhgaa.foldOnce
