/- The Go function FoldMay of layer 18's statements returns true for every input of bulk 1048576 at the most (the statement of the second form), and its argument reads afterwards as before. -/
import Derived.Test.YtiioffjjlcfhgaaRows
import Derived.Test.YtiioffjjlcfhgaaFoldMayQ3
import Derived.WalkKit
import Derived.ProofKit
import Derived.OpenShut
import Derived.ShutString
import Derived.ChangeOld
import Derived.Below
import Derived.SizedLaws
import Derived.Deep.CondSized
import Derived.Lib.SmallJoins
namespace Go.Proofs.Ytiioffjjlcfhgaa.foldMay
open Go.ChangeShapes Go.WideShapes Go.ChangeAt Go.RowKit Go.Joins
set_option linter.unusedVariables false

theorem ownKnob_ : ownKnob Try.prog.godebug = none := by kernel_rfl
theorem laidOut : laidOutB Try.prog = true := by kernel_rfl

set_option maxRecDepth 100000 in
theorem lifted (os : Os) (started : os.Started) (H : Type) (enc : TypeId × Value → H) (IF : Stop.Interp) :
    ReturnsInHanded {} Try.checked os 4 .any ((Rows.OpenSpec.upto Rows.foldMaySpec).pre6 enc Try.prog Try.f4 Rows.foldMayUptoRow.domain false) (((Rows.OpenSpec.upto Rows.foldMaySpec).at IF).post enc Try.prog Try.f4 false true false false) := by
  refine returnsInHanded_of_cond_sized (C := Try.checked) (s := Rows.OpenSpec.upto Rows.foldMaySpec) (k := Rows.uptoSmall) rfl ownKnob_ started (by kernel_rfl) Try.func4
    (OpenSpec.witness (enc := enc) (C := Try.checked) (s := Rows.OpenSpec.upto Rows.foldMaySpec) (k := Rows.uptoSmall) rfl false ⟨#[], #[.agg #[.int .i64 0, .int .i64 0, .int .i64 0, .int .i64 0, .slice none 0 0, .int .i64 0, .slice none 0 0, .slice none 0 0, .slice none 0 0, .slice none 0 0, .slice none 0 0, .slice none 0 0, .slice none 0 0, .slice none 0 0, .slice none 0 0, .int .i64 0, .int .i64 0, .int .i64 0, .string ByteArray.empty, .slice none 0 0, .slice none 0 0, .int .i64 0]], []⟩ 8 (by kernel_rfl) (by kernel_rfl) (by kernel_rfl)
      (x := ([.agg [.agg [.lit (.int .i64 0), .lit (.int .i64 0), .lit (.int .i64 0), .lit (.int .i64 0), .nil, .lit (.int .i64 0), .nil, .nil, .nil, .nil, .nil, .nil, .nil, .nil, .nil], .agg [.lit (.int .i64 0), .lit (.int .i64 0), .lit (.int .i64 0), .lit (.string []), .nil], .nil, .lit (.int .i64 0)]], [], [])) (by kernel_rfl) rfl (by kernel_rfl)) ?_
  intro W base args ds gs before hval0 hW hcnd hbk hwt _
  have hval : ∀ (j : Nat) t v, Try.f4.params[j]? = some t → args[j]? = some v → Value.okWide Try.prog W .any base t v := hval0
  have hW' := hW
  obtain ⟨p, q, hA0, hV, rfl, hfz, hnd⟩ := hW
  have hA : DataW.TrodAll enc Try.prog W 0 (fun _ => true) true Try.f4.params.toList args.toList ds p := hA0
  rw [Try.params4] at hA hval hwt
  obtain ⟨v0, vs0, d0, ds0, p0, q0, hargs, rfl, rfl, h0, r0⟩ := trodAll_cons hA
  obtain ⟨rfl, rfl, rfl⟩ := trodAll_nil r0
  obtain rfl : args = #[v0] := by cases args; simp_all
  obtain ⟨rfl, rfl⟩ := trodVars_none hV
  obtain ⟨cs0, rfl, _⟩ := okWide_struct Try.underlying34 (hval 0 34 v0 rfl rfl)
  have hbl : Rows.uptoBulk d0 ≤ 1048576 := by
    have h : Rows.uptoBulkAll [d0] ≤ 1048576 := of_decide_eq_true hbk
    simp only [Rows.uptoBulkAll] at h
    omega
  have k0 := h0
  have lt0 : ∀ x ∈ p0, x.block < W.heap.size := by obtain ⟨m, hm⟩ := k0; exact DataW.trod_lt m _ _ _ hm
  have hw0 : ∀ b ∈ DataW.weights Try.prog 34 d0, b ≤ reachBytes := fun b hb => by
    have h := List.all_eq_true.1 hwt b (by
      show b ∈ DataW.weightsEach Try.prog (34 :: _) (d0 :: _)
      unfold DataW.weightsEach
      exact List.mem_append_left _ hb)
    exact of_decide_eq_true h
  obtain ⟨T, e, A, n, c, ss, loc, hv0, i0, i1, i2, i3, i4, i5, i6, i7, i8, i9⟩ : ∃ (T : TV) (e : EL) (A : Option Addr) (n c : Nat) (ss : List SL) (loc : Int), Value.agg cs0 = .agg (T.cells ++ eCells e ++ #[Value.slice A n c, Value.int .i64 loc]) ∧ T.In W W.heap.size ∧ e.In W W.heap.size ∧ litP (plE e) ∧ RowS6 W W.heap.size A n ss ∧ SL.Ins W W.heap.size ss ∧ n * 104 ≤ 140737488355328 ∧ (∀ z ∈ ss, litS (plS z)) ∧ (-9223372036854775808 ≤ loc ∧ loc ≤ 9223372036854775807) ∧ sizeE e ≤ 1000000 ∧ sizeSs ss ≤ 1000000 := by
    obtain ⟨fuel, hf⟩ := h0
    obtain ⟨T, e, A, n, c, ss, loc, he, i0, i1, i2, i3, i4, i5, i6, i7, b1, b2⟩ := open_bitK fuel _ _ hf hw0
    have b1' : 2 * sizeE e ≤ Rows.uptoBulk d0 := b1
    have b2' : 2 * sizeSs ss ≤ Rows.uptoBulk d0 := b2
    refine ⟨T, e, A, n, c, ss, loc, ?_, i0, i1, i2, i3, i4, i5, i6, i7, by omega, by omega⟩
    rw [show cs0 = T.cells ++ eCells e ++ #[Value.slice A n c, Value.int .i64 loc] from Array.toList_inj.1 (by rw [← he]; simp [Value.cells])]
  clear hA0 hval0
  refine Calls.mono (R := fun e w' => e = .returned (.bool true) ∧ Below W.heap.size W w') ?_ fun e W' ⟨he, bel⟩ => ?_
  · clear hA hval
    rw [hv0]
    exact foldMay_of fexpr18_any fblock18_any T e A n c ss loc i7 W i0 i1 i3 (fun x hx => SL.Ins.mem i4 x hx) i2 i5 i6 i8 i9
  subst he
  exact ⟨_, rfl, _, _, _, [], _, [], hW', trodAll_mk1 (shut_bool Try.underlying4 _), (trodAll_cons_mk (Below.trod laidOut (by kernel_rfl) (of_decide_eq_true (by kernel_rfl)) k0 bel lt0) trodAll_mk0), rfl, bel.frame _, fun h => by cases h⟩

theorem over : Rows.foldMayUptoRow.holds Try.pinned (Rows.OpenSpec.upto Rows.foldMaySpec) :=
  OpenClaim.holds_of_cond 4 Try.f4 rfl rfl rfl rfl rfl rfl rfl ⟨rfl, rfl, rfl, rfl, rfl⟩ rfl rfl rfl rfl rfl (by kernel_rfl) Try.func4 (by kernel_rfl)
    (of_decide_eq_true (by kernel_rfl)) (by unfold Func.isWrapper; first | (rw [if_pos (by decide +kernel)]; kernel_rfl) | (rw [if_neg (by decide +kernel)]; exact ⟨rfl, rfl⟩))
    (fun os started H enc _ IF => lifted os started H enc IF)

/-- The statement. -/
theorem proved : Rows.FoldMayUptoSaid := over
#print axioms proved
end Go.Proofs.Ytiioffjjlcfhgaa.foldMay
