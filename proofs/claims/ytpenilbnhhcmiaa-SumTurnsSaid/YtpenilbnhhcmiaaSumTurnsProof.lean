/- The Go function SumTurns returns true for every input, and every argument reads afterwards as before. Conditions: none beyond the statement's own. -/
import Derived.Test.YtpenilbnhhcmiaaRows
import Derived.Test.YtpenilbnhhcmiaaLawF
import Derived.Deep.Slices
import Derived.Laws.IdiomArrays
import Derived.WalkKit
import Derived.ProofKit
import Derived.OpenShut
import Derived.ShutString
import Derived.ChangeOld
import Derived.Below
namespace Go.Proofs.Ytpenilbnhhcmiaa.sumTurns
open Go.ChangeShapes Go.WideShapes Go.ChangeAt Go.RowKit
open Go.ChangeMaps (open_string shut_string)
set_option linter.unusedVariables false

theorem ownKnob_ : ownKnob Try.prog.godebug = none := by kernel_rfl
theorem laidOut : laidOutB Try.prog = true := by kernel_rfl

theorem cells37_ : Try.prog.cellsOf 37 = 3 := by kernel_rfl
theorem cells5_ : Try.prog.cellsOf 5 = 1 := by kernel_rfl
theorem under37_ : Try.prog.underlying 37 = some (.array 3 5) := by kernel_rfl

/-- a slice of arrays of three bytes that came in -/
theorem rd3_of {H : Type} {enc : TypeId × Value → H} {w : World} {base : Nat} {spare : Nat → Bool} {held : Bool} {fuel : Nat} {a0 : Option Addr} {len0 cap0 : Nat} {x : DataW H × List MemPlace}
    (h : DataW.trod enc Try.prog w base spare held fuel 36 [.slice a0 len0 cap0] = some x) : ∃ ts, Rd3 w w.heap.size a0 len0 ts := by
  rcases Go.Deep.open_slice Try.underlying36 h with ⟨hcs, _⟩ | ⟨a, len, cap, m, n, D, Pl, hcs, _, hl, _, hmm, _, hi⟩
  · simp at hcs
    obtain ⟨rfl, rfl, rfl⟩ := hcs
    exact ⟨[], rfl, fun h => absurd h (by omega)⟩
  · simp at hcs
    obtain ⟨rfl, rfl, rfl⟩ := hcs
    have hlm : len0 ≤ m := by rw [hmm]; split <;> omega
    obtain ⟨f, hf⟩ := Go.Deep.choose_lt (α := UInt8 × UInt8 × UInt8) (n := len0) (p := fun i t => w.cell? (a.add (i * 3)) = some (.int .u8 (t.1.toNat : Int)) ∧ w.cell? (a.add (i * 3 + 1)) = some (.int .u8 (t.2.1.toNat : Int)) ∧ w.cell? (a.add (i * 3 + 2)) = some (.int .u8 (t.2.2.toNat : Int))) (fun i hil => by
      obtain ⟨cs', hc, ht⟩ := hi i (by omega)
      rw [cells37_] at hc
      obtain ⟨_, hlen, hat⟩ := World.cells?_some hc
      match cs', hlen with
      | [x0, x1, x2], _ =>
        obtain ⟨y0, y1, y2, m', _, g0, g1, g2⟩ := trod_array3 under37_ cells5_ ht
        obtain ⟨n0, e0, _, q0⟩ := DataW.trod_int Try.underlying5 g0
        obtain ⟨n1, e1, _, q1⟩ := DataW.trod_int Try.underlying5 g1
        obtain ⟨n2, e2, _, q2⟩ := DataW.trod_int Try.underlying5 g2
        simp at e0 e1 e2
        subst e0 e1 e2
        have b0 := wf_u8 q0
        have b1 := wf_u8 q1
        have b2 := wf_u8 q2
        have v0 := byt_val n0
        have v1 := byt_val n1
        have v2 := byt_val n2
        have a0 := hat 0 (by omega)
        have a1 := hat 1 (by omega)
        have a2 := hat 2 (by omega)
        rw [add_add] at a0 a1 a2
        refine ⟨(byt n0, byt n1, byt n2), ?_, ?_, ?_⟩
        · show w.cell? _ = some (.int .u8 ((byt n0).toNat : Int))
          rw [show ((byt n0).toNat : Int) = n0 from by omega]
          exact a0
        · show w.cell? _ = some (.int .u8 ((byt n1).toNat : Int))
          rw [show ((byt n1).toNat : Int) = n1 from by omega]
          exact a1
        · show w.cell? _ = some (.int .u8 ((byt n2).toNat : Int))
          rw [show ((byt n2).toNat : Int) = n2 from by omega]
          exact a2)
    refine ⟨(List.range len0).map f, by simp, fun h0 => ⟨a, rfl, ?_, fun j hj => ?_⟩⟩
    · have := World.block_lt_of_cell? w _ (hf 0 h0).1
      rw [blk_add] at this
      exact this
    · have hj2 : j < len0 := by simpa using hj
      simp only [List.getElem_map, List.getElem_range]
      exact hf j hj2

theorem walk (a0 : Option Addr) (len0 cap0 : Nat) (ts : List (UInt8 × UInt8 × UInt8)) (w : World) (w0 : Rd3 w w.heap.size a0 len0 ts) :
    Calls Try.prog 8 #[.slice a0 len0 cap0] w fun e w' => e = .returned (.bool true) ∧ Below w.heap.size w w' := by
  by_cases hn : (len0 : Int) ≤ 700
  · exact turns_walk a0 len0 cap0 ts w w0 hn
  · exact turns_long a0 len0 cap0 w hn

set_option maxRecDepth 100000 in
theorem lifted (os : Os) (started : os.Started) (H : Type) (enc : TypeId × Value → H) :
    ReturnsInHanded {} Try.checked os 8 .any (Rows.sumTurnsSpec.pre6 enc Try.prog Try.f8 Rows.sumTurnsRow.domain false) (Rows.sumTurnsSpec.post enc Try.prog Try.f8 false true false false) := by
  refine returnsInHanded_of_change (C := Try.checked) ownKnob_ started (by kernel_rfl) Try.func8
    (ChangeSpec.witness6 (enc := enc) (C := Try.checked) false ⟨#[], #[.slice none 0 0], []⟩ 8 (by kernel_rfl) (by kernel_rfl) (by kernel_rfl) (by kernel_rfl)) ?_
  intro W base args ds gs before hval0 hW hcnd _
  have hval : ∀ (j : Nat) t v, Try.f8.params[j]? = some t → args[j]? = some v → Value.okWide Try.prog W .any base t v := hval0
  have hW' := hW
  obtain ⟨p, q, hA0, hV, rfl, hfz, hnd⟩ := hW
  have hA : DataW.TrodAll enc Try.prog W 0 (fun _ => true) true Try.f8.params.toList args.toList ds p := hA0
  rw [Try.params8] at hA hval
  obtain ⟨v0, vs0, d0, ds0, p0, q0, hargs, rfl, rfl, h0, r0⟩ := trodAll_cons hA
  obtain ⟨rfl, rfl, rfl⟩ := trodAll_nil r0
  obtain rfl : args = #[v0] := by cases args; simp_all
  obtain ⟨rfl, rfl⟩ := trodVars_none hV
  obtain ⟨a0, len0, cap0, rfl⟩ := okWide_slice Try.underlying36 (hval 0 36 v0 rfl rfl)
  have k0 := h0
  have lt0 : ∀ x ∈ p0, x.block < W.heap.size := by obtain ⟨m, hm⟩ := k0; exact DataW.trod_lt m _ _ _ hm
  obtain ⟨z0, w0⟩ : ∃ ts, Rd3 W W.heap.size a0 len0 ts := by
    obtain ⟨fuel, hf⟩ := h0
    exact rd3_of hf
  clear hA0 hval0
  refine (walk a0 len0 cap0 z0 W w0).mono fun e W' ⟨he, bel⟩ => ?_
  subst he
  exact ⟨_, rfl, _, _, _, [], _, [], hW', trodAll_mk1 (shut_bool Try.underlying4 _), (trodAll_cons_mk (Below.trod laidOut (by kernel_rfl) (of_decide_eq_true (by kernel_rfl)) k0 bel lt0) trodAll_mk0), rfl, bel.frame _, fun h => by cases h⟩

theorem over : Rows.sumTurnsRow.holds Try.pinned (OpenSpec.ofChange Rows.sumTurnsSpec) :=
  OpenClaim.holds_of_wide 8 Try.f8 rfl rfl rfl rfl rfl rfl rfl ⟨rfl, rfl, rfl, rfl, rfl⟩ rfl rfl rfl rfl rfl (by kernel_rfl) Try.func8 (by kernel_rfl)
    (of_decide_eq_true (by kernel_rfl)) (by unfold Func.isWrapper; first | (rw [if_pos (by decide +kernel)]; kernel_rfl) | (rw [if_neg (by decide +kernel)]; exact ⟨rfl, rfl⟩))
    (fun os started H enc _ => lifted os started H enc)

/-- The statement. -/
theorem proved : Rows.SumTurnsSaid := over
#print axioms proved
end Go.Proofs.Ytpenilbnhhcmiaa.sumTurns
