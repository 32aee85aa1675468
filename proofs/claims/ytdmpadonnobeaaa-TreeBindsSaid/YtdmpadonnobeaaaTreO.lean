/- What comes in: whatever reads as an expression, as a list of statements, as tables is such in memory. -/
import Derived.Test.YtdmpadonnobeaaaRows
import Derived.Test.YtdmpadonnobeaaaTreS
import Derived.Deep.Slices
import Derived.ChangeArms
import Derived.ProofKit
import Derived.Test.YtdmpadonnobeaaaTreT
namespace Go.Proofs.Ytdmpadonnobeaaa
open Go.RowKit
set_option linter.unusedVariables false

open Go.ChangeShapes Go.WideShapes Go.RowKit

section
variable {H : Type} {enc : TypeId × Value → H} {w : World} {base : Nat} {sp : Nat → Bool} {held : Bool}

theorem add_zero9 (a : Addr) : a.add 0 = a := by unfold Addr.add; rw [if_pos rfl]
theorem cellsE : Try.prog.cellsOf 24 = 5 := by kernel_rfl
theorem cellsI : Try.prog.cellsOf 3 = 1 := by kernel_rfl
theorem cellsT : Try.prog.cellsOf 9 = 1 := by kernel_rfl
theorem cellsEs : Try.prog.cellsOf 22 = 1 := by kernel_rfl

theorem wf_int64 {m : Int} (h : (Lit.int .i64 m).wf = true) : -9223372036854775808 ≤ m ∧ m ≤ 9223372036854775807 := by
  simp [Lit.wf, IntKind.min, IntKind.max, IntKind.signed, IntKind.bits] at h
  omega

set_option maxRecDepth 100000 in
theorem open_trees : ∀ (fuel : Nat), (∀ (cs : List Value) (x : DataW H × List MemPlace), DataW.trod enc Try.prog w base sp held fuel 24 cs = some x → ∃ e : EL, cs = (eCells e).toList ∧ e.In w w.heap.size) ∧
    (∀ (cs : List Value) (x : DataW H × List MemPlace), DataW.trod enc Try.prog w base sp held fuel 22 cs = some x → ∃ (A : Option Addr) (n c : Nat) (es : List EL), cs = [.slice A n c] ∧ RowE w w.heap.size A n es ∧ EL.Ins w w.heap.size es) := by
  intro fuel
  induction fuel using Nat.strongRecOn with
  | _ fuel ih =>
    have hes : ∀ (cs : List Value) (x : DataW H × List MemPlace), DataW.trod enc Try.prog w base sp held fuel 22 cs = some x → ∃ (A : Option Addr) (n c : Nat) (es : List EL), cs = [.slice A n c] ∧ RowE w w.heap.size A n es ∧ EL.Ins w w.heap.size es := by
      intro cs x h
      rcases DataW.trod_slice Try.underlying22 h with ⟨rfl, _⟩ | ⟨a, len, cap, elems, rest, m, hm, rfl, _, _, hlc, hcm, hlen, hel, _, _⟩
      · exact ⟨none, 0, 0, [], rfl, ⟨rfl, by omega, fun h => absurd h (Nat.lt_irrefl _)⟩, EL.Ins.of fun x hx => absurd hx List.not_mem_nil⟩
      · have each : ∀ i, i < len → ∃ e : EL, e.In w w.heap.size ∧ ∃ cs', w.cells? base (a.add (i * 5)) 5 = some cs' ∧ cs' = (eCells e).toList := by
          intro i hi
          have h1 := hel i hi
          rw [cellsE, List.getElem?_eq_getElem (by omega)] at h1
          obtain ⟨cs', h2, h3⟩ := Option.bind_eq_some_iff.1 h1
          obtain ⟨e, he, hin⟩ := (ih m (by omega)).1 cs' _ h3
          exact ⟨e, hin, cs', h2, he⟩
        have : Inhabited EL := ⟨nilE⟩
        obtain ⟨f, hf⟩ := Go.Deep.choose_lt each
        have hg : ∀ j, j < len → (((List.range len).map f)[j]?.getD nilE) = f j := fun j hj => by simp [hj]
        refine ⟨some a, len, cap, (List.range len).map f, rfl, ⟨by simp, by unfold maxLen at hcm; omega, fun h0 => ⟨a, rfl, ?_, fun j hj => ?_⟩⟩, EL.Ins.of fun x hx => ?_⟩
        · obtain ⟨_, cs', h2, h3⟩ := hf 0 h0
          obtain ⟨_, hl, hc⟩ := World.cells?_some h2
          have h4 := hc 0 (by omega)
          rw [h3] at h4
          have := World.block_lt_of_cell? w _ h4
          rw [blk_add, blk_add] at this
          exact this
        · have hj2 : j < len := by simpa using hj
          rw [hg j hj2]
          obtain ⟨_, cs', h2, h3⟩ := hf j hj2
          obtain ⟨_, hl, hc⟩ := World.cells?_some h2
          rw [h3] at hc hl
          have k0 := hc 0 (by decide)
          have k1 := hc 1 (by decide)
          have k2 := hc 2 (by decide)
          have k3 := hc 3 (by decide)
          have k4 := hc 4 (by decide)
          rw [add_pos _ 1 (by decide)] at k1
          rw [add_pos _ 2 (by decide)] at k2
          rw [add_pos _ 3 (by decide)] at k3
          rw [add_pos _ 4 (by decide)] at k4
          rw [add_zero9] at k0
          exact ⟨k0, k1, k2, k3, k4⟩
        · obtain ⟨i, hi, rfl⟩ := List.mem_map.mp hx
          exact (hf i (List.mem_range.mp hi)).1
    refine ⟨?_, hes⟩
    intro cs x h
    obtain ⟨xs, m, hm, hx, hlen, hxl, hf⟩ := DataW.trod_struct Try.underlying24 h
    rw [cellsE] at hlen
    match cs, hlen, xs, hxl with
    | [v0, v1, v2, v3, v4], _, [y0, y1, y2, y3, y4], _ =>
      have g0 := hf 0 _ rfl
      have g1 := hf 1 _ rfl
      have g2 := hf 2 _ rfl
      have g3 := hf 3 _ rfl
      have g4 := hf 4 _ rfl
      simp [cellsI, cellsT, cellsEs] at g0 g1 g2 g3 g4
      obtain ⟨z0, e0, _, q0⟩ := DataW.trod_int Try.underlying3 g0
      obtain ⟨z1, e1, _, q1⟩ := DataW.trod_int Try.underlying3 g1
      obtain ⟨z2, e2, _, q2⟩ := DataW.trod_int Try.underlying3 g2
      obtain ⟨s, e3, _, q3⟩ := DataW.trod_string Try.underlying9 g3
      obtain ⟨A, n, c, es, e4, hr, hi⟩ := (ih m (by omega)).2 [v4] _ g4
      simp at e0 e1 e2 e3 e4
      refine ⟨.mk z0 z1 z2 s.data.toList A n c es, ?_, ?_⟩
      · rw [e0, e1, e2, e3, e4]
        show _ = [_, _, _, Value.string (bs s.data.toList), _]
        rw [bs_data]
        rfl
      · unfold EL.In
        refine ⟨⟨?_, ?_, hr⟩, hi⟩
        · exact wf_int64 q2
        · rw [Array.length_toList]
          show (s.size : Int) ≤ _
          unfold maxLen at q3
          omega

theorem cellsS : Try.prog.cellsOf 47 = 6 := by kernel_rfl
theorem cellsSs : Try.prog.cellsOf 28 = 1 := by kernel_rfl

set_option maxRecDepth 100000 in
theorem open_stmts : ∀ (fuel : Nat) (cs : List Value) (x : DataW H × List MemPlace), DataW.trod enc Try.prog w base sp held fuel 28 cs = some x → ∃ (A : Option Addr) (n c : Nat) (ss : List SL), cs = [.slice A n c] ∧ RowS6 w w.heap.size A n ss ∧ SL.Ins w w.heap.size ss := by
  intro fuel
  induction fuel using Nat.strongRecOn with
  | _ fuel ih =>
    intro cs x h
    rcases DataW.trod_slice Try.underlying28 h with ⟨rfl, _⟩ | ⟨a, len, cap, elems, rest, m, hm, rfl, _, _, hlc, hcm, hlen, hel, _, _⟩
    · exact ⟨none, 0, 0, [], rfl, ⟨rfl, by omega, fun h => absurd h (Nat.lt_irrefl _)⟩, SL.Ins.of fun x hx => absurd hx List.not_mem_nil⟩
    · have one : ∀ (cs : List Value) (x : DataW H × List MemPlace), DataW.trod enc Try.prog w base sp held m 47 cs = some x → ∃ s : SL, cs = (sCells s).toList ∧ s.In w w.heap.size := by
        intro cs x h
        obtain ⟨xs, m2, hm2, hx, hlen, hxl, hf⟩ := DataW.trod_struct Try.underlying47 h
        rw [cellsS] at hlen
        match cs, hlen, xs, hxl with
        | [v0, v1, v2, v3, v4, v5], _, [y0, y1, y2, y3, y4, y5], _ =>
          have g0 := hf 0 _ rfl
          have g1 := hf 1 _ rfl
          have g2 := hf 2 _ rfl
          have g3 := hf 3 _ rfl
          have g4 := hf 4 _ rfl
          have g5 := hf 5 _ rfl
          simp [cellsI, cellsT, cellsEs, cellsSs] at g0 g1 g2 g3 g4 g5
          obtain ⟨z0, e0, _, q0⟩ := DataW.trod_int Try.underlying3 g0
          obtain ⟨z1, e1, _, q1⟩ := DataW.trod_int Try.underlying3 g1
          obtain ⟨s, e2, _, q2⟩ := DataW.trod_string Try.underlying9 g2
          obtain ⟨A, n, c, es, e3, hr, hi⟩ := (open_trees m2).2 [v3] _ g3
          obtain ⟨A1, n1, c1, bo, e4, hr1, hi1⟩ := ih m2 (by omega) [v4] _ g4
          obtain ⟨A2, n2, c2, el, e5, hr2, hi2⟩ := ih m2 (by omega) [v5] _ g5
          simp at e0 e1 e2 e3 e4 e5
          refine ⟨.mk z0 z1 s.data.toList A n c es A1 n1 c1 bo A2 n2 c2 el, ?_, ?_⟩
          · rw [e0, e1, e2, e3, e4, e5]
            show _ = [_, _, Value.string (bs s.data.toList), _, _, _]
            rw [bs_data]
            rfl
          · refine SL.In.mk ⟨⟨wf_int64 q1, ?_, ⟨hr, hi⟩, hr1, hr2⟩, hi1, hi2⟩
            show ((s.data.toList.length : Nat) : Int) ≤ _
            rw [Array.length_toList]
            show (s.size : Int) ≤ _
            unfold maxLen at q2
            omega
      have each : ∀ i, i < len → ∃ s : SL, s.In w w.heap.size ∧ ∃ cs', w.cells? base (a.add (i * 6)) 6 = some cs' ∧ cs' = (sCells s).toList := by
        intro i hi
        have h1 := hel i hi
        rw [cellsS, List.getElem?_eq_getElem (by omega)] at h1
        obtain ⟨cs', h2, h3⟩ := Option.bind_eq_some_iff.1 h1
        obtain ⟨s, he, hin⟩ := one cs' _ h3
        exact ⟨s, hin, cs', h2, he⟩
      have : Inhabited SL := ⟨nilS⟩
      obtain ⟨f, hf⟩ := Go.Deep.choose_lt each
      have hg : ∀ j, j < len → (((List.range len).map f)[j]?.getD nilS) = f j := fun j hj => by simp [hj]
      refine ⟨some a, len, cap, (List.range len).map f, rfl, ⟨by simp, by unfold maxLen at hcm; omega, fun h0 => ⟨a, rfl, ?_, fun j hj => ?_⟩⟩, SL.Ins.of fun x hx => ?_⟩
      · obtain ⟨_, cs', h2, h3⟩ := hf 0 h0
        obtain ⟨_, hl, hc⟩ := World.cells?_some h2
        have h4 := hc 0 (by omega)
        rw [h3] at h4
        have := World.block_lt_of_cell? w _ h4
        rw [blk_add, blk_add] at this
        exact this
      · have hj2 : j < len := by simpa using hj
        rw [hg j hj2]
        obtain ⟨_, cs', h2, h3⟩ := hf j hj2
        obtain ⟨_, hl, hc⟩ := World.cells?_some h2
        rw [h3] at hc hl
        have k0 := hc 0 (by decide)
        have k1 := hc 1 (by decide)
        have k2 := hc 2 (by decide)
        have k3 := hc 3 (by decide)
        have k4 := hc 4 (by decide)
        have k5 := hc 5 (by decide)
        rw [add_pos _ 1 (by decide)] at k1
        rw [add_pos _ 2 (by decide)] at k2
        rw [add_pos _ 3 (by decide)] at k3
        rw [add_pos _ 4 (by decide)] at k4
        rw [add_pos _ 5 (by decide)] at k5
        rw [add_zero9] at k0
        exact ⟨k0, k1, k2, k3, k4, k5⟩
      · obtain ⟨i, hi, rfl⟩ := List.mem_map.mp hx
        exact (hf i (List.mem_range.mp hi)).1
end

open Go.ChangeShapes Go.WideShapes Go.RowKit

section
variable {H : Type} {enc : TypeId × Value → H} {w : World} {base : Nat} {sp : Nat → Bool} {held : Bool}

theorem open_slice_any {t e : TypeId} (ht : Try.prog.underlying t = some (.slice e)) {fuel : Nat} {v : Value} {x : DataW H × List MemPlace} (h : DataW.trod enc Try.prog w base sp held fuel t [v] = some x) : ∃ (A : Option Addr) (n c : Nat), v = .slice A n c ∧ (n : Int) ≤ 9223372036854775807 := by
  rcases DataW.trod_slice ht h with ⟨hc, _⟩ | ⟨a, len, cap, elems, rest, m, _, hc, _, _, hlc, hcm, _⟩
  · simp at hc
    exact ⟨none, 0, 0, hc, by decide⟩
  · simp at hc
    exact ⟨some a, len, cap, hc, by unfold maxLen at hcm; omega⟩

theorem open_slice_ints {fuel : Nat} {v : Value} {x : DataW H × List MemPlace} (h : DataW.trod enc Try.prog w base sp held fuel 32 [v] = some x) : ∃ (A : Option Addr) (n c : Nat) (zs : List Int), v = .slice A n c ∧ (n : Int) ≤ 9223372036854775807 ∧ RdI w w.heap.size A n zs := by
  rcases open_ints Try.underlying32 Try.underlying3 (by kernel_rfl) h with ⟨hc, _⟩ | ⟨a, len, cap, zs, hc, _, hlc, hcm, hlen, _, hcell, hwz⟩
  · simp at hc
    exact ⟨none, 0, 0, [], hc, by decide, RdI.none_ _ _⟩
  · simp at hc
    have hl : len ≤ zs.length := by rw [hlen]; split <;> omega
    refine ⟨some a, len, cap, zs.take len, hc, by unfold maxLen at hcm; omega, by simp; omega, fun hn => ⟨a, rfl, ?_, fun j hj => ?_⟩, fun j => ?_⟩
    · have := World.block_lt_of_cell? w _ (hcell 0 (by omega))
      rw [blk_add] at this
      exact this
    · have hj2 : j < len := by simp at hj; omega
      rw [hcell j (by omega)]
      simp [List.getD, hj2]
    · by_cases hj : j < len
      · have e : (zs.take len).getD j 0 = zs.getD j 0 := by simp [List.getD, hj]
        rw [e]
        exact wf_i64 (hwz _ (by simp [List.getD, show j < zs.length from by omega]))
      · have e : (zs.take len).getD j 0 = 0 := by rw [List.getD, List.getElem?_take, if_neg hj]; rfl
        rw [e]
        omega

theorem cellsL0 : Try.prog.cellsOf 31 = 1 := by kernel_rfl
theorem cellsL1 : Try.prog.cellsOf 32 = 1 := by kernel_rfl
theorem cellsL2 : Try.prog.cellsOf 33 = 1 := by kernel_rfl
theorem cellsL3 : Try.prog.cellsOf 34 = 1 := by kernel_rfl
theorem cellsL4 : Try.prog.cellsOf 35 = 1 := by kernel_rfl
theorem cellsTb : Try.prog.cellsOf 37 = 15 := by kernel_rfl

set_option maxRecDepth 100000 in
set_option maxHeartbeats 1600000 in
theorem open_tables (fuel : Nat) (cs : List Value) (x : DataW H × List MemPlace) (h : DataW.trod enc Try.prog w base sp held fuel 37 cs = some x) : ∃ T : TV, cs = T.cells.toList ∧ T.In w w.heap.size := by
  obtain ⟨xs, m, hm, hx, hlen, hxl, hf⟩ := DataW.trod_struct Try.underlying37 h
  rw [cellsTb] at hlen
  match cs, hlen, xs, hxl with
  | [v0, v1, v2, v3, v4, v5, v6, v7, v8, v9, v10, v11, v12, v13, v14], _, [y0, y1, y2, y3, y4, y5, y6, y7, y8, y9, y10, y11, y12, y13, y14], _ =>
    have g0 := hf 0 _ rfl
    have g1 := hf 1 _ rfl
    have g2 := hf 2 _ rfl
    have g3 := hf 3 _ rfl
    have g4 := hf 4 _ rfl
    have g5 := hf 5 _ rfl
    have g6 := hf 6 _ rfl
    have g7 := hf 7 _ rfl
    have g8 := hf 8 _ rfl
    have g9 := hf 9 _ rfl
    have g10 := hf 10 _ rfl
    have g11 := hf 11 _ rfl
    have g12 := hf 12 _ rfl
    have g13 := hf 13 _ rfl
    have g14 := hf 14 _ rfl
    simp [cellsI, cellsL0, cellsL1, cellsL2, cellsL3, cellsL4] at g0 g1 g2 g3 g4 g5 g6 g7 g8 g9 g10 g11 g12 g13 g14
    obtain ⟨z0, e0, _, q0⟩ := DataW.trod_int Try.underlying3 g0
    simp at e0
    obtain ⟨z1, e1, _, q1⟩ := DataW.trod_int Try.underlying3 g1
    simp at e1
    obtain ⟨z2, e2, _, q2⟩ := DataW.trod_int Try.underlying3 g2
    simp at e2
    obtain ⟨z3, e3, _, q3⟩ := DataW.trod_int Try.underlying3 g3
    simp at e3
    obtain ⟨A4, n4, c4, e4, b4⟩ := open_slice_any Try.underlying31 g4
    obtain ⟨z5, e5, _, q5⟩ := DataW.trod_int Try.underlying3 g5
    simp at e5
    obtain ⟨A6, n6, c6, e6, b6⟩ := open_slice_any Try.underlying32 g6
    obtain ⟨A7, n7, c7, e7, b7⟩ := open_slice_any Try.underlying32 g7
    obtain ⟨A8, n8, c8, e8, b8⟩ := open_slice_any Try.underlying33 g8
    obtain ⟨A9, n9, c9, e9, b9⟩ := open_slice_any Try.underlying34 g9
    obtain ⟨A10, n10, c10, e10, b10⟩ := open_slice_any Try.underlying35 g10
    obtain ⟨A11, n11, c11, zs11, e11, b11, r11⟩ := open_slice_ints g11
    obtain ⟨A12, n12, c12, e12, b12⟩ := open_slice_any Try.underlying32 g12
    obtain ⟨A13, n13, c13, zs13, e13, b13, r13⟩ := open_slice_ints g13
    obtain ⟨A14, n14, c14, e14, b14⟩ := open_slice_any Try.underlying32 g14
    refine ⟨TV.mk z0 z1 z2 z3 A4 n4 c4 z5 A6 n6 c6 A7 n7 c7 A8 n8 c8 A9 n9 c9 A10 n10 c10 A11 n11 c11 A12 n12 c12 A13 n13 c13 A14 n14 c14 zs11 zs13, ?_, ⟨⟨b4, b6, b7, b11, b12, b13⟩, r11, r13⟩⟩
    rw [e0, e1, e2, e3, e4, e5, e6, e7, e8, e9, e10, e11, e12, e13, e14]
    rfl
end

end Go.Proofs.Ytdmpadonnobeaaa
