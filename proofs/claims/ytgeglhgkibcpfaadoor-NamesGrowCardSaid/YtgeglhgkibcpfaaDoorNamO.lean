/- Declarations that come in: whatever reads as such lies so in memory. -/
import Derived.Test.YtgeglhgkibcpfaaDoorNamE
import Derived.Test.YtgeglhgkibcpfaaDoorRowS
import Derived.SliceStrings
import Derived.ChangeArms
import Derived.Deep.Slices
import Derived.ProofKit
namespace Go.Proofs.YtgeglhgkibcpfaaDoor
open Go.ChangeShapes Go.WideShapes Go.RowKit
set_option linter.unusedVariables false

section
variable {H : Type} {enc : TypeId × Value → H} {w : World} {base : Nat} {sp : Nat → Bool} {held : Bool}

theorem open_row15 {fuel : Nat} {v : Value} {x : DataW H × List MemPlace} (h : DataW.trod enc Tryd.prog w base sp held fuel 22 [v] = some x) (hw : ∀ b ∈ DataW.weights Tryd.prog 22 x.1, b ≤ reachBytes) :
    ∃ (A : Option Addr) (n c : Nat) (ls : List (List UInt8)), v = .slice A n c ∧ RdS w w.heap.size A n ls ∧ n ≤ c ∧ n ≤ 140737488355328 ∧ ∀ s ∈ ls, (s.length : Int) ≤ 9223372036854775807 := by
  rcases open_strings Tryd.underlying22 Tryd.underlying9 (by kernel_rfl) h with ⟨hcs, _⟩ | ⟨a, l, c, zs, hcs, _, hl, hm, hz, hx, hcell, hwz⟩
  · simp at hcs
    exact ⟨none, 0, 0, [], hcs, RdS.nil _ _ _, Nat.le_refl _, by omega, fun s hs => (by cases hs)⟩
  · simp at hcs
    have hlz : l ≤ zs.length := by rw [hz]; split <;> omega
    obtain ⟨ls, h1, h2, h3, h4⟩ := IsRowS.rdS (w := w) (a := some a) (len := l) (cap := c) (ss := zs) (.inr ⟨a, rfl, hl, hm, hlz, hcell, hwz⟩)
    refine ⟨some a, l, c, ls, hcs, h1, h2, ?_, fun s hs => ?_⟩
    · have hb := hw ((l + (zs.length - l)) * Tryd.prog.bytesOf 9) (by
        rw [hx]
        unfold DataW.weights
        rw [Tryd.underlying22]
        refine List.mem_cons.2 (.inl ?_)
        simp [strs, Nat.min_eq_left hlz])
      rw [show Tryd.prog.bytesOf 9 = 16 by kernel_rfl] at hb
      unfold reachBytes at hb
      omega
    · obtain ⟨j, hj, rfl⟩ := List.getElem_of_mem hs
      have := h4 j
      rw [List.getElem?_eq_getElem hj] at this
      simpa [bs_size] using this

theorem cellsLs : Tryd.prog.cellsOf 22 = 1 := by kernel_rfl
theorem cellsDecl : Tryd.prog.cellsOf 24 = 7 := by kernel_rfl

/-- what is known of declarations that came in -/
structure Dcl.Came (X : Dcl) (w : World) (d : Dl) : Prop where
  rd : X.Rd w w.heap.size d
  cap : X.n0 ≤ X.c0 ∧ X.n1 ≤ X.c1 ∧ X.n2 ≤ X.c2 ∧ X.n3 ≤ X.c3 ∧ X.n4 ≤ X.c4 ∧ X.n5 ≤ X.c5 ∧ X.n6 ≤ X.c6
  few : X.n0 ≤ 140737488355328 ∧ X.n1 ≤ 140737488355328 ∧ X.n2 ≤ 140737488355328 ∧ X.n3 ≤ 140737488355328 ∧ X.n4 ≤ 140737488355328 ∧ X.n5 ≤ 140737488355328 ∧ X.n6 ≤ 140737488355328
  len : ∀ e ∈ allE d, (e.name.length : Int) ≤ 9223372036854775807

set_option maxRecDepth 100000 in
set_option maxHeartbeats 1600000 in
theorem open_decl (fuel : Nat) (cs : List Value) (x : DataW H × List MemPlace) (h : DataW.trod enc Tryd.prog w base sp held fuel 24 cs = some x) (hw : ∀ b ∈ DataW.weights Tryd.prog 24 x.1, b ≤ reachBytes) : ∃ (X : Dcl) (d : Dl), cs = (dclCells X).toList ∧ X.Came w d := by
  obtain ⟨xs, m, hm, hx, hlen, hxl, hf⟩ := DataW.trod_struct Tryd.underlying24 h
  rw [cellsDecl] at hlen
  match cs, hlen, xs, hxl with
  | [v0, v1, v2, v3, v4, v5, v6], _, [y0, y1, y2, y3, y4, y5, y6], _ =>
    have g0 := hf 0 _ rfl
    have g1 := hf 1 _ rfl
    have g2 := hf 2 _ rfl
    have g3 := hf 3 _ rfl
    have g4 := hf 4 _ rfl
    have g5 := hf 5 _ rfl
    have g6 := hf 6 _ rfl
    simp [cellsLs] at g0 g1 g2 g3 g4 g5 g6
    obtain ⟨A0, n0, c0, l0, rfl, r0, k0, b0, s0⟩ := open_row15 g0 (fun b hb => hw b (by
      rw [hx]
      unfold DataW.weights
      rw [Tryd.underlying24]
      simp only [List.map_cons, List.map_nil, DataW.weightsEach, List.mem_append]
      exact .inl hb))
    obtain ⟨A1, n1, c1, l1, rfl, r1, k1, b1, s1⟩ := open_row15 g1 (fun b hb => hw b (by
      rw [hx]
      unfold DataW.weights
      rw [Tryd.underlying24]
      simp only [List.map_cons, List.map_nil, DataW.weightsEach, List.mem_append]
      exact .inr (.inl hb)))
    obtain ⟨A2, n2, c2, l2, rfl, r2, k2, b2, s2⟩ := open_row15 g2 (fun b hb => hw b (by
      rw [hx]
      unfold DataW.weights
      rw [Tryd.underlying24]
      simp only [List.map_cons, List.map_nil, DataW.weightsEach, List.mem_append]
      exact .inr (.inr (.inl hb))))
    obtain ⟨A3, n3, c3, l3, rfl, r3, k3, b3, s3⟩ := open_row15 g3 (fun b hb => hw b (by
      rw [hx]
      unfold DataW.weights
      rw [Tryd.underlying24]
      simp only [List.map_cons, List.map_nil, DataW.weightsEach, List.mem_append]
      exact .inr (.inr (.inr (.inl hb)))))
    obtain ⟨A4, n4, c4, l4, rfl, r4, k4, b4, s4⟩ := open_row15 g4 (fun b hb => hw b (by
      rw [hx]
      unfold DataW.weights
      rw [Tryd.underlying24]
      simp only [List.map_cons, List.map_nil, DataW.weightsEach, List.mem_append]
      exact .inr (.inr (.inr (.inr (.inl hb))))))
    obtain ⟨A5, n5, c5, l5, rfl, r5, k5, b5, s5⟩ := open_row15 g5 (fun b hb => hw b (by
      rw [hx]
      unfold DataW.weights
      rw [Tryd.underlying24]
      simp only [List.map_cons, List.map_nil, DataW.weightsEach, List.mem_append]
      exact .inr (.inr (.inr (.inr (.inr (.inl hb)))))))
    obtain ⟨A6, n6, c6, l6, rfl, r6, k6, b6, s6⟩ := open_row15 g6 (fun b hb => hw b (by
      rw [hx]
      unfold DataW.weights
      rw [Tryd.underlying24]
      simp only [List.map_cons, List.map_nil, DataW.weightsEach, List.mem_append]
      exact .inr (.inr (.inr (.inr (.inr (.inr (.inl hb))))))))
    refine ⟨⟨A0, n0, c0, A1, n1, c1, A2, n2, c2, A3, n3, c3, A4, n4, c4, A5, n5, c5, A6, n6, c6⟩, ⟨l0, l1, l2, l3, l4, l5, l6⟩, rfl, ⟨⟨r0, r1, r2, r3, r4, r5, r6⟩, ⟨k0, k1, k2, k3, k4, k5, k6⟩, ⟨b0, b1, b2, b3, b4, b5, b6⟩, fun e he => ?_⟩⟩
    unfold allE at he
    simp only [List.mem_append] at he
    rcases he with he | he | he | he | he | he | he <;> have hn := (entF_mem he).2.2.2.2.2.2
    · exact s0 _ hn
    · exact s1 _ hn
    · exact s2 _ hn
    · exact s3 _ hn
    · exact s4 _ hn
    · exact s5 _ hn
    · exact s6 _ hn

theorem add_zeroN (a : Addr) : a.add 0 = a := by unfold Addr.add; rw [if_pos rfl]
theorem cellsNm : Tryd.prog.cellsOf 45 = 3 := by kernel_rfl
theorem cellsIn : Tryd.prog.cellsOf 3 = 1 := by kernel_rfl
theorem cellsTx : Tryd.prog.cellsOf 9 = 1 := by kernel_rfl

set_option maxRecDepth 100000 in
theorem open_name {fuel : Nat} {cs : List Value} {x : DataW H × List MemPlace} (h : DataW.trod enc Tryd.prog w base sp held fuel 45 cs = some x) : ∃ t : Nm, cs = nmc t := by
  obtain ⟨xs, m, hm, hx, hlen, hxl, hf⟩ := DataW.trod_struct Tryd.underlying45 h
  rw [cellsNm] at hlen
  match cs, hlen, xs, hxl with
  | [v0, v1, v2], _, [y0, y1, y2], _ =>
    have g0 := hf 0 _ rfl
    have g1 := hf 1 _ rfl
    have g2 := hf 2 _ rfl
    simp [cellsIn, cellsTx] at g0 g1 g2
    obtain ⟨s, e0, _, _⟩ := DataW.trod_string Tryd.underlying9 g0
    obtain ⟨z1, e1, _, _⟩ := DataW.trod_int Tryd.underlying3 g1
    obtain ⟨z2, e2, _, _⟩ := DataW.trod_int Tryd.underlying3 g2
    simp at e0 e1 e2
    refine ⟨⟨s.data.toList, z1, z2⟩, ?_⟩
    rw [e0, e1, e2]
    show _ = [Value.string (bs s.data.toList), _, _]
    rw [bs_data]

set_option maxRecDepth 100000 in
theorem open_names (fuel : Nat) {A : Option Addr} {n c : Nat} {x : DataW H × List MemPlace} (h : DataW.trod enc Tryd.prog w base sp held fuel 27 [.slice A n c] = some x) : ∃ ts : List Nm, RdN w w.heap.size A n ts ∧ (n : Int) ≤ 9223372036854775807 := by
  rcases DataW.trod_slice Tryd.underlying27 h with ⟨hcs, _⟩ | ⟨a, len, cap, elems, rest, m, hm, hcs, _, _, hlc, hcm, hlen, hel, _, _⟩
  · simp at hcs
    obtain ⟨rfl, rfl, rfl⟩ := hcs
    exact ⟨[], RdN.nil _ _ _, by omega⟩
  · simp at hcs
    obtain ⟨rfl, rfl, rfl⟩ := hcs
    have each : ∀ i, i < n → ∃ e : Nm, ∃ cs', w.cells? base (a.add (i * 3)) 3 = some cs' ∧ cs' = nmc e := by
      intro i hi
      have h1 := hel i hi
      rw [cellsNm, List.getElem?_eq_getElem (by omega)] at h1
      obtain ⟨cs', h2, h3⟩ := Option.bind_eq_some_iff.1 h1
      obtain ⟨e, he⟩ := open_name h3
      exact ⟨e, cs', h2, he⟩
    have : Inhabited Nm := ⟨noNm⟩
    obtain ⟨f, hf⟩ := Go.Deep.choose_lt each
    have hg : ∀ j, j < n → (((List.range n).map f)[j]?.getD noNm) = f j := fun j hj => by simp [hj]
    refine ⟨(List.range n).map f, ⟨by simp, fun h0 => ⟨a, rfl, ?_, fun j hj => ?_⟩⟩, by unfold maxLen at hcm; omega⟩
    · obtain ⟨cs', h2, h3⟩ := hf 0 h0
      obtain ⟨_, hl, hc⟩ := World.cells?_some h2
      have h4 := hc 0 (by omega)
      rw [h3] at h4
      have := World.block_lt_of_cell? w _ h4
      rw [blk_add, blk_add] at this
      exact this
    · have hj2 : j < n := by simpa using hj
      rw [hg j hj2]
      obtain ⟨cs', h2, h3⟩ := hf j hj2
      obtain ⟨_, hl, hc⟩ := World.cells?_some h2
      rw [h3] at hc hl
      have k0 := hc 0 (by decide)
      have k1 := hc 1 (by decide)
      have k2 := hc 2 (by decide)
      rw [add_pos _ 1 (by decide)] at k1
      rw [add_pos _ 2 (by decide)] at k2
      rw [add_zeroN] at k0
      exact ⟨k0, k1, k2⟩
end

end Go.Proofs.YtgeglhgkibcpfaaDoor
