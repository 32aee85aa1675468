/- What is known of a slice of texts that came in. No function of the program is named here. -/
import Derived.Test.YtgeglhgkibcpfaaDoorStrs
namespace Go.Proofs.YtgeglhgkibcpfaaDoor
open Go.RowKit

/-- What is known of a slice of texts that came in: it is nil; or it leads to a row of 'cap' cells, the texts 'ss' (the first 'len' are its elements). -/
def IsRowS (w : World) (a : Option Addr) (len cap : Nat) (ss : List ByteArray) : Prop :=
  (a = none ∧ len = 0 ∧ cap = 0) ∨
  ∃ x, a = some x ∧ len ≤ cap ∧ cap ≤ maxLen ∧ len ≤ ss.length ∧ (∀ i, i < ss.length → w.cell? (x.add i) = some (.string (ss.getD i ByteArray.empty))) ∧ ∀ s ∈ ss, s.size ≤ maxLen

theorem IsRowS.rdS {w : World} {a : Option Addr} {len cap : Nat} {ss : List ByteArray} (h : IsRowS w a len cap ss) :
    ∃ ls, RdS w w.heap.size a len ls ∧ len ≤ cap ∧ (cap : Int) ≤ 9223372036854775807 ∧ ∀ j : Nat, ((bs (ls[j]?.getD [])).size : Int) ≤ 9223372036854775807 := by
  rcases h with ⟨rfl, rfl, rfl⟩ | ⟨x, rfl, h1, h2, h3, hc, hs⟩
  · exact ⟨[], RdS.nil _ _ _, Nat.le_refl _, by omega, fun j => by simp [bs_size]⟩
  · unfold maxLen at h2 hs
    have hl : ((ss.take len).map (·.data.toList)).length = len := by simp; omega
    have hat : ∀ j, j < len → bs (((ss.take len).map (·.data.toList))[j]?.getD []) = ss.getD j ByteArray.empty := fun j hj => by
      have hj2 : j < ss.length := by omega
      simp [List.getD, hj, hj2, bs_data]
    refine ⟨(ss.take len).map (·.data.toList), ⟨hl, fun hn => ⟨x, rfl, ?_, fun j hj => ?_⟩⟩, h1, by omega, fun j => ?_⟩
    · have := World.block_lt_of_cell? w _ (hc 0 (by omega))
      rw [blk_add] at this
      exact this
    · rw [hat j (by omega)]
      exact hc j (by omega)
    · by_cases hj : j < len
      · rw [hat j hj]
        have hj2 : j < ss.length := by omega
        have := hs (ss.getD j ByteArray.empty) (by simp [List.getD, hj2])
        omega
      · rw [List.getElem?_eq_none (by omega)]
        simp [bs_size]

end Go.Proofs.YtgeglhgkibcpfaaDoor
