/- Contract of the reference's gap. -/
import Derived.Test.YtgeglhgkibcpfaaDoorLexA
namespace Go.Proofs.YtgeglhgkibcpfaaDoor
open Go.RowKit

theorem gapF_no {m : Bool} {c : UInt8} {r : List UInt8} (h : mayB c = false) : gapF m (c :: r) = (0, false) := by
  unfold gapF
  rw [if_pos h]

theorem gapF_end {m m2 : Bool} {c : UInt8} {r : List UInt8} (h : mayB c = true) (h2 : ((r.head? == some 47 && decide ((c.toNat : Int) = 47)) || (m && decide ((c.toNat : Int) ≠ 10))) = m2) (hs : m2 = false ∧ (c.toNat : Int) ≠ 32 ∧ (c.toNat : Int) ≠ 10 ∧ (c.toNat : Int) ≠ 9) : gapF m (c :: r) = (0, true) := by
  unfold gapF
  rw [if_neg (by rw [h]; decide)]
  simp only [h2]
  rw [if_pos hs]

theorem gapF_on {m m2 : Bool} {c : UInt8} {r : List UInt8} (h : mayB c = true) (h2 : ((r.head? == some 47 && decide ((c.toNat : Int) = 47)) || (m && decide ((c.toNat : Int) ≠ 10))) = m2) (hs : ¬ (m2 = false ∧ (c.toNat : Int) ≠ 32 ∧ (c.toNat : Int) ≠ 10 ∧ (c.toNat : Int) ≠ 9)) : gapF m (c :: r) = ((gapF m2 r).1 + 1, (gapF m2 r).2) := by
  conv => lhs; unfold gapF
  rw [if_neg (by rw [h]; decide)]
  simp only [h2]
  rw [if_neg hs]

theorem head_at {s : ByteArray} {j : Nat} (h : j < s.size) : (s.data.toList.drop j).head? = some s[j] := by rw [drop_at h]; rfl
theorem head_no {s : ByteArray} {j : Nat} (h : ¬ j < s.size) : (s.data.toList.drop j).head? = none := by
  rw [List.drop_of_length_le (by rw [Array.length_toList]; show s.size ≤ j; omega)]
  rfl

theorem gap_ret {a b : Nat} {x y : Bool} (h : x = y) (h2 : a = b) : Ending.returned (.tuple #[.int .i64 a, .bool x]) = .returned (.tuple #[.int .i64 (b : Nat), .bool y]) := by rw [h, h2]

end Go.Proofs.YtgeglhgkibcpfaaDoor
