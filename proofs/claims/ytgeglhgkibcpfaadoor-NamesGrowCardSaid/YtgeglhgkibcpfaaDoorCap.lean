/- Contracts of Cap, the program's and the reference's, and of the reference's Short, IsName, IsWord, IsText. -/
import Derived.Test.YtgeglhgkibcpfaaDoorLower
namespace Go.Proofs.YtgeglhgkibcpfaaDoor
open Go.RowKit

/-- a text with a great letter ahead -/
def capB (s : ByteArray) : ByteArray := ⟨(capL s.data.toList).toArray⟩

theorem capB_nil {s : ByteArray} (h : s.size = 0) : capB s = s := by
  have e : s.data.toList = [] := List.eq_nil_of_length_eq_zero (by rw [Array.length_toList]; exact h)
  have h2 := Lib.mk_data s
  unfold capB
  rw [e] at h2 ⊢
  exact h2

theorem capB_no {s : ByteArray} (h0 : 0 < s.size) (h : isSm s[0] = false) : capB s = s := by
  have h2 := Lib.mk_data s
  have e := byte_at s 0 h0
  unfold capB
  cases hl : s.data.toList with
  | nil => rw [hl] at h2; exact h2
  | cons c r =>
    rw [hl] at e h2
    simp at e
    rw [← e] at h
    simp only [capL]
    rw [if_neg (by rw [h]; decide)]
    exact h2

theorem capB_yes {s : ByteArray} (h0 : 0 < s.size) (h : isSm s[0] = true) : capL s.data.toList = s.data.toList.set 0 (byt ((s[0].toNat : Int) - 32)) := by
  have e := byte_at s 0 h0
  cases hl : s.data.toList with
  | nil => rw [Lib.size_eq, hl] at h0; simp at h0
  | cons c r =>
    rw [hl] at e
    simp at e
    rw [← e] at h ⊢
    simp only [capL]
    rw [if_pos h]
    rfl

theorem sm_bounds {c : UInt8} (h : isSm c = true) : 97 ≤ (c.toNat : Int) ∧ (c.toNat : Int) ≤ 122 := by
  simp [isSm] at h; omega

end Go.Proofs.YtgeglhgkibcpfaaDoor
