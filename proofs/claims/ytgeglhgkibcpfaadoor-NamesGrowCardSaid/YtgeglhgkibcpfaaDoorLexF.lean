/- Contract of the reference's sign. -/
import Derived.Test.YtgeglhgkibcpfaaDoorLexE
namespace Go.Proofs.YtgeglhgkibcpfaaDoor
open Go.RowKit

theorem below_drewN9 {a w : World} {B : Nat} (h : Below B a w) (n : Nat) : Below B a (w.drewN n) := ⟨h.os, h.tape, h.output, h.size, h.block⟩

theorem ext_two {s : ByteArray} {i : Nat} (h : i + 1 < s.size) : (s.extract i (i + 2)).toList = [s[i], s[i + 1]] := by
  rw [ByteArray.toList_eq, ext_list, drop_at (by omega), drop_at h]
  rfl

theorem sg_at {k : Nat} (h : k < 16) : signs1[k]?.getD 0 = ((⟨#[40, 41, 123, 125, 44, 59, 46, 124, 47, 43, 45, 42, 37, 61, 60, 62]⟩ : ByteArray)[k]'(by exact h)) := byte_at9 (⟨#[40, 41, 123, 125, 44, 59, 46, 124, 47, 43, 45, 42, 37, 61, 60, 62]⟩ : ByteArray) k h

theorem signs_no {c : UInt8} (h : ∀ m, m < 16 → signs1[m]?.getD 0 ≠ c) : c ∉ signs1 := fun hc => by
  obtain ⟨m, hm, e⟩ := List.getElem_of_mem hc
  have hm' : m < 16 := hm
  exact h m hm' (by rw [List.getElem?_eq_getElem hm]; exact e)

theorem signs_in {c : UInt8} {k : Nat} (hk : k < 16) (h : signs1[k]?.getD 0 = c) : c ∈ signs1 := by
  have hk' : k < signs1.length := hk
  rw [List.getElem?_eq_getElem hk'] at h
  rw [← h]
  exact List.getElem_mem hk'

theorem sign_two {c d : UInt8} {r : List UInt8} (h : [c, d] = [61, 61] ∨ [c, d] = [33, 61] ∨ [c, d] = [60, 61] ∨ [c, d] = [62, 61]) : signL (c :: d :: r) = 2 := if_pos h
theorem sign_one {c : UInt8} {r : List UInt8} (h : ¬ ((c :: r).take 2 = [61, 61] ∨ (c :: r).take 2 = [33, 61] ∨ (c :: r).take 2 = [60, 61] ∨ (c :: r).take 2 = [62, 61])) (h2 : c ∈ signs1) : signL (c :: r) = 1 := (if_neg h).trans (if_pos h2)
theorem sign_none {c : UInt8} {r : List UInt8} (h : ¬ ((c :: r).take 2 = [61, 61] ∨ (c :: r).take 2 = [33, 61] ∨ (c :: r).take 2 = [60, 61] ∨ (c :: r).take 2 = [62, 61])) (h2 : c ∉ signs1) : signL (c :: r) = 0 := (if_neg h).trans (if_neg h2)

end Go.Proofs.YtgeglhgkibcpfaaDoor
