/- Contracts of the reference's Quote; of the statements' feeds, sameToks. -/
import Derived.Test.YtgeglhgkibcpfaaDoorLexJ
namespace Go.Proofs.YtgeglhgkibcpfaaDoor
open Go.RowKit

def feedsN (s : List UInt8) : Nat := s.countP (fun c => decide ((c.toNat : Int) = 10))
def quoF (s : List UInt8) (j : Nat) : List UInt8 := 34 :: (s.take j).flatMap quo1

theorem quo1_len (c : UInt8) : (quo1 c).length ≤ 2 := by
  unfold quo1
  split
  · exact Nat.le_refl _
  · split
    · exact Nat.le_refl _
    · exact Nat.le_succ _

theorem quoF_len (s : List UInt8) (j : Nat) : (quoF s j).length ≤ 2 * j + 1 := by
  have h : ∀ l : List UInt8, (l.flatMap quo1).length ≤ 2 * l.length := fun l => by
    induction l with
    | nil => exact Nat.le_refl _
    | cons c r ih =>
      rw [List.flatMap_cons, List.length_append, List.length_cons]
      have := quo1_len c
      omega
  unfold quoF
  rw [List.length_cons]
  have := h (s.take j)
  rw [List.length_take] at this
  omega

theorem quoF_next {s : ByteArray} {j : Nat} (h : j < s.size) : quoF s.data.toList (j + 1) = quoF s.data.toList j ++ quo1 s[j] := by
  unfold quoF
  rw [take_at h, List.flatMap_append]
  simp

theorem quo_10 {c : UInt8} (h : (c.toNat : Int) = 10) : quo1 c = [92, 110] := if_pos h
theorem quo_34 {c : UInt8} (h : ¬ (c.toNat : Int) = 10) (h2 : (c.toNat : Int) = 34 ∨ (c.toNat : Int) = 92) : quo1 c = [92, c] := (if_neg h).trans (if_pos h2)
theorem quo_no {c : UInt8} (h : ¬ (c.toNat : Int) = 10) (h2 : ¬ (c.toNat : Int) = 34) (h3 : ¬ (c.toNat : Int) = 92) : quo1 c = [c] := (if_neg h).trans (if_neg (fun h => h.elim h2 h3))

theorem feeds_next {s : ByteArray} {j : Nat} (h : j < s.size) : feedsN (s.data.toList.take (j + 1)) = feedsN (s.data.toList.take j) + if (s[j].toNat : Int) = 10 then 1 else 0 := by
  unfold feedsN
  rw [take_at h, List.countP_append]
  by_cases h : (s[j].toNat : Int) = 10
  · simp [h]
  · simp [h]

theorem feeds_le (l : List UInt8) : feedsN l ≤ l.length := List.countP_le_length

theorem toks_all {ts us : List Tk} (hl : ts.length = us.length) (h : ∀ j, j < ts.length → ts[j]?.getD noTk = us[j]?.getD noTk) : ts = us := by
  apply List.ext_getElem hl
  intro j h1 h2
  have := h j h1
  rw [List.getElem?_eq_getElem h1, List.getElem?_eq_getElem h2] at this
  exact this

theorem tok_cells {w : World} {B : Nat} {ad : Addr} {n : Nat} {ts : List Tk} (h : RdT w B (some ad) n ts) {j : Nat} (hj : j < n) : w.cell? (ad.add (j * 5)) = some (.int .i64 (ts[j]?.getD noTk).kind) ∧
    w.cell? ⟨(ad.add (j * 5)).block, (ad.add (j * 5)).off + 1, none⟩ = some (.string (bs (ts[j]?.getD noTk).text)) ∧ w.cell? ⟨(ad.add (j * 5)).block, (ad.add (j * 5)).off + 2, none⟩ = some (.int .i64 (ts[j]?.getD noTk).num) ∧
    w.cell? ⟨(ad.add (j * 5)).block, (ad.add (j * 5)).off + 3, none⟩ = some (.int .i64 (ts[j]?.getD noTk).line) ∧ w.cell? ⟨(ad.add (j * 5)).block, (ad.add (j * 5)).off + 4, none⟩ = some (.int .i64 (ts[j]?.getD noTk).col) := by
  obtain ⟨ad', e, _, h2⟩ := h.2 (by omega)
  cases e
  exact h2 j (by rw [h.1]; exact hj)

end Go.Proofs.YtgeglhgkibcpfaaDoor
