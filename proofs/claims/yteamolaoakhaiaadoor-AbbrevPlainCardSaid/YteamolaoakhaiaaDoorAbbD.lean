/- Contract of layer 7's reference: Least. -/
import Derived.Test.YteamolaoakhaiaaDoorAbbC
import Derived.Deep.RegionLaw
import Derived.Laws.MakeOwn
namespace Go.Proofs.YteamolaoakhaiaaDoor
open Go.RowKit

/-- a table of ints: block g, known whole -/
def Tb (w : World) (g : Nat) (zs : List Int) : Prop := Blk w g 3 (iv zs).toArray

theorem Tb.cell {w : World} {g : Nat} {zs : List Int} (h : Tb w g zs) {j : Nat} (hj : j < zs.length) : w.cell? ⟨g, j, none⟩ = some (.int .i64 (zs.getD j 0)) := by
  rw [Blk.cell h, List.getElem?_toArray, iv_at hj]

theorem iv_set (zs : List Int) (j : Nat) (z : Int) : iv (zs.set j z) = (iv zs).set j (.int .i64 z) := by simp [iv, List.map_set]

theorem Tb.set_ {w : World} {g : Nat} {zs : List Int} (h : Tb w g zs) (j : Nat) (z : Int) : Tb (w.setCell ⟨g, j, none⟩ (.int .i64 z)) g (zs.set j z) := by
  have h2 := Blk.set_ h j (.int .i64 z)
  unfold Tb
  rw [iv_set]
  simpa using h2

theorem Tb.below {w w' : World} {g : Nat} {zs : List Int} (h : Tb w g zs) (hb : Below w.heap.size w w') : Tb w' g zs := Blk.below h hb (Blk.lt h)

/-- numbers as ints -/
def ni (l : List Nat) : List Int := l.map fun x : Nat => (x : Int)
theorem ni_getD (l : List Nat) (j : Nat) : (ni l).getD j 0 = ((l.getD j 0 : Nat) : Int) := by
  simp only [ni, List.getD, List.getElem?_map]
  cases l[j]? <;> simp
theorem ni_length (l : List Nat) : (ni l).length = l.length := by simp [ni]

/-- the table where the places from k on are filled, and the one before it holds m -/
def rowK (ab : List (List UInt8)) (s : List UInt8) (k : Nat) : List Int := List.replicate k 0 ++ ni (tab ab (s.drop k))
def rowM (ab : List (List UInt8)) (s : List UInt8) (i : Nat) (m : Nat) : List Int := List.replicate i 0 ++ (m : Int) :: ni (tab ab (s.drop (i + 1)))

theorem rowK_len (ab : List (List UInt8)) (s : List UInt8) {k : Nat} (h : k ≤ s.length) : (rowK ab s k).length = s.length + 1 := by
  unfold rowK
  rw [List.length_append, List.length_replicate, ni_length, tab_len, List.length_drop]
  omega
theorem rowM_len (ab : List (List UInt8)) (s : List UInt8) {i m : Nat} (h : i < s.length) : (rowM ab s i m).length = s.length + 1 := by
  unfold rowM
  rw [List.length_append, List.length_replicate, List.length_cons, ni_length, tab_len, List.length_drop]
  omega
theorem rowK_set (ab : List (List UInt8)) (s : List UInt8) (i m : Nat) : (rowK ab s (i + 1)).set i (m : Int) = rowM ab s i m := by
  unfold rowK rowM
  rw [List.replicate_succ', List.append_assoc, List.set_append_right _ _ (by rw [List.length_replicate]; omega)]
  simp
theorem rowM_set (ab : List (List UInt8)) (s : List UInt8) (i m m' : Nat) : (rowM ab s i m).set i (m' : Int) = rowM ab s i m' := by
  unfold rowM
  rw [List.set_append_right _ _ (by rw [List.length_replicate]; omega)]
  simp
theorem rowK_at (ab : List (List UInt8)) (s : List UInt8) {k j : Nat} (h : k ≤ j) (hj : j ≤ s.length) : (rowK ab s k).getD j 0 = ((least ab (s.drop j) : Nat) : Int) := by
  unfold rowK
  rw [List.getD, List.getElem?_append_right (by rw [List.length_replicate]; exact h), List.length_replicate]
  show (ni (tab ab (s.drop k))).getD (j - k) 0 = _
  rw [ni_getD, tab_get ab _ _ (by rw [List.length_drop]; omega), List.drop_drop, show k + (j - k) = j from by omega]
theorem rowM_at (ab : List (List UInt8)) (s : List UInt8) {i m j : Nat} (h : i < j) (hj : j ≤ s.length) : (rowM ab s i m).getD j 0 = ((least ab (s.drop j) : Nat) : Int) := by
  unfold rowM
  rw [List.getD, List.getElem?_append_right (by rw [List.length_replicate]; omega), List.length_replicate]
  obtain ⟨d, hd⟩ : ∃ d, j - i = d + 1 := ⟨j - i - 1, by omega⟩
  rw [hd, List.getElem?_cons_succ]
  show (ni (tab ab (s.drop (i + 1)))).getD d 0 = _
  rw [ni_getD, tab_get ab _ _ (by rw [List.length_drop]; omega), List.drop_drop, show i + 1 + d = j from by omega]
theorem rowM_head (ab : List (List UInt8)) (s : List UInt8) (i m : Nat) : (rowM ab s i m).getD i 0 = (m : Int) := by
  unfold rowM
  rw [List.getD, List.getElem?_append_right (by rw [List.length_replicate]; omega), List.length_replicate, Nat.sub_self]
  rfl

/-- the least so far, the first j abbreviations tried at place i -/
def mAt (ab : List (List UInt8)) (s : List UInt8) (i j : Nat) : Nat := pickB ((ab.take 32).take j) (s.drop i) (tab ab (s.drop (i + 1))) (costL ((s.drop i).take 1) + least ab (s.drop (i + 1)))

theorem mAt_zero (ab : List (List UInt8)) (s : List UInt8) (i : Nat) : mAt ab s i 0 = costL ((s.drop i).take 1) + least ab (s.drop (i + 1)) := rfl

theorem mAt_all (ab : List (List UInt8)) {s : List UInt8} {i : Nat} (h : i < s.length) : rowM ab s i (mAt ab s i ab.length) = rowK ab s i := by
  unfold rowM rowK mAt
  rw [List.take_of_length_le (l := ab.take 32) (by rw [List.length_take]; omega), List.drop_eq_getElem_cons h]
  rfl

theorem mAt_le (ab : List (List UInt8)) (s : List UInt8) (i j : Nat) : mAt ab s i j ≤ costL ((s.drop i).take 1) + least ab (s.drop (i + 1)) := pickB_le _ _ _ _

theorem pickB_append (a b : List (List UInt8)) (s : List UInt8) (t : List Nat) (m : Nat) : pickB (a ++ b) s t m = pickB b s t (pickB a s t m) := by unfold pickB; rw [List.foldl_append]

theorem mAt_no {ab : List (List UInt8)} {s : List UInt8} {i j : Nat} (hj : j < ab.length) (h : fitB s i ab j = false ∨ mAt ab s i j ≤ 2 + least ab (s.drop (i + (ab[j]?.getD []).length))) (hi : i < s.length) : mAt ab s i (j + 1) = mAt ab s i j := by
  by_cases h32 : j < 32
  · have hl : j < (ab.take 32).length := by rw [List.length_take]; omega
    have e : (ab.take 32)[j] = ab[j]?.getD [] := by rw [List.getElem_take, List.getElem?_eq_getElem hj]; rfl
    unfold mAt
    rw [List.take_succ_eq_append_getElem hl, pickB_append, e]
    show (if _ then _ else _) = _
    rw [if_neg]
    rintro ⟨⟨h1, h2⟩, h3⟩
    rcases h with h | h
    · unfold fitB at h
      rw [h2] at h
      simp [h32] at h
      exact h1 (by simpa using h)
    · have hlen := isPre_len h2
      rw [List.length_drop] at hlen
      have hp := pos_of_ne h1
      rw [tab_get ab _ _ (by rw [List.length_drop]; omega), List.drop_drop, show i + 1 + ((ab[j]?.getD []).length - 1) = i + (ab[j]?.getD []).length from by omega] at h3
      unfold mAt at h
      omega
  · unfold mAt
    rw [List.take_of_length_le (l := ab.take 32) (by rw [List.length_take]; omega), List.take_of_length_le (l := ab.take 32) (by rw [List.length_take]; omega)]

theorem mAt_yes {ab : List (List UInt8)} {s : List UInt8} {i j : Nat} (hj : j < ab.length) (h : fitB s i ab j = true) (h2 : 2 + least ab (s.drop (i + (ab[j]?.getD []).length)) < mAt ab s i j) : mAt ab s i (j + 1) = 2 + least ab (s.drop (i + (ab[j]?.getD []).length)) := by
  unfold fitB at h
  simp only [Bool.and_eq_true, decide_eq_true_eq] at h
  obtain ⟨⟨h32, h1⟩, hp⟩ := h
  have hl : j < (ab.take 32).length := by rw [List.length_take]; omega
  have e : (ab.take 32)[j] = ab[j]?.getD [] := by rw [List.getElem_take, List.getElem?_eq_getElem hj]; rfl
  have hlen := isPre_len hp
  rw [List.length_drop] at hlen
  have hp1 := pos_of_ne h1
  have et : (tab ab (s.drop (i + 1))).getD ((ab[j]?.getD []).length - 1) 0 = least ab (s.drop (i + (ab[j]?.getD []).length)) := by
    rw [tab_get ab _ _ (by rw [List.length_drop]; omega), List.drop_drop, show i + 1 + ((ab[j]?.getD []).length - 1) = i + (ab[j]?.getD []).length from by omega]
  unfold mAt
  rw [List.take_succ_eq_append_getElem hl, pickB_append, e]
  show (if _ then _ else _) = _
  unfold mAt at h2
  rw [if_pos ⟨⟨h1, hp⟩, by rw [et]; exact h2⟩, et]

end Go.Proofs.YteamolaoakhaiaaDoor
