/- Contracts of Lower and Cap, the program's and the reference's, and of the reference's classes of bytes. -/
import Derived.Test.YtgeglhgkibcpfaaDoorTells
namespace Go.Proofs.YtgeglhgkibcpfaaDoor
open Go.RowKit

/-- block g begins with the bytes l, none of them frozen -/
def Buf (w : World) (g : Nat) (l : List UInt8) : Prop :=
  g < w.heap.size ∧ ∀ m, m < l.length → w.cell? ⟨g, m, none⟩ = some (.int .u8 ((l[m]?.getD 0).toNat : Int)) ∧ w.frozen? ⟨g, m, none⟩ = false

theorem Buf.below {w w' : World} {B g : Nat} {l : List UInt8} (h : Buf w g l) (hb : Below B w w') (hg : g < B) : Buf w' g l :=
  ⟨Nat.lt_of_lt_of_le h.1 hb.size, fun m hm => ⟨(hb.cell (p := ⟨g, m, none⟩) hg).trans (h.2 m hm).1, (hb.frozen (p := ⟨g, m, none⟩) hg).trans (h.2 m hm).2⟩⟩

theorem Buf.set_ {w : World} {g : Nat} {l : List UInt8} (h : Buf w g l) (m : Nat) (hm : m < l.length) (b : UInt8) : Buf (w.setCell ⟨g, m, none⟩ (.int .u8 (b.toNat : Int))) g (l.set m b) := by
  refine ⟨by rw [World.size_setCell]; exact h.1, fun k hk => ?_⟩
  rw [List.length_set] at hk
  have hc := h.2 k hk
  refine ⟨?_, ?_⟩
  · by_cases e : m = k
    · subst e
      rw [World.cell?_setCell_same _ _ _ hc.1, List.getElem?_set_self (by exact hm)]
      rfl
    · rw [World.cell?_setCell_other w _ _ _ (fun e' => e (by injection e')), List.getElem?_set_ne e]
      exact hc.1
  · rw [World.frozen?_setCell]
    exact hc.2

theorem Buf.rd {w : World} {g : Nat} {l : List UInt8} (h : Buf w g l) : Rd w w.heap.size (some ⟨g, 0, none⟩) l.length l :=
  ⟨rfl, fun _ => ⟨_, rfl, h.1, fun j hj => by
    rw [Addr.add_lit, Nat.zero_add, (h.2 j hj).1, List.getElem?_eq_getElem hj]; rfl⟩⟩

/-- the first j bytes in small letters -/
def lowTo (l : List UInt8) (j : Nat) : List UInt8 := (l.take j).map lowC ++ l.drop j

theorem lowTo_zero (l : List UInt8) : lowTo l 0 = l := rfl
theorem lowTo_length (l : List UInt8) (j : Nat) : (lowTo l j).length = l.length := by simp [lowTo]; omega
theorem lowTo_end (l : List UInt8) (j : Nat) (h : l.length ≤ j) : lowTo l j = lower l := by
  unfold lowTo lower; rw [List.take_of_length_le h, List.drop_of_length_le h, List.append_nil]
theorem lowTo_at (l : List UInt8) (j : Nat) : (lowTo l j)[j]? = l[j]? := by
  unfold lowTo
  by_cases h : j < l.length
  · rw [List.getElem?_append_right (by simp; omega)]
    simp
    rw [Nat.min_eq_left (by omega), Nat.sub_self, Nat.add_zero]
  · rw [List.getElem?_eq_none (by simp; omega), List.getElem?_eq_none (by omega)]
theorem lowTo_succ (l : List UInt8) (j : Nat) (h : j < l.length) : lowTo l (j + 1) = (lowTo l j).set j (lowC (l[j]?.getD 0)) := by
  apply List.ext_getElem?
  intro k
  have e : l[j]?.getD 0 = l[j] := by rw [List.getElem?_eq_getElem h]; rfl
  rw [List.getElem?_set, lowTo_length, e]
  unfold lowTo
  by_cases hk : k < j
  · rw [if_neg (by omega), List.getElem?_append_left (by simp; omega), List.getElem?_append_left (by simp; omega)]
    simp [hk, show k < j + 1 from by omega]
  · by_cases e : j = k
    · subst e
      rw [if_pos rfl, if_pos h, List.getElem?_append_left (by simp; omega)]
      simp [h]
    · rw [if_neg e, List.getElem?_append_right (by simp; omega), List.getElem?_append_right (by simp; omega)]
      simp only [List.length_map, List.length_take, List.getElem?_drop]
      congr 1
      omega
theorem lowTo_same (l : List UInt8) (j : Nat) (h : j < l.length) (hc : isCp (l[j]?.getD 0) = false) : lowTo l (j + 1) = lowTo l j := by
  rw [lowTo_succ l j h, lowC_no hc]
  apply List.ext_getElem?
  intro k
  rw [List.getElem?_set, lowTo_length]
  by_cases e : j = k
  · subst e
    rw [if_pos rfl, if_pos h, lowTo_at, List.getElem?_eq_getElem h]
    rfl
  · rw [if_neg e]

/-- a text in small letters -/
def lowB (s : ByteArray) : ByteArray := ⟨(lower s.data.toList).toArray⟩

theorem cp_bounds {c : UInt8} (h : isCp c = true) : 65 ≤ (c.toNat : Int) ∧ (c.toNat : Int) ≤ 90 := by
  simp [isCp] at h; omega

theorem below_set {B g : Nat} {a w : World} (h : Below B a w) (hg : B ≤ g) (m : Nat) (v : Value) : Below B a (w.setCell ⟨g, m, none⟩ v) := h.setCell hg v

theorem cp_next (s : ByteArray) (j : Nat) (hj : j < s.size) (h : isCp s[j] = true) (w : World) (g : Nat) (hb : Buf w g (lowTo s.data.toList j)) : Buf (w.setCell ⟨g, j, none⟩ (.int .u8 ((s[j].toNat : Int) + 32))) g (lowTo s.data.toList (j + 1)) := by
  have hl : s.data.toList.length = s.size := by rw [Array.length_toList]; rfl
  have e := lowC_cp h
  rw [lowTo_succ _ j (by omega), byte_at s j hj]
  have h2 := hb.set_ j (by rw [lowTo_length]; omega) (lowC s[j])
  rwa [show ((lowC s[j]).toNat : Int) = (s[j].toNat : Int) + 32 from by omega] at h2

theorem cp_not (s : ByteArray) (j : Nat) (hj : j < s.size) (h : isCp s[j] = false) (w : World) (g : Nat) (hb : Buf w g (lowTo s.data.toList j)) : Buf w g (lowTo s.data.toList (j + 1)) := by
  have hl : s.data.toList.length = s.size := by rw [Array.length_toList]; rfl
  rwa [lowTo_same _ j (by omega) (by rw [byte_at s j hj]; exact h)]

set_option maxRecDepth 100000 in
set_option maxHeartbeats 800000 in
theorem rsmall_any (w : World) (c : UInt8) : Calls Tryd.prog 54 #[.int .u8 (c.toNat : Int)] w fun e w' => e = .returned (.bool (isSm c)) ∧ w = w' := by
  by_cases a : 97 ≤ (c.toNat : Int)
  · by_cases b : (c.toNat : Int) ≤ 122
    · have e : isSm c = true := by simp [isSm]; omega
      rw [e]
      clear e
      go_enter Tryd.func54, Tryd.ntmps54
      go_wp2_with fail
      go_ret
      exact ⟨rfl, rfl⟩
    · have e : isSm c = false := by simp [isSm]; omega
      rw [e]
      clear e
      go_enter Tryd.func54, Tryd.ntmps54
      go_wp2_with fail
      go_ret
      exact ⟨rfl, rfl⟩
  · have e : isSm c = false := by simp [isSm]; omega
    rw [e]
    clear e
    go_enter Tryd.func54, Tryd.ntmps54
    go_wp2_with fail
    go_ret
    exact ⟨rfl, rfl⟩

set_option maxRecDepth 100000 in
set_option maxHeartbeats 800000 in
theorem rdigit_any (w : World) (c : UInt8) : Calls Tryd.prog 55 #[.int .u8 (c.toNat : Int)] w fun e w' => e = .returned (.bool (isDg c)) ∧ w = w' := by
  by_cases a : 48 ≤ (c.toNat : Int)
  · by_cases b : (c.toNat : Int) ≤ 57
    · have e : isDg c = true := by simp [isDg]; omega
      rw [e]
      clear e
      go_enter Tryd.func55, Tryd.ntmps55
      go_wp2_with fail
      go_ret
      exact ⟨rfl, rfl⟩
    · have e : isDg c = false := by simp [isDg]; omega
      rw [e]
      clear e
      go_enter Tryd.func55, Tryd.ntmps55
      go_wp2_with fail
      go_ret
      exact ⟨rfl, rfl⟩
  · have e : isDg c = false := by simp [isDg]; omega
    rw [e]
    clear e
    go_enter Tryd.func55, Tryd.ntmps55
    go_wp2_with fail
    go_ret
    exact ⟨rfl, rfl⟩

end Go.Proofs.YtgeglhgkibcpfaaDoor
