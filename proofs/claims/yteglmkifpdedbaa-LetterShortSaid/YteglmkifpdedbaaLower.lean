/- Contracts of Lower and Cap, the program's and the reference's, and of the reference's classes of bytes. -/
import Derived.Test.YteglmkifpdedbaaTells
namespace Go.Proofs.Yteglmkifpdedbaa
open Go.RowKit

/-- block g begins with the bytes l, none of them frozen -/
def Buf (w : World) (g : Nat) (l : List UInt8) : Prop :=
  g < w.heap.size ∧ ∀ m, m < l.length → w.cell? ⟨g, m, none⟩ = some (.int .u8 ((l[m]?.getD 0).toNat : Int)) ∧ w.frozen? ⟨g, m, none⟩ = false

theorem Buf.below {w w' : World} {B g : Nat} {l : List UInt8} (h : Buf w g l) (hb : Below B w w') (hg : g < B) : Buf w' g l :=
  ⟨Nat.lt_of_lt_of_le h.1 hb.size, fun m hm => ⟨(hb.cell (p := ⟨g, m, none⟩) hg).trans (h.2 m hm).1, (hb.frozen (p := ⟨g, m, none⟩) hg).trans (h.2 m hm).2⟩⟩

theorem Buf.set_ {w : World} {g : Nat} {l : List UInt8} (h : Buf w g l) (m : Nat) (hm : m < l.length) (b : UInt8) : Buf (w.setCell ⟨g, m, none⟩ (.int .u8 (b.toNat : Int))) g (l.set m b) := by
  refine ⟨by rw [World.size_setCell]; exact h.1, fun k hk => ?_⟩
  rw [List.length_set] at hk
  have hc := h.2 k hk
  refine ⟨?_, ?_⟩
  · by_cases e : m = k
    · subst e
      rw [World.cell?_setCell_same _ _ _ hc.1, List.getElem?_set_self (by exact hm)]
      rfl
    · rw [World.cell?_setCell_other w _ _ _ (fun e' => e (by injection e')), List.getElem?_set_ne e]
      exact hc.1
  · rw [World.frozen?_setCell]
    exact hc.2

theorem Buf.rd {w : World} {g : Nat} {l : List UInt8} (h : Buf w g l) : Rd w w.heap.size (some ⟨g, 0, none⟩) l.length l :=
  ⟨rfl, fun _ => ⟨_, rfl, h.1, fun j hj => by
    rw [Addr.add_lit, Nat.zero_add, (h.2 j hj).1, List.getElem?_eq_getElem hj]; rfl⟩⟩

theorem Buf.toStr {w : World} {g c : Nat} {l : List UInt8} (h : Buf w g l) (n : Nat) (hn : l.length = n) : (convert 34 9 (.slice (some ⟨g, 0, none⟩) n c)).run Try.prog w = .ok (.string ⟨l.toArray⟩) w := by
  subst hn
  exact h.rd.toStr _ _ _ _ Try.underlying34 Try.underlying5 Try.underlying9

/-- a text turned into bytes -/
theorem conv_bytes (w : World) (s : ByteArray) : ∃ c w', (convert 9 34 (.string s)).run Try.prog w = .ok (.slice (some ⟨w.heap.size, 0, none⟩) s.size c) w' ∧ Below w.heap.size w w' ∧ w'.heap.size = w.heap.size + 1 ∧ Buf w' w.heap.size s.data.toList := by
  have e := run_bytes_of_string (P := Try.prog) w 9 34 5 s Try.underlying9 Try.underlying34 Try.underlying5
  refine ⟨_, _, e, ((Below.refl _ _).drew).alloc (Nat.le_refl _) _, by simp, by simp, fun m hm => ?_⟩
  have hm2 : m < s.data.size := by simpa using hm
  refine ⟨?_, ?_⟩
  · have h := World.cell?_alloc_mark w.drew (bytesRow s (grownCap w s.size 0 5)) 5 ((bytesRow s (grownCap w s.size 0 5)).size, (bytesRow s (grownCap w s.size 0 5)).size + 1) m
    rw [bytesRow_at s _ m hm2] at h
    refine Eq.trans h ?_
    rw [Array.getElem?_toList, Array.getElem?_eq_getElem hm2]
    rfl
  · have h := World.frozen?_alloc_mark w.drew (bytesRow s (grownCap w s.size 0 5)) 5 (bytesRow s (grownCap w s.size 0 5)).size ((bytesRow s (grownCap w s.size 0 5)).size + 1) m
    refine Eq.trans h ?_
    have : s.data.size ≤ (bytesRow s (grownCap w s.size 0 5)).size := by unfold bytesRow; simp
    simp
    omega

/-- the first j bytes in small letters -/
def lowTo (l : List UInt8) (j : Nat) : List UInt8 := (l.take j).map lowC ++ l.drop j

theorem lowTo_zero (l : List UInt8) : lowTo l 0 = l := rfl
theorem lowTo_length (l : List UInt8) (j : Nat) : (lowTo l j).length = l.length := by simp [lowTo]; omega
theorem lowTo_end (l : List UInt8) (j : Nat) (h : l.length ≤ j) : lowTo l j = lower l := by
  unfold lowTo lower; rw [List.take_of_length_le h, List.drop_of_length_le h, List.append_nil]
theorem lowTo_at (l : List UInt8) (j : Nat) : (lowTo l j)[j]? = l[j]? := by
  unfold lowTo
  by_cases h : j < l.length
  · rw [List.getElem?_append_right (by simp; omega)]
    simp
    rw [Nat.min_eq_left (by omega), Nat.sub_self, Nat.add_zero]
  · rw [List.getElem?_eq_none (by simp; omega), List.getElem?_eq_none (by omega)]
theorem lowTo_succ (l : List UInt8) (j : Nat) (h : j < l.length) : lowTo l (j + 1) = (lowTo l j).set j (lowC (l[j]?.getD 0)) := by
  apply List.ext_getElem?
  intro k
  have e : l[j]?.getD 0 = l[j] := by rw [List.getElem?_eq_getElem h]; rfl
  rw [List.getElem?_set, lowTo_length, e]
  unfold lowTo
  by_cases hk : k < j
  · rw [if_neg (by omega), List.getElem?_append_left (by simp; omega), List.getElem?_append_left (by simp; omega)]
    simp [hk, show k < j + 1 from by omega]
  · by_cases e : j = k
    · subst e
      rw [if_pos rfl, if_pos h, List.getElem?_append_left (by simp; omega)]
      simp [h]
    · rw [if_neg e, List.getElem?_append_right (by simp; omega), List.getElem?_append_right (by simp; omega)]
      simp only [List.length_map, List.length_take, List.getElem?_drop]
      congr 1
      omega
theorem lowTo_same (l : List UInt8) (j : Nat) (h : j < l.length) (hc : isCp (l[j]?.getD 0) = false) : lowTo l (j + 1) = lowTo l j := by
  rw [lowTo_succ l j h, lowC_no hc]
  apply List.ext_getElem?
  intro k
  rw [List.getElem?_set, lowTo_length]
  by_cases e : j = k
  · subst e
    rw [if_pos rfl, if_pos h, lowTo_at, List.getElem?_eq_getElem h]
    rfl
  · rw [if_neg e]

/-- a text in small letters -/
def lowB (s : ByteArray) : ByteArray := ⟨(lower s.data.toList).toArray⟩

theorem cp_bounds {c : UInt8} (h : isCp c = true) : 65 ≤ (c.toNat : Int) ∧ (c.toNat : Int) ≤ 90 := by
  simp [isCp] at h; omega

theorem below_set {B g : Nat} {a w : World} (h : Below B a w) (hg : B ≤ g) (m : Nat) (v : Value) : Below B a (w.setCell ⟨g, m, none⟩ v) := h.setCell hg v

theorem cp_next (s : ByteArray) (j : Nat) (hj : j < s.size) (h : isCp s[j] = true) (w : World) (g : Nat) (hb : Buf w g (lowTo s.data.toList j)) : Buf (w.setCell ⟨g, j, none⟩ (.int .u8 ((s[j].toNat : Int) + 32))) g (lowTo s.data.toList (j + 1)) := by
  have hl : s.data.toList.length = s.size := by rw [Array.length_toList]; rfl
  have e := lowC_cp h
  rw [lowTo_succ _ j (by omega), byte_at s j hj]
  have h2 := hb.set_ j (by rw [lowTo_length]; omega) (lowC s[j])
  rwa [show ((lowC s[j]).toNat : Int) = (s[j].toNat : Int) + 32 from by omega] at h2

theorem cp_not (s : ByteArray) (j : Nat) (hj : j < s.size) (h : isCp s[j] = false) (w : World) (g : Nat) (hb : Buf w g (lowTo s.data.toList j)) : Buf w g (lowTo s.data.toList (j + 1)) := by
  have hl : s.data.toList.length = s.size := by rw [Array.length_toList]; rfl
  rwa [lowTo_same _ j (by omega) (by rw [byte_at s j hj]; exact h)]

set_option maxRecDepth 100000 in
set_option maxHeartbeats 800000 in
theorem lower_any (w : World) (s : ByteArray) (hs : (s.size : Int) ≤ 1000000) :
    Calls Try.prog 9 #[.string s] w fun e w' => e = .returned (.string (lowB s)) ∧ Below w.heap.size w w' := by
  have hl : s.data.toList.length = s.size := by rw [Array.length_toList]; rfl
  have HL := Lib.hid hl
  clear hl
  have hk := enters43.run
  go_enter Try.func9, Try.ntmps9
  go_wp2_with fail
  refine (within_any _ 65 90).mono ?_
  rintro e w1 ⟨g1, g1', rfl, hb1, hc1⟩
  have H1 := Lib.hid hc1
  clear hc1
  obtain ⟨c, w2, hconv, hb2, hz2, hbuf⟩ := conv_bytes w1 s
  have hs1 := hb1.size
  have HB := Lib.hid hbuf
  clear hbuf
  have HZ := Lib.hid hz2
  clear hz2
  go_wp2_with fail
  clear hconv
  go_loopw [12] (fun i wr => ∃ j : Nat, j ≤ s.size ∧ i = .int .i64 j ∧ Below w1.heap.size w1 wr ∧ Buf wr w1.heap.size (lowTo s.data.toList j)) (fun i _ => s.size - (intOf i).toNat)
  case atStart => exact ⟨0, Nat.zero_le _, rfl, hb2, HB.out⟩
  case round =>
    obtain ⟨j, hj, rfl, hb, hbuf⟩ := hrel
    have HF := Lib.hid hbuf
    clear hbuf
    by_cases hlt : j < s.size
    · have hc := (HF.out.2 j (by rw [lowTo_length, HL.out]; exact hlt)).1
      rw [lowTo_at, byte_at s j hlt] at hc
      go_wp2_with fail
      refine (H1.out.2 wr hb s[j]).mono ?_
      rintro e w3 ⟨rfl, hb3⟩
      have HF3 := Lib.hid (HF.out.below hb3 HF.out.1)
      have hb4 := hb.trans (hb3.mono hb.size)
      clear hb3 hc
      by_cases hcp : inB 65 90 s[j] = true
      · obtain ⟨c1, c2⟩ := cp_bounds hcp
        have hbb := Lib.hid (cp_next s j hlt hcp w3 w1.heap.size HF3.out)
        have hc := (HF3.out.2 j (by rw [lowTo_length, HL.out]; exact hlt)).1
        rw [lowTo_at, byte_at s j hlt] at hc
        have hf := (HF3.out.2 j (by rw [lowTo_length, HL.out]; exact hlt)).2
        go_wp2_with fail
        go_roundw
        case rel => exact ⟨j + 1, by omega, by go_num, below_set hb4 (Nat.le_refl _) _ _, hbb.out⟩
        case measure => simp [intOf]; omega
      · rw [Bool.not_eq_true] at hcp
        have hbb := Lib.hid (cp_not s j hlt hcp w3 w1.heap.size HF3.out)
        go_wp2_with fail
        go_roundw
        case rel => exact ⟨j + 1, by omega, by go_num, hb4, hbb.out⟩
        case measure => simp [intOf]; omega
    · have hbk := Buf.toStr (c := c) HF.out s.size (by rw [lowTo_length, HL.out])
      rw [lowTo_end _ _ (by rw [HL.out]; omega)] at hbk
      go_wp2_with fail
      go_ret
      exact ⟨rfl, hb1.trans (hb.mono hs1)⟩

set_option maxRecDepth 100000 in
set_option maxHeartbeats 800000 in
theorem rsmall_any (w : World) (c : UInt8) : Calls Try.prog 29 #[.int .u8 (c.toNat : Int)] w fun e w' => e = .returned (.bool (isSm c)) ∧ w = w' := by
  by_cases a : 97 ≤ (c.toNat : Int)
  · by_cases b : (c.toNat : Int) ≤ 122
    · have e : isSm c = true := by simp [isSm]; omega
      rw [e]
      clear e
      go_enter Try.func29, Try.ntmps29
      go_wp2_with fail
      go_ret
      exact ⟨rfl, rfl⟩
    · have e : isSm c = false := by simp [isSm]; omega
      rw [e]
      clear e
      go_enter Try.func29, Try.ntmps29
      go_wp2_with fail
      go_ret
      exact ⟨rfl, rfl⟩
  · have e : isSm c = false := by simp [isSm]; omega
    rw [e]
    clear e
    go_enter Try.func29, Try.ntmps29
    go_wp2_with fail
    go_ret
    exact ⟨rfl, rfl⟩

set_option maxRecDepth 100000 in
set_option maxHeartbeats 800000 in
theorem rgreat_any (w : World) (c : UInt8) : Calls Try.prog 28 #[.int .u8 (c.toNat : Int)] w fun e w' => e = .returned (.bool (isCp c)) ∧ w = w' := by
  by_cases a : 65 ≤ (c.toNat : Int)
  · by_cases b : (c.toNat : Int) ≤ 90
    · have e : isCp c = true := by simp [isCp]; omega
      rw [e]
      clear e
      go_enter Try.func28, Try.ntmps28
      go_wp2_with fail
      go_ret
      exact ⟨rfl, rfl⟩
    · have e : isCp c = false := by simp [isCp]; omega
      rw [e]
      clear e
      go_enter Try.func28, Try.ntmps28
      go_wp2_with fail
      go_ret
      exact ⟨rfl, rfl⟩
  · have e : isCp c = false := by simp [isCp]; omega
    rw [e]
    clear e
    go_enter Try.func28, Try.ntmps28
    go_wp2_with fail
    go_ret
    exact ⟨rfl, rfl⟩

set_option maxRecDepth 100000 in
set_option maxHeartbeats 800000 in
theorem rdigit_any (w : World) (c : UInt8) : Calls Try.prog 33 #[.int .u8 (c.toNat : Int)] w fun e w' => e = .returned (.bool (isDg c)) ∧ w = w' := by
  by_cases a : 48 ≤ (c.toNat : Int)
  · by_cases b : (c.toNat : Int) ≤ 57
    · have e : isDg c = true := by simp [isDg]; omega
      rw [e]
      clear e
      go_enter Try.func33, Try.ntmps33
      go_wp2_with fail
      go_ret
      exact ⟨rfl, rfl⟩
    · have e : isDg c = false := by simp [isDg]; omega
      rw [e]
      clear e
      go_enter Try.func33, Try.ntmps33
      go_wp2_with fail
      go_ret
      exact ⟨rfl, rfl⟩
  · have e : isDg c = false := by simp [isDg]; omega
    rw [e]
    clear e
    go_enter Try.func33, Try.ntmps33
    go_wp2_with fail
    go_ret
    exact ⟨rfl, rfl⟩

set_option maxRecDepth 100000 in
set_option maxHeartbeats 800000 in
theorem rlower_any (w : World) (s : ByteArray) (hs : (s.size : Int) ≤ 1000000) :
    Calls Try.prog 11 #[.string s] w fun e w' => e = .returned (.string (lowB s)) ∧ Below w.heap.size w w' := by
  have hl : s.data.toList.length = s.size := by rw [Array.length_toList]; rfl
  have HL := Lib.hid hl
  clear hl
  obtain ⟨c, w2, hconv, hb2, hz2, hbuf⟩ := conv_bytes w s
  have HB := Lib.hid hbuf
  clear hbuf hz2
  go_enter Try.func11, Try.ntmps11
  go_wp2_with fail
  clear hconv
  go_loopw [4] (fun i wr => ∃ j : Nat, j ≤ s.size ∧ i = .int .i64 j ∧ Below w.heap.size w wr ∧ Buf wr w.heap.size (lowTo s.data.toList j)) (fun i _ => s.size - (intOf i).toNat)
  case atStart => exact ⟨0, Nat.zero_le _, rfl, hb2, HB.out⟩
  case round =>
    obtain ⟨j, hj, rfl, hb, hbuf⟩ := hrel
    have HF := Lib.hid hbuf
    clear hbuf
    by_cases hlt : j < s.size
    · have hc := (HF.out.2 j (by rw [lowTo_length, HL.out]; exact hlt)).1
      rw [lowTo_at, byte_at s j hlt] at hc
      have hf := (HF.out.2 j (by rw [lowTo_length, HL.out]; exact hlt)).2
      go_wp2_with fail
      refine (rgreat_any wr s[j]).mono ?_
      rintro e w3 ⟨rfl, rfl⟩
      by_cases hcp : isCp s[j] = true
      · obtain ⟨c1, c2⟩ := cp_bounds hcp
        have hbb := Lib.hid (cp_next s j hlt hcp wr w.heap.size HF.out)
        go_wp2_with fail
        go_roundw
        case rel => exact ⟨j + 1, by omega, by go_num, below_set hb (Nat.le_refl _) _ _, hbb.out⟩
        case measure => simp [intOf]; omega
      · rw [Bool.not_eq_true] at hcp
        have hbb := Lib.hid (cp_not s j hlt hcp wr w.heap.size HF.out)
        go_wp2_with fail
        go_roundw
        case rel => exact ⟨j + 1, by omega, by go_num, hb, hbb.out⟩
        case measure => simp [intOf]; omega
    · have hbk := Buf.toStr (c := c) HF.out s.size (by rw [lowTo_length, HL.out])
      rw [lowTo_end _ _ (by rw [HL.out]; omega)] at hbk
      go_wp2_with fail
      go_ret
      exact ⟨rfl, hb⟩

end Go.Proofs.Yteglmkifpdedbaa
