/- Contracts of begins, fits, IsName, IsWord, IsText, Short. -/
import Derived.Test.YtgeglhgkibcpfaaDoorCls2
import Derived.Lib.Strings
import Derived.Laws.EntriesVeiled
namespace Go.Proofs.YtgeglhgkibcpfaaDoor
open Go.RowKit

/-- what begins tells -/
def begB (p : UInt8 → Bool) (l : List UInt8) : Bool := match l with | [] => false | c :: _ => p c

theorem begB_nil {p : UInt8 → Bool} {s : ByteArray} (h : s.size = 0) : begB p s.data.toList = false := by
  have : s.data.toList = [] := List.eq_nil_of_length_eq_zero (by rw [Array.length_toList]; exact h)
  rw [this]; rfl

theorem begB_at {p : UInt8 → Bool} {s : ByteArray} (h : 0 < s.size) : begB p s.data.toList = p s[0] := by
  have e := byte_at s 0 h
  cases hl : s.data.toList with
  | nil => rw [Lib.size_eq, hl] at h; simp at h
  | cons c r => rw [hl] at e; simp at e; rw [← e]; rfl

theorem empty_of {s : ByteArray} (h : s.size = 0) : s.toList = [] := by
  rw [Lib.toList_data]
  exact List.eq_nil_of_length_eq_zero (by rw [Array.length_toList]; exact h)

theorem nonempty_of {s : ByteArray} (h : 0 < s.size) : s.toList.isEmpty = false := by
  rw [Lib.toList_data]
  cases hl : s.data.toList with
  | nil => rw [Lib.size_eq, hl] at h; simp at h
  | cons c r => rfl

set_option maxRecDepth 100000 in
set_option maxHeartbeats 800000 in
theorem begins_any (w : World) (B k : Nat) (cs : Array Value) (p : UInt8 → Bool) (s : ByteArray) (h : Cls w B k cs p) :
    Calls Tryd.prog 39 #[.string s, .func (.func k) #[] cs] w fun e w' => e = .returned (.bool (begB p s.data.toList)) ∧ Below w.heap.size w w' := by
  have H := Lib.hid h
  have hk := h.1.run
  clear h
  by_cases h0 : s.size = 0
  · have e1 := empty_of h0
    rw [begB_nil h0]
    clear h0
    go_enter Tryd.func39, Tryd.ntmps39
    go_wp2_with fail
    go_ret
    exact ⟨rfl, Below.refl _ _⟩
  · have h1 : 0 < s.size := by omega
    have e1 := nonempty_of h1
    rw [begB_at h1]
    clear h0
    go_enter Tryd.func39, Tryd.ntmps39
    go_wp2_with fail
    refine (H.out.2 _ (Below.refl _ _) s[0]).mono ?_
    rintro e w1 ⟨rfl, hb1⟩
    go_wp2_with fail
    go_ret
    exact ⟨rfl, hb1⟩

theorem fits_yes {p : UInt8 → Bool} {s : ByteArray} (h : s.data.toList.all p = true) : (runL p s.data.toList : Int) = s.size := by
  rw [(runL_all p _).2 h, Lib.size_eq]

theorem fits_no {p : UInt8 → Bool} {s : ByteArray} (h : s.data.toList.all p = false) : ((runL p s.data.toList : Int) == (s.size : Int)) = false := by
  rw [beq_eq_false_iff_ne]
  intro e
  rw [Lib.size_eq] at e
  have := (runL_all p s.data.toList).1 (by omega)
  rw [h] at this
  cases this

/-- what fits tells -/
def fitsB (p : UInt8 → Bool) (m : Int) (s : ByteArray) : Bool := decide ((s.size : Int) ≤ m) && s.data.toList.all p

set_option maxRecDepth 100000 in
set_option maxHeartbeats 800000 in
theorem fits_any (w : World) (B k : Nat) (cs : Array Value) (p : UInt8 → Bool) (s : ByteArray) (m : Int) (h : Cls w B k cs p) (hB : B ≤ w.heap.size) (hs : (s.size : Int) ≤ 9223372036854775807) :
    Calls Tryd.prog 40 #[.string s, .int .i64 m, .func (.func k) #[] cs] w fun e w' => e = .returned (.bool (fitsB p m s)) ∧ Below w.heap.size w w' := by
  unfold fitsB
  by_cases hm : (s.size : Int) ≤ m
  · have hd : decide ((s.size : Int) ≤ m) = true := by simpa using hm
    rw [hd, Bool.true_and]
    by_cases ha : s.data.toList.all p = true
    · rw [ha]
      have e1 := fits_yes ha
      have E := Lib.hid e1
      have H := Lib.hid h
      clear h ha e1
      go_enter Tryd.func40, Tryd.ntmps40
      go_wp2_with fail
      refine (run_any _ B k cs p s H.out hB hs).mono ?_
      rintro e w1 ⟨rfl, hb1⟩
      rw [E.out]
      go_wp2_with fail
      go_ret
      exact ⟨rfl, hb1⟩
    · rw [Bool.not_eq_true] at ha
      rw [ha]
      have e1 := fits_no ha
      have H := Lib.hid h
      clear h ha
      go_enter Tryd.func40, Tryd.ntmps40
      go_wp2_with fail
      refine (run_any _ B k cs p s H.out hB hs).mono ?_
      rintro e w1 ⟨rfl, hb1⟩
      go_wp2_with fail
      go_ret
      exact ⟨rfl, hb1⟩
  · have hd : decide ((s.size : Int) ≤ m) = false := by simpa using hm
    rw [hd, Bool.false_and]
    clear h
    go_enter Tryd.func40, Tryd.ntmps40
    go_wp2_with fail
    go_ret
    exact ⟨rfl, Below.refl _ _⟩

/-- two variables that hold classes, laid behind what is there -/
theorem holds_two (w : World) (k1 k2 : Nat) (c1 c2 : Array Value) (p1 p2 : UInt8 → Bool) (t1 t2 : TypeId) (h1 : Cls w w.heap.size k1 c1 p1) (h2 : Cls w w.heap.size k2 c2 p2) (W : World)
    (hW : W = (w.alloc (.cells #[.func (.func k1) #[] c1] t1)).alloc (.cells #[.func (.func k2) #[] c2] t2)) :
    Holds W W.heap.size w.heap.size k1 c1 p1 ∧ Holds W W.heap.size (w.heap.size + 1) k2 c2 p2 ∧ Below w.heap.size w W := by
  have hb : Below w.heap.size w W := by subst hW; exact ((Below.refl _ _).alloc (Nat.le_refl _) _).alloc (by simp) _
  have b1 : Blk W w.heap.size t1 #[.func (.func k1) #[] c1] := by subst hW; exact (Blk.new _ _ _).alloc _
  have b2 : Blk W (w.heap.size + 1) t2 #[.func (.func k2) #[] c2] := by subst hW; exact Blk.new_at _ _ _ _ (by simp)
  have hz : W.heap.size = w.heap.size + 2 := by subst hW; simp
  exact ⟨⟨b1.cell 0, by omega, (h1.below hb).more (by omega)⟩, ⟨b2.cell 0, by omega, (h2.below hb).more (by omega)⟩, hb⟩

theorem nameB_eq (s : ByteArray) : nameB s.data.toList = (begB (inB 97 122) s.data.toList && fitsB (fun c => inB 97 122 c || inB 48 57 c || decide ((c.toNat : Int) = 95)) 24 s) := by
  unfold fitsB
  rw [Lib.size_eq]
  cases h : s.data.toList with
  | nil => rfl
  | cons c r =>
    show (isSm c && decide ((c :: r).length ≤ 24) && (c :: r).all isNm) = (isSm c && (decide (((c :: r).length : Int) ≤ 24) && (c :: r).all isNm))
    have e : decide (((c :: r).length : Int) ≤ 24) = decide ((c :: r).length ≤ 24) := by rw [decide_eq_decide]; omega
    rw [e, Bool.and_assoc]

theorem wordB_eq (s : ByteArray) : wordB s.data.toList = (begB (fun c => inB 97 122 c || inB 48 57 c) s.data.toList && fitsB (fun c => (inB 97 122 c || inB 48 57 c) || isIn c) 9 s) := by
  unfold fitsB
  rw [Lib.size_eq]
  cases h : s.data.toList with
  | nil => rfl
  | cons c r =>
    show ((isSm c || isDg c) && decide ((c :: r).length ≤ 9) && (c :: r).all isWd) = ((isSm c || isDg c) && (decide (((c :: r).length : Int) ≤ 9) && (c :: r).all isWd))
    have e : decide (((c :: r).length : Int) ≤ 9) = decide ((c :: r).length ≤ 9) := by rw [decide_eq_decide]; omega
    rw [e, Bool.and_assoc]

theorem textB_eq (s : ByteArray) : textB s.data.toList = fitsB (fun c => inB 32 126 c || decide ((c.toNat : Int) = 10)) 1024 s := by
  unfold fitsB
  rw [Lib.size_eq]
  show (decide (s.data.toList.length ≤ 1024) && s.data.toList.all isTx) = (decide ((s.data.toList.length : Int) ≤ 1024) && s.data.toList.all isTx)
  have e : decide ((s.data.toList.length : Int) ≤ 1024) = decide (s.data.toList.length ≤ 1024) := by rw [decide_eq_decide]; omega
  rw [e]

set_option maxRecDepth 100000 in
set_option maxHeartbeats 800000 in
theorem isName_any (w : World) (s : ByteArray) (hs : (s.size : Int) ≤ 9223372036854775807) :
    Calls Tryd.prog 21 #[.string s] w fun e w' => e = .returned (.bool (nameB s.data.toList)) ∧ Below w.heap.size w w' := by
  rw [nameB_eq]
  have hmf := hmf_
  by_cases hbeg : begB (inB 97 122) s.data.toList = true
  · rw [hbeg, Bool.true_and]
    have HB := Lib.hid hbeg
    clear hbeg
    go_enter Tryd.func21, Tryd.ntmps21
    go_wp2_with fail
    refine (within_any _ 97 122).mono ?_
    rintro e w1 ⟨g1, g1', rfl, hb1, hc1⟩
    have H1 := Lib.hid hc1
    clear hc1
    go_wp2_with fail
    refine (within_any _ 48 57).mono ?_
    rintro e w2 ⟨g2, g2', rfl, hb2, hc2⟩
    have H2 := Lib.hid hc2
    clear hc2
    have hb12 := hb1.trans (hb2.mono hb1.size)
    go_wp2_with fail
    have hh := Lib.hid (holds_two w2 57 57 _ _ _ _ 90 90 ((H1.out.below hb2).more hb2.size) H2.out _ rfl)
    have hb3 := hb12.trans (hh.out.2.2.mono hb12.size)
    clear hb1 hb2 hb12
    refine (begins_any _ _ _ _ _ s hh.out.1.2.2).mono ?_
    rintro e w4 ⟨rfl, hb4⟩
    rw [HB.out]
    go_wp2_with fail
    refine (fits_any _ _ _ _ _ s 24 (cls_name1 (hh.out.1.below hb4) (hh.out.2.1.below hb4) hb4.size) hb4.size hs).mono ?_
    rintro e w5 ⟨rfl, hb5⟩
    have hb6 := (hb3.trans (hb4.mono hb3.size))
    go_wp2_with fail
    go_ret
    exact ⟨rfl, hb6.trans (hb5.mono hb6.size)⟩
  · rw [Bool.not_eq_true] at hbeg
    rw [hbeg, Bool.false_and]
    have HB := Lib.hid hbeg
    clear hbeg
    go_enter Tryd.func21, Tryd.ntmps21
    go_wp2_with fail
    refine (within_any _ 97 122).mono ?_
    rintro e w1 ⟨g1, g1', rfl, hb1, hc1⟩
    have H1 := Lib.hid hc1
    clear hc1
    go_wp2_with fail
    refine (within_any _ 48 57).mono ?_
    rintro e w2 ⟨g2, g2', rfl, hb2, hc2⟩
    have H2 := Lib.hid hc2
    clear hc2
    have hb12 := hb1.trans (hb2.mono hb1.size)
    go_wp2_with fail
    have hh := Lib.hid (holds_two w2 57 57 _ _ _ _ 90 90 ((H1.out.below hb2).more hb2.size) H2.out _ rfl)
    have hb3 := hb12.trans (hh.out.2.2.mono hb12.size)
    clear hb1 hb2 hb12
    refine (begins_any _ _ _ _ _ s hh.out.1.2.2).mono ?_
    rintro e w4 ⟨rfl, hb4⟩
    rw [HB.out]
    go_wp2_with fail
    go_ret
    exact ⟨rfl, hb3.trans (hb4.mono hb3.size)⟩

/-- one more variable that holds a class -/
theorem holds_one (w : World) (k : Nat) (c : Array Value) (p : UInt8 → Bool) (t : TypeId) (h : Cls w w.heap.size k c p) (W : World) (hW : W = w.alloc (.cells #[.func (.func k) #[] c] t)) :
    Holds W W.heap.size w.heap.size k c p ∧ Below w.heap.size w W := by
  have hb : Below w.heap.size w W := by subst hW; exact (Below.refl _ _).alloc (Nat.le_refl _) _
  have b1 : Blk W w.heap.size t #[.func (.func k) #[] c] := by subst hW; exact Blk.new _ _ _
  have hz : W.heap.size = w.heap.size + 1 := by subst hW; simp
  exact ⟨⟨b1.cell 0, by omega, (h.below hb).more (by omega)⟩, hb⟩

theorem holds_one_at (w : World) (z k : Nat) (hz : z = w.heap.size) (c : Array Value) (p : UInt8 → Bool) (t : TypeId) (h : Cls w w.heap.size k c p) (W : World) (hW : W = w.alloc (.cells #[.func (.func k) #[] c] t)) :
    Holds W W.heap.size z k c p ∧ Below w.heap.size w W := by
  subst hz; exact holds_one w k c p t h W hW

/-- a text cut to nine bytes -/
def shortB (s : ByteArray) : ByteArray := if 9 < s.size then s.extract 0 9 else s

end Go.Proofs.YtgeglhgkibcpfaaDoor
