/- Contracts of Cap, the program's and the reference's, and of the reference's Short, IsName, IsWord, IsText. -/
import Derived.Test.YteglmkifpdedbaaLower
namespace Go.Proofs.Yteglmkifpdedbaa
open Go.RowKit

/-- a text with a great letter ahead -/
def capB (s : ByteArray) : ByteArray := ⟨(capL s.data.toList).toArray⟩

theorem capB_nil {s : ByteArray} (h : s.size = 0) : capB s = s := by
  have e : s.data.toList = [] := List.eq_nil_of_length_eq_zero (by rw [Array.length_toList]; exact h)
  have h2 := Lib.mk_data s
  unfold capB
  rw [e] at h2 ⊢
  exact h2

theorem capB_no {s : ByteArray} (h0 : 0 < s.size) (h : isSm s[0] = false) : capB s = s := by
  have h2 := Lib.mk_data s
  have e := byte_at s 0 h0
  unfold capB
  cases hl : s.data.toList with
  | nil => rw [hl] at h2; exact h2
  | cons c r =>
    rw [hl] at e h2
    simp at e
    rw [← e] at h
    simp only [capL]
    rw [if_neg (by rw [h]; decide)]
    exact h2

theorem capB_yes {s : ByteArray} (h0 : 0 < s.size) (h : isSm s[0] = true) : capL s.data.toList = s.data.toList.set 0 (byt ((s[0].toNat : Int) - 32)) := by
  have e := byte_at s 0 h0
  cases hl : s.data.toList with
  | nil => rw [Lib.size_eq, hl] at h0; simp at h0
  | cons c r =>
    rw [hl] at e
    simp at e
    rw [← e] at h ⊢
    simp only [capL]
    rw [if_pos h]
    rfl

theorem sm_bounds {c : UInt8} (h : isSm c = true) : 97 ≤ (c.toNat : Int) ∧ (c.toNat : Int) ≤ 122 := by
  simp [isSm] at h; omega

theorem cap_next {s : ByteArray} (h0 : 0 < s.size) (h : isSm s[0] = true) (w : World) (g c : Nat) (hb : Buf w g s.data.toList) :
    (convert 34 9 (.slice (some ⟨g, 0, none⟩) s.size c)).run Try.prog (w.setCell ⟨g, 0, none⟩ (.int .u8 ((s[0].toNat : Int) - 32))) = .ok (.string (capB s)) (w.setCell ⟨g, 0, none⟩ (.int .u8 ((s[0].toNat : Int) - 32))) := by
  have hl : s.data.toList.length = s.size := by rw [Array.length_toList]; rfl
  obtain ⟨c1, c2⟩ := sm_bounds h
  have h2 := hb.set_ 0 (by omega) (byt ((s[0].toNat : Int) - 32))
  have e := byt_val ((s[0].toNat : Int) - 32)
  rw [show (((byt ((s[0].toNat : Int) - 32)).toNat : Nat) : Int) = (s[0].toNat : Int) - 32 from by omega, ← capB_yes h0 h] at h2
  exact h2.toStr s.size (by rw [capB_yes h0 h, List.length_set]; exact hl)

set_option maxRecDepth 100000 in
set_option maxHeartbeats 800000 in
theorem cap_any (w : World) (s : ByteArray) :
    Calls Try.prog 10 #[.string s] w fun e w' => e = .returned (.string (capB s)) ∧ Below w.heap.size w w' := by
  have hk := enters43.run
  by_cases h0 : s.size = 0
  · have e1 := empty_of h0
    rw [capB_nil h0]
    clear h0
    go_enter Try.func10, Try.ntmps10
    go_wp2_with fail
    refine (within_any _ 97 122).mono ?_
    rintro e w1 ⟨g1, g1', rfl, hb1, hc1⟩
    clear hc1
    go_wp2_with fail
    go_ret
    exact ⟨rfl, hb1⟩
  · have h1 : 0 < s.size := by omega
    have e1 := nonempty_of h1
    clear h0
    by_cases hsm : inB 97 122 s[0] = true
    · have HS := Lib.hid hsm
      obtain ⟨b1, b2⟩ := sm_bounds hsm
      go_enter Try.func10, Try.ntmps10
      go_wp2_with fail
      refine (within_any _ 97 122).mono ?_
      rintro e w1 ⟨g1, g1', rfl, hb1, hc1⟩
      have H1 := Lib.hid hc1
      clear hc1
      have hs1 := hb1.size
      go_wp2_with fail
      refine (H1.out.2 _ (Below.refl _ _) s[0]).mono ?_
      rintro e w2 ⟨rfl, hb2⟩
      have hb3 := hb1.trans (hb2.mono hs1)
      clear hb1 hb2 hs1
      obtain ⟨c, w3, hconv, hb4, hz3, hbuf⟩ := conv_bytes w2 s
      have HB := Lib.hid hbuf
      have hc := (hbuf.2 0 (by rw [← Lib.size_eq]; exact h1)).1
      have hf := (hbuf.2 0 (by rw [← Lib.size_eq]; exact h1)).2
      rw [byte_at s 0 h1] at hc
      clear hbuf hz3
      have hbk := cap_next h1 HS.out w3 w2.heap.size c HB.out
      go_wp2_with fail
      go_ret
      exact ⟨rfl, hb3.trans ((below_set hb4 (Nat.le_refl _) _ _).mono hb3.size)⟩
    · rw [Bool.not_eq_true] at hsm
      rw [capB_no h1 hsm]
      go_enter Try.func10, Try.ntmps10
      go_wp2_with fail
      refine (within_any _ 97 122).mono ?_
      rintro e w1 ⟨g1, g1', rfl, hb1, hc1⟩
      have H1 := Lib.hid hc1
      clear hc1
      have hs1 := hb1.size
      go_wp2_with fail
      refine (H1.out.2 _ (Below.refl _ _) s[0]).mono ?_
      rintro e w2 ⟨rfl, hb2⟩
      go_wp2_with fail
      go_ret
      exact ⟨rfl, hb1.trans (hb2.mono hs1)⟩

set_option maxRecDepth 100000 in
set_option maxHeartbeats 800000 in
theorem rcap_any (w : World) (s : ByteArray) (hs : (s.size : Int) ≤ 1000000) :
    Calls Try.prog 12 #[.string s] w fun e w' => e = .returned (.string (capB s)) ∧ Below w.heap.size w w' := by
  by_cases h0 : s.size = 0
  · rw [capB_nil h0]
    have e1 : ((s.size : Int) == 0) = true := by simp [h0]
    clear h0
    go_enter Try.func12, Try.ntmps12
    go_wp2_with fail
    go_ret
    exact ⟨rfl, Below.refl _ _⟩
  · have h1 : 0 < s.size := by omega
    have e1 : ((s.size : Int) == 0) = false := by simp [h0]
    clear h0
    by_cases hsm : isSm s[0] = true
    · have HS := Lib.hid hsm
      obtain ⟨b1, b2⟩ := sm_bounds hsm
      obtain ⟨c, w3, hconv, hb4, hz3, hbuf⟩ := conv_bytes w s
      have HB := Lib.hid hbuf
      have hc := (hbuf.2 0 (by rw [← Lib.size_eq]; exact h1)).1
      have hf := (hbuf.2 0 (by rw [← Lib.size_eq]; exact h1)).2
      rw [byte_at s 0 h1] at hc
      clear hbuf hz3
      have hbk := cap_next h1 HS.out w3 w.heap.size c HB.out
      go_enter Try.func12, Try.ntmps12
      go_wp2_with fail
      refine (rsmall_any _ s[0]).mono ?_
      rintro e w2 ⟨rfl, rfl⟩
      go_wp2_with fail
      go_ret
      exact ⟨rfl, below_set hb4 (Nat.le_refl _) _ _⟩
    · rw [Bool.not_eq_true] at hsm
      rw [capB_no h1 hsm]
      go_enter Try.func12, Try.ntmps12
      go_wp2_with fail
      refine (rsmall_any _ s[0]).mono ?_
      rintro e w2 ⟨rfl, rfl⟩
      go_wp2_with fail
      go_ret
      exact ⟨rfl, Below.refl _ _⟩

set_option maxRecDepth 100000 in
set_option maxHeartbeats 800000 in
theorem rshort_any (w : World) (s : ByteArray) (hs : (s.size : Int) ≤ 1000000) :
    Calls Try.prog 26 #[.string s] w fun e w' => e = .returned (.string (shortB s)) ∧ w = w' := by
  unfold shortB
  by_cases h : 9 < s.size
  · rw [if_pos h]
    go_enter Try.func26, Try.ntmps26
    go_wp2_with fail
    go_ret
    exact ⟨rfl, rfl⟩
  · rw [if_neg h]
    go_enter Try.func26, Try.ntmps26
    go_wp2_with fail
    go_ret
    exact ⟨rfl, rfl⟩

set_option maxRecDepth 100000 in
set_option maxHeartbeats 1600000 in
theorem rrow_any (w : World) (c : UInt8) : Calls Try.prog 37 #[.int .u8 (c.toNat : Int)] w fun e w' => e = .returned (.bool (isRow c)) ∧ w = w' := by
  by_cases a0 : isSm c = true
  · have e : isRow c = true := by simp [isRow, a0]
    rw [e]
    clear e
    go_enter Try.func37, Try.ntmps37
    go_wp2_with fail
    refine (rsmall_any _ c).mono ?_
    rintro e w2 ⟨rfl, rfl⟩
    go_wp2_with fail
    go_ret
    exact ⟨rfl, rfl⟩
  · rw [Bool.not_eq_true] at a0
    by_cases a1 : isCp c = true
    · have e : isRow c = true := by simp [isRow, a1]
      rw [e]
      clear e
      go_enter Try.func37, Try.ntmps37
      go_wp2_with fail
      refine (rsmall_any _ c).mono ?_
      rintro e w2 ⟨rfl, rfl⟩
      go_wp2_with fail
      refine (rgreat_any _ c).mono ?_
      rintro e w2 ⟨rfl, rfl⟩
      go_wp2_with fail
      go_ret
      exact ⟨rfl, rfl⟩
    · rw [Bool.not_eq_true] at a1
      by_cases a2 : isDg c = true
      · have e : isRow c = true := by simp [isRow, a2]
        rw [e]
        clear e
        go_enter Try.func37, Try.ntmps37
        go_wp2_with fail
        refine (rsmall_any _ c).mono ?_
        rintro e w2 ⟨rfl, rfl⟩
        go_wp2_with fail
        refine (rgreat_any _ c).mono ?_
        rintro e w2 ⟨rfl, rfl⟩
        go_wp2_with fail
        refine (rdigit_any _ c).mono ?_
        rintro e w2 ⟨rfl, rfl⟩
        go_wp2_with fail
        go_ret
        exact ⟨rfl, rfl⟩
      · rw [Bool.not_eq_true] at a2
        by_cases a3 : (c.toNat : Int) = 45
        · have e : isRow c = true := by simp [isRow, isIn, a3]
          have t3 : ((c.toNat : Int) == 45) = true := by simpa using a3
          rw [e]
          clear e a3
          go_enter Try.func37, Try.ntmps37
          go_wp2_with fail
          refine (rsmall_any _ c).mono ?_
          rintro e w2 ⟨rfl, rfl⟩
          go_wp2_with fail
          refine (rgreat_any _ c).mono ?_
          rintro e w2 ⟨rfl, rfl⟩
          go_wp2_with fail
          refine (rdigit_any _ c).mono ?_
          rintro e w2 ⟨rfl, rfl⟩
          go_wp2_with fail
          go_ret
          exact ⟨rfl, rfl⟩
        · have t3 : ((c.toNat : Int) == 45) = false := by simpa using a3
          by_cases a4 : (c.toNat : Int) = 39
          · have e : isRow c = true := by simp [isRow, isIn, a4]
            have t4 : ((c.toNat : Int) == 39) = true := by simpa using a4
            rw [e]
            clear e a3 a4
            go_enter Try.func37, Try.ntmps37
            go_wp2_with fail
            refine (rsmall_any _ c).mono ?_
            rintro e w2 ⟨rfl, rfl⟩
            go_wp2_with fail
            refine (rgreat_any _ c).mono ?_
            rintro e w2 ⟨rfl, rfl⟩
            go_wp2_with fail
            refine (rdigit_any _ c).mono ?_
            rintro e w2 ⟨rfl, rfl⟩
            go_wp2_with fail
            go_ret
            exact ⟨rfl, rfl⟩
          · have e : isRow c = false := by simp [isRow, isIn, a3, a4, a0, a1, a2]
            have t4 : ((c.toNat : Int) == 39) = false := by simpa using a4
            rw [e]
            clear e a3 a4
            go_enter Try.func37, Try.ntmps37
            go_wp2_with fail
            refine (rsmall_any _ c).mono ?_
            rintro e w2 ⟨rfl, rfl⟩
            go_wp2_with fail
            refine (rgreat_any _ c).mono ?_
            rintro e w2 ⟨rfl, rfl⟩
            go_wp2_with fail
            refine (rdigit_any _ c).mono ?_
            rintro e w2 ⟨rfl, rfl⟩
            go_wp2_with fail
            go_ret
            exact ⟨rfl, rfl⟩

end Go.Proofs.Yteglmkifpdedbaa
