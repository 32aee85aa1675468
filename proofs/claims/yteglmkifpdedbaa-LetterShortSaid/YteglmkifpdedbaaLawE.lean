/- The walk of the statement LetterShort. -/
import Derived.Test.YteglmkifpdedbaaAwake
import Derived.Test.YteglmkifpdedbaaTellsR
namespace Go.Proofs.Yteglmkifpdedbaa
open Go.RowKit

theorem shortB_size (s : ByteArray) : (shortB s).size ≤ s.size := by
  unfold shortB
  split
  · rw [Lib.size_eq, cut_head, List.length_take, ← Lib.size_eq]; omega
  · exact Nat.le_refl _
theorem shortB_data (s : ByteArray) : (shortB s).data.toList = s.data.toList.take 9 := by
  unfold shortB
  split
  · exact cut_head s 9
  · rw [List.take_of_length_le (by rw [← Lib.size_eq]; omega)]
theorem shortB_shortB (s : ByteArray) : shortB (shortB s) = shortB s := by
  have h : (shortB (shortB s)).data.toList = (shortB s).data.toList := by
    rw [shortB_data, shortB_data, List.take_take, Nat.min_self]
  rw [← bs_data (shortB (shortB s)), h, bs_data]

theorem wordish_size {y : List UInt8} (h : Wordish y) : 0 < (bs y).size := by
  rw [bs_size]
  rcases h with ⟨hne, _⟩ | ⟨c, _, rfl⟩
  · exact List.length_pos_iff.2 hne
  · simp

theorem short_word {y : List UInt8} (h : Wordish y) (h0 : 0 < (bs y).size) (a : ((bs y).toList == [46]) = false) (b : ((bs y).toList == [44]) = false) (c : (((bs y)[0].toNat : Int) == 45) = false) (d : (((bs y)[0].toNat : Int) == 39) = false) : wordB (shortB (bs y)).data.toList = true := by
  rw [shortB_data, data_bs]
  rw [Lib.toList_data, data_bs] at a b
  rcases wordish_short h with (rfl | rfl) | ⟨e, r, rfl, hw⟩
  · simp at a
  · simp at b
  · rcases hw with hw | hw
    · have e0 : (bs (e :: r))[0] = e := rfl
      rw [e0] at c d
      simp [isIn] at hw
      simp at c d
      omega
    · exact hw

set_option maxRecDepth 100000 in
set_option maxHeartbeats 3200000 in
theorem short_walk (s : ByteArray) (w : World) :
    Calls Try.prog 7 #[.string s] w fun e w' => e = .returned (.bool true) ∧ Below w.heap.size w w' := by
  by_cases hn : (s.size : Int) ≤ 2000
  · have S1 := Lib.hid (shortB_size s)
    have L1 := Lib.hid (shortB_shortB s)
    go_enter Try.func7, Try.ntmps7
    go_wp2_with fail
    refine (short_any _ s (by omega)).mono ?_
    rintro e w1 ⟨rfl, rfl⟩
    go_wp2_with fail
    refine (rshort_any _ s (by omega)).mono ?_
    rintro e w1 ⟨rfl, rfl⟩
    go_wp2_with fail
    refine (short_any _ (shortB s) (by have := S1.out; omega)).mono ?_
    rintro e w1 ⟨rfl, rfl⟩
    rw [L1.out]
    go_wp2_with fail
    refine (words_any _ s (by omega)).mono ?_
    rintro e w1 ⟨A, n, c, rfl, ho, hb1⟩
    have HR := Lib.hid (RdS.of_own ho)
    have hlen := words_lens s.data.toList
    rw [ownS_len ho, ← Lib.size_eq] at hlen
    have hnn : (n : Int) ≤ 2000 := by omega
    clear ho hlen
    go_wp2_with fail
    go_loopw [26] (fun i wr => ∃ (j : Nat), j ≤ n ∧ i = .int .i64 j ∧ Below w1.heap.size w1 wr) (fun i _ => n - (intOf i).toNat)
    case atStart => exact ⟨0, Nat.zero_le _, rfl, Below.refl _ _⟩
    case round =>
      obtain ⟨j, hj, rfl, hb⟩ := hrel
      by_cases hlt : j < n
      · obtain ⟨ad, rfl, _, hc⟩ := (HR.out.below hb).2 (by omega)
        have k1 := hc j (by rw [HR.out.1]; exact hlt)
        obtain ⟨y, hy⟩ : ∃ y, y = (words s.data.toList)[j]?.getD [] := ⟨_, rfl⟩
        have hw : Wordish y := by
          rw [hy, List.getElem?_eq_getElem (by rw [HR.out.1]; exact hlt)]
          exact words_wordish _ _ (List.getElem_mem _)
        rw [← hy] at k1
        have h0 := wordish_size hw
        have hsy : ((bs y).size : Int) ≤ 2000 := by
          have h1 := lens_one (ls := words s.data.toList) (j := j) (by rw [HR.out.1]; exact hlt)
          have h2 := Lib.lens_take_le (words s.data.toList) (j + 1)
          have h3 := (words_lens s.data.toList).1
          rw [← hy] at h1
          rw [← Lib.size_eq] at h3
          omega
        have e1 := nonempty_of h0
        have HW := Lib.hid hw
        clear hc hy hw
        go_wp2_with fail
        iterate 4
          go_roundw
          case rel => exact ⟨j + 1, by omega, by go_num, hb⟩
          case measure => simp [intOf]; omega
        have a1 : ¬(bs y).toList = [46] := by assumption
        have a2 : ¬(bs y).toList = [44] := by assumption
        have a3 : ¬((bs y)[0].toNat : Int) = 45 := by assumption
        have a4 : ¬((bs y)[0].toNat : Int) = 39 := by assumption
        have hwd := Lib.hid (short_word HW.out h0 (by simpa using a1) (by simpa using a2) (by simpa using a3) (by simpa using a4))
        have t1 : ((bs y).toList == [46]) = false := by simpa using a1
        have t2 : ((bs y).toList == [44]) = false := by simpa using a2
        have t3 : (((bs y)[0].toNat : Int) == 45) = false := by simpa using a3
        have t4 : (((bs y)[0].toNat : Int) == 39) = false := by simpa using a4
        clear a1 a2 a3 a4
        refine (short_any _ (bs y) (by omega)).mono ?_
        rintro e w2 ⟨rfl, rfl⟩
        go_wp2_with fail
        refine (isWord_any _ (shortB (bs y)) (by have := shortB_size (bs y); omega)).mono ?_
        rintro e w2 ⟨rfl, hb2⟩
        rw [hwd.out]
        have hb3 := hb.trans (hb2.mono hb.size)
        clear hb2
        go_wp2_with fail
        go_roundw
        case rel => exact ⟨j + 1, by omega, by go_num, hb3⟩
        case measure => simp [intOf]; omega
      · go_wp2_with fail
        refine (awake_any _).mono ?_
        rintro e w4 ⟨rfl, hb4⟩
        have hb5 := hb.trans (hb4.mono hb.size)
        go_wp2_with fail
        go_ret
        exact ⟨rfl, hb1.trans (hb5.mono hb1.size)⟩
  · go_enter Try.func7, Try.ntmps7
    go_wp2_with fail
    refine (awake_any _).mono ?_
    rintro e w4 ⟨rfl, hb4⟩
    go_wp2_with fail
    go_ret
    exact ⟨rfl, hb4⟩

end Go.Proofs.Yteglmkifpdedbaa
