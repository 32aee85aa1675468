/- Contracts of the reference's IsName, IsWord, IsText. -/
import Derived.Test.YtgeglhgkibcpfaaDoorCap
namespace Go.Proofs.YtgeglhgkibcpfaaDoor
open Go.RowKit

theorem all_stop (s : ByteArray) (p : UInt8 → Bool) (j : Nat) (hj : j < s.size) (hp : p s[j] = false) : s.data.toList.all p = false := by
  have hl : s.data.toList.length = s.size := by rw [Array.length_toList]; rfl
  rw [Bool.eq_false_iff]
  intro h
  rw [List.all_eq_true] at h
  have e := byte_at s j hj
  rw [List.getElem?_eq_getElem (by omega)] at e
  have e2 : s.data.toList[j] = s[j] := e
  have := h _ (List.getElem_mem (show j < s.data.toList.length by omega))
  rw [e2, hp] at this
  cases this

theorem all_end (s : ByteArray) (p : UInt8 → Bool) (ha : ∀ m, m < s.size → p (s.data.toList[m]?.getD 0) = true) : s.data.toList.all p = true := by
  rw [← runL_all, run_end s p ha, Lib.size_eq]

theorem all_more {s : ByteArray} {p : UInt8 → Bool} {j : Nat} (hlt : j < s.size) (h : ∀ m, m < j → p (s.data.toList[m]?.getD 0) = true) (hp : p s[j] = true) : ∀ m, m < j + 1 → p (s.data.toList[m]?.getD 0) = true := by
  intro m hm
  by_cases e : m = j
  · subst e; rw [byte_at s m hlt]; exact hp
  · exact h m (by omega)

theorem name_nil {s : ByteArray} (h : s.size < 1) : nameB s.data.toList = false := by
  rw [nameB_eq, begB_nil (by omega), Bool.false_and]
theorem name_long {s : ByteArray} (h : 24 < (s.size : Int)) : nameB s.data.toList = false := by
  rw [nameB_eq, fitsB, show decide ((s.size : Int) ≤ 24) = false from by simp; omega, Bool.false_and, Bool.and_false]
theorem name_head {s : ByteArray} (h0 : 0 < s.size) (h : isSm s[0] = false) : nameB s.data.toList = false := by
  rw [nameB_eq, begB_at h0, show inB 97 122 s[0] = false from h, Bool.false_and]
theorem name_stop {s : ByteArray} {j : Nat} (hj : j < s.size) (h : isNm s[j] = false) : nameB s.data.toList = false := by
  rw [nameB_eq, fitsB, all_stop s (fun c => inB 97 122 c || inB 48 57 c || decide ((c.toNat : Int) = 95)) j hj h, Bool.and_false, Bool.and_false]
theorem name_end {s : ByteArray} (h0 : 0 < s.size) (h1 : (s.size : Int) ≤ 24) (h : isSm s[0] = true) (ha : ∀ m, m < s.size → isNm (s.data.toList[m]?.getD 0) = true) : nameB s.data.toList = true := by
  rw [nameB_eq, begB_at h0, show inB 97 122 s[0] = true from h, fitsB, show decide ((s.size : Int) ≤ 24) = true from by simp; omega, all_end s (fun c => inB 97 122 c || inB 48 57 c || decide ((c.toNat : Int) = 95)) ha]
  rfl

theorem bool_ret {a b : Bool} (h : a = b) : Ending.returned (.bool a) = .returned (.bool b) := by rw [h]

set_option maxRecDepth 100000 in
set_option maxHeartbeats 1600000 in
theorem rname_any (w : World) (s : ByteArray) (hs : (s.size : Int) ≤ 9223372036854775807) :
    Calls Tryd.prog 32 #[.string s] w fun e w' => e = .returned (.bool (nameB s.data.toList)) ∧ w = w' := by
  by_cases h0 : s.size < 1
  · rw [name_nil h0]
    go_enter Tryd.func32, Tryd.ntmps32
    go_wp2_with fail
    go_ret
    exact ⟨rfl, rfl⟩
  · by_cases h24 : 24 < (s.size : Int)
    · rw [name_long h24]
      go_enter Tryd.func32, Tryd.ntmps32
      go_wp2_with fail
      go_ret
      exact ⟨rfl, rfl⟩
    · have hp : 0 < s.size := by omega
      have hle : (s.size : Int) ≤ 24 := by omega
      clear h0 h24
      by_cases hsm : isSm s[0] = true
      · have HS := Lib.hid hsm
        go_enter Tryd.func32, Tryd.ntmps32
        go_wp2_with fail
        refine (rsmall_any _ s[0]).mono ?_
        rintro e w2 ⟨rfl, rfl⟩
        go_wp2_with fail
        clear hsm
        go_loop [3] (fun i => ∃ j : Nat, j ≤ s.size ∧ i = .int .i64 j ∧ Hid (∀ m, m < j → isNm (s.data.toList[m]?.getD 0) = true)) (fun i => s.size - (intOf i).toNat)
        case atStart => exact ⟨0, Nat.zero_le _, rfl, Lib.hid (fun m hm => absurd hm (by omega))⟩
        case round =>
          obtain ⟨j, hj, rfl, hall⟩ := hrel
          by_cases hlt : j < s.size
          · by_cases a1 : isSm s[j] = true
            · have hn : Hid (isNm s[j] = true) := Lib.hid (by simp [isNm, a1])
              go_wp2_with fail
              refine (rsmall_any _ s[j]).mono ?_
              rintro e w2 ⟨rfl, rfl⟩
              go_wp2_with fail
              go_round
              case rel => exact ⟨j + 1, by omega, by go_num, Lib.hid (all_more hlt hall.out hn.out)⟩
              case measure => simp [intOf]; omega
            · rw [Bool.not_eq_true] at a1
              by_cases a2 : isDg s[j] = true
              · have hn : Hid (isNm s[j] = true) := Lib.hid (by simp [isNm, a2])
                go_wp2_with fail
                refine (rsmall_any _ s[j]).mono ?_
                rintro e w2 ⟨rfl, rfl⟩
                go_wp2_with fail
                refine (rdigit_any _ s[j]).mono ?_
                rintro e w2 ⟨rfl, rfl⟩
                go_wp2_with fail
                go_round
                case rel => exact ⟨j + 1, by omega, by go_num, Lib.hid (all_more hlt hall.out hn.out)⟩
                case measure => simp [intOf]; omega
              · rw [Bool.not_eq_true] at a2
                by_cases a3 : (s[j].toNat : Int) = 95
                · have hn : Hid (isNm s[j] = true) := Lib.hid (by simp [isNm, a3])
                  have t3 : ((s[j].toNat : Int) != 95) = false := by simpa using a3
                  clear a3
                  go_wp2_with fail
                  refine (rsmall_any _ s[j]).mono ?_
                  rintro e w2 ⟨rfl, rfl⟩
                  go_wp2_with fail
                  refine (rdigit_any _ s[j]).mono ?_
                  rintro e w2 ⟨rfl, rfl⟩
                  go_wp2_with fail
                  go_round
                  case rel => exact ⟨j + 1, by omega, by go_num, Lib.hid (all_more hlt hall.out hn.out)⟩
                  case measure => simp [intOf]; omega
                · have hn : isNm s[j] = false := by simp [isNm, a1, a2, a3]
                  have t3 : ((s[j].toNat : Int) != 95) = true := by simpa using a3
                  have hr := Lib.hid (name_stop hlt hn)
                  clear a3 hn
                  go_wp2_with fail
                  refine (rsmall_any _ s[j]).mono ?_
                  rintro e w2 ⟨rfl, rfl⟩
                  go_wp2_with fail
                  refine (rdigit_any _ s[j]).mono ?_
                  rintro e w2 ⟨rfl, rfl⟩
                  go_wp2_with fail
                  go_ret
                  exact ⟨bool_ret hr.out.symm, rfl⟩
          · have hr := Lib.hid (name_end hp hle HS.out (fun m hm => hall.out m (by omega)))
            go_wp2_with fail
            go_ret
            exact ⟨bool_ret hr.out.symm, rfl⟩
      · rw [Bool.not_eq_true] at hsm
        rw [name_head hp hsm]
        go_enter Tryd.func32, Tryd.ntmps32
        go_wp2_with fail
        refine (rsmall_any _ s[0]).mono ?_
        rintro e w2 ⟨rfl, rfl⟩
        go_wp2_with fail
        go_ret
        exact ⟨rfl, rfl⟩

theorem wd_yes {c : UInt8} (h : isRow c = true) (h2 : isCp c = false) : isWd c = true := by
  simpa [isRow, isWd, h2] using h
theorem wd_no {c : UInt8} (h : isRow c = false) : isWd c = false := by
  rw [Bool.eq_false_iff]
  intro e
  rw [isRow_of_wd e] at h
  cases h
theorem wd_great {c : UInt8} (h : isCp c = true) : isWd c = false := by
  rw [Bool.eq_false_iff]
  intro e
  rw [isCp_of_wd e] at h
  cases h

theorem word_nil {s : ByteArray} (h : s.size < 1) : wordB s.data.toList = false := by
  rw [wordB_eq, begB_nil (by omega), Bool.false_and]
theorem word_long {s : ByteArray} (h : 9 < (s.size : Int)) : wordB s.data.toList = false := by
  rw [wordB_eq, fitsB, show decide ((s.size : Int) ≤ 9) = false from by simp; omega, Bool.false_and, Bool.and_false]
theorem word_head {s : ByteArray} (h0 : 0 < s.size) (h : isSm s[0] = false) (h2 : isDg s[0] = false) : wordB s.data.toList = false := by
  rw [wordB_eq, begB_at h0, show (inB 97 122 s[0] || inB 48 57 s[0]) = false from by rw [show inB 97 122 s[0] = false from h, show inB 48 57 s[0] = false from h2]; rfl, Bool.false_and]
theorem word_stop {s : ByteArray} {j : Nat} (hj : j < s.size) (h : isWd s[j] = false) : wordB s.data.toList = false := by
  rw [wordB_eq, fitsB, all_stop s (fun c => (inB 97 122 c || inB 48 57 c) || isIn c) j hj h, Bool.and_false, Bool.and_false]
theorem word_end {s : ByteArray} (h0 : 0 < s.size) (h1 : (s.size : Int) ≤ 9) (h : (isSm s[0] || isDg s[0]) = true) (ha : ∀ m, m < s.size → isWd (s.data.toList[m]?.getD 0) = true) : wordB s.data.toList = true := by
  rw [wordB_eq, begB_at h0, show (inB 97 122 s[0] || inB 48 57 s[0]) = true from h, fitsB, show decide ((s.size : Int) ≤ 9) = true from by simp; omega, all_end s (fun c => (inB 97 122 c || inB 48 57 c) || isIn c) ha]
  rfl

theorem text_stop {s : ByteArray} {j : Nat} (hj : j < s.size) (h : isTx s[j] = false) : textB s.data.toList = false := by
  rw [textB_eq, fitsB, all_stop s (fun c => inB 32 126 c || decide ((c.toNat : Int) = 10)) j hj h, Bool.and_false]
theorem text_end {s : ByteArray} (ha : ∀ m, m < s.size → isTx (s.data.toList[m]?.getD 0) = true) : textB s.data.toList = decide ((s.size : Int) ≤ 1024) := by
  rw [textB_eq, fitsB, all_end s (fun c => inB 32 126 c || decide ((c.toNat : Int) = 10)) ha, Bool.and_true]

end Go.Proofs.YtgeglhgkibcpfaaDoor
