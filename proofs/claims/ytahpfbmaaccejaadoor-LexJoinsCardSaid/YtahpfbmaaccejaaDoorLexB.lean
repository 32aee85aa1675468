/- Contract of the reference's gap. -/
import Derived.Test.YtahpfbmaaccejaaDoorLexA
namespace Go.Proofs.YtahpfbmaaccejaaDoor
open Go.RowKit

theorem gapF_no {m : Bool} {c : UInt8} {r : List UInt8} (h : mayB c = false) : gapF m (c :: r) = (0, false) := by
  unfold gapF
  rw [if_pos h]

theorem gapF_end {m m2 : Bool} {c : UInt8} {r : List UInt8} (h : mayB c = true) (h2 : ((r.head? == some 47 && decide ((c.toNat : Int) = 47)) || (m && decide ((c.toNat : Int) ≠ 10))) = m2) (hs : m2 = false ∧ (c.toNat : Int) ≠ 32 ∧ (c.toNat : Int) ≠ 10 ∧ (c.toNat : Int) ≠ 9) : gapF m (c :: r) = (0, true) := by
  unfold gapF
  rw [if_neg (by rw [h]; decide)]
  simp only [h2]
  rw [if_pos hs]

theorem gapF_on {m m2 : Bool} {c : UInt8} {r : List UInt8} (h : mayB c = true) (h2 : ((r.head? == some 47 && decide ((c.toNat : Int) = 47)) || (m && decide ((c.toNat : Int) ≠ 10))) = m2) (hs : ¬ (m2 = false ∧ (c.toNat : Int) ≠ 32 ∧ (c.toNat : Int) ≠ 10 ∧ (c.toNat : Int) ≠ 9)) : gapF m (c :: r) = ((gapF m2 r).1 + 1, (gapF m2 r).2) := by
  conv => lhs; unfold gapF
  rw [if_neg (by rw [h]; decide)]
  simp only [h2]
  rw [if_neg hs]

theorem head_at {s : ByteArray} {j : Nat} (h : j < s.size) : (s.data.toList.drop j).head? = some s[j] := by rw [drop_at h]; rfl
theorem head_no {s : ByteArray} {j : Nat} (h : ¬ j < s.size) : (s.data.toList.drop j).head? = none := by
  rw [List.drop_of_length_le (by rw [Array.length_toList]; show s.size ≤ j; omega)]
  rfl

theorem gap_ret {a b : Nat} {x y : Bool} (h : x = y) (h2 : a = b) : Ending.returned (.tuple #[.int .i64 a, .bool x]) = .returned (.tuple #[.int .i64 (b : Nat), .bool y]) := by rw [h, h2]

set_option maxRecDepth 100000 in
set_option maxHeartbeats 12800000 in
theorem r9gap_any (w : World) (s : ByteArray) (i : Nat) (hi : i ≤ s.size) (hs : (s.size : Int) ≤ 100000) :
    Calls Tryd.prog 25 #[.string s, .int .i64 i] w fun e w' => e = .returned (.tuple #[.int .i64 ((i + (gapF false (s.data.toList.drop i)).1 : Nat) : Int), .bool (gapF false (s.data.toList.drop i)).2]) ∧ w = w' := by
  obtain ⟨G, hG⟩ : ∃ G, G = gapF false (s.data.toList.drop i) := ⟨_, rfl⟩
  have HG0 : Hid (G = (i - i + (gapF false (s.data.toList.drop i)).1, (gapF false (s.data.toList.drop i)).2)) := Lib.hid (by rw [hG, Nat.sub_self, Nat.zero_add])
  rw [← hG]
  clear hG
  have hl : s.data.toList.length = s.size := by rw [Array.length_toList]; rfl
  have HL := Lib.hid hl
  clear hl
  go_enter Tryd.func25, Tryd.ntmps25
  go_wp2_with fail
  go_loopw [1, 6] (fun vi vm wr => ∃ (k : Nat) (m : Bool), i ≤ k ∧ k ≤ s.size ∧ vi = .int .i64 k ∧ vm = .bool m ∧ Hid (w = wr) ∧ Hid (G = (k - i + (gapF m (s.data.toList.drop k)).1, (gapF m (s.data.toList.drop k)).2))) (fun vi _ _ => s.size - (intOf vi).toNat)
  case atStart => exact ⟨i, false, Nat.le_refl _, hi, rfl, rfl, Lib.hid rfl, HG0⟩
  case round =>
    clear HG0
    obtain ⟨k, m, hik, hk, rfl, rfl, HW, HG⟩ := hrel
    have hw := HW.out
    subst hw
    clear HW
    by_cases hlt : k < s.size
    · have HD := Lib.hid (drop_at hlt)
      by_cases hm : mayB s[k] = true
      · have HM := Lib.hid hm
        have hcl := s[k].toNat_lt
        clear hm
        by_cases hc : (s[k].toNat : Int) = 10
        · cases m with
          | true =>
            by_cases h1 : k + 1 < s.size
            · by_cases hn : (s[k + 1].toNat : Int) = 47
              · have bh : ((s.data.toList.drop (k + 1)).head? == some 47) = true := by rw [head_at h1, show s[k + 1] = 47 from UInt8.toNat_inj.mp (by have : (47 : UInt8).toNat = 47 := rfl; omega)]; rfl
                have d47 : decide ((s[k].toNat : Int) = 47) = false := decide_eq_false (by omega)
                have d10 : decide ((s[k].toNat : Int) ≠ 10) = false := decide_eq_false (by omega)
                have HE : Hid (G = (k + 1 - i + (gapF false (s.data.toList.drop (k + 1))).1, (gapF false (s.data.toList.drop (k + 1))).2)) := Lib.hid (by rw [HG.out, HD.out, gapF_on (m := true) (m2 := false) HM.out (by rw [bh, d47, d10]; rfl) (by rintro ⟨_, a1, a2, a3⟩; omega)]; show (k - i + ((gapF false (s.data.toList.drop (k + 1))).1 + 1), _) = _; congr 1; omega)
                clear bh d47 d10
                have t10 : ((s[k].toNat : Int) == 10) = true := by simpa using hc
                have t47 : ((s[k].toNat : Int) == 47) = false := by rw [beq_eq_false_iff_ne]; omega
                have u32 : ((s[k].toNat : Int) != 32) = true := by rw [bne_iff_ne]; omega
                have u10 : ((s[k].toNat : Int) != 10) = false := by rw [bne_eq_false_iff_eq]; exact hc
                have u9 : ((s[k].toNat : Int) != 9) = true := by rw [bne_iff_ne]; omega
                have h1i : (k : Int) + 1 < s.size := by omega
                have tn : ((s[k + 1].toNat : Int) == 47) = true := by simpa using hn
                clear hc hn HG HD
                go_wp2_with fail
                refine (r9may_any w s[k]).mono ?_
                rintro e w1 ⟨rfl, rfl⟩
                rw [HM.out]
                go_wp2_with fail
                go_roundw
                case rel => exact ⟨k + 1, false, by omega, by omega, by go_num, rfl, Lib.hid (by trivial), HE⟩
                case measure => simp [intOf]; omega
              · have bh : ((s.data.toList.drop (k + 1)).head? == some 47) = false := by rw [head_at h1, beq_eq_false_iff_ne]; intro h9; injection h9 with h9; exact hn (by rw [h9]; rfl)
                have d47 : decide ((s[k].toNat : Int) = 47) = false := decide_eq_false (by omega)
                have d10 : decide ((s[k].toNat : Int) ≠ 10) = false := decide_eq_false (by omega)
                have HE : Hid (G = (k + 1 - i + (gapF false (s.data.toList.drop (k + 1))).1, (gapF false (s.data.toList.drop (k + 1))).2)) := Lib.hid (by rw [HG.out, HD.out, gapF_on (m := true) (m2 := false) HM.out (by rw [bh, d47, d10]; rfl) (by rintro ⟨_, a1, a2, a3⟩; omega)]; show (k - i + ((gapF false (s.data.toList.drop (k + 1))).1 + 1), _) = _; congr 1; omega)
                clear bh d47 d10
                have t10 : ((s[k].toNat : Int) == 10) = true := by simpa using hc
                have t47 : ((s[k].toNat : Int) == 47) = false := by rw [beq_eq_false_iff_ne]; omega
                have u32 : ((s[k].toNat : Int) != 32) = true := by rw [bne_iff_ne]; omega
                have u10 : ((s[k].toNat : Int) != 10) = false := by rw [bne_eq_false_iff_eq]; exact hc
                have u9 : ((s[k].toNat : Int) != 9) = true := by rw [bne_iff_ne]; omega
                have h1i : (k : Int) + 1 < s.size := by omega
                have tn : ((s[k + 1].toNat : Int) == 47) = false := by rw [beq_eq_false_iff_ne]; exact hn
                clear hc hn HG HD
                go_wp2_with fail
                refine (r9may_any w s[k]).mono ?_
                rintro e w1 ⟨rfl, rfl⟩
                rw [HM.out]
                go_wp2_with fail
                go_roundw
                case rel => exact ⟨k + 1, false, by omega, by omega, by go_num, rfl, Lib.hid (by trivial), HE⟩
                case measure => simp [intOf]; omega
            · have bh : ((s.data.toList.drop (k + 1)).head? == some 47) = false := by rw [head_no h1]; rfl
              have d47 : decide ((s[k].toNat : Int) = 47) = false := decide_eq_false (by omega)
              have d10 : decide ((s[k].toNat : Int) ≠ 10) = false := decide_eq_false (by omega)
              have HE : Hid (G = (k + 1 - i + (gapF false (s.data.toList.drop (k + 1))).1, (gapF false (s.data.toList.drop (k + 1))).2)) := Lib.hid (by rw [HG.out, HD.out, gapF_on (m := true) (m2 := false) HM.out (by rw [bh, d47, d10]; rfl) (by rintro ⟨_, a1, a2, a3⟩; omega)]; show (k - i + ((gapF false (s.data.toList.drop (k + 1))).1 + 1), _) = _; congr 1; omega)
              clear bh d47 d10
              have t10 : ((s[k].toNat : Int) == 10) = true := by simpa using hc
              have t47 : ((s[k].toNat : Int) == 47) = false := by rw [beq_eq_false_iff_ne]; omega
              have u32 : ((s[k].toNat : Int) != 32) = true := by rw [bne_iff_ne]; omega
              have u10 : ((s[k].toNat : Int) != 10) = false := by rw [bne_eq_false_iff_eq]; exact hc
              have u9 : ((s[k].toNat : Int) != 9) = true := by rw [bne_iff_ne]; omega
              have h1i : ¬ (k : Int) + 1 < s.size := by omega
              clear hc HG HD h1
              go_wp2_with fail
              refine (r9may_any w s[k]).mono ?_
              rintro e w1 ⟨rfl, rfl⟩
              rw [HM.out]
              go_wp2_with fail
              go_roundw
              case rel => exact ⟨k + 1, false, by omega, by omega, by go_num, rfl, Lib.hid (by trivial), HE⟩
              case measure => simp [intOf]; omega
          | false =>
            by_cases h1 : k + 1 < s.size
            · by_cases hn : (s[k + 1].toNat : Int) = 47
              · have bh : ((s.data.toList.drop (k + 1)).head? == some 47) = true := by rw [head_at h1, show s[k + 1] = 47 from UInt8.toNat_inj.mp (by have : (47 : UInt8).toNat = 47 := rfl; omega)]; rfl
                have d47 : decide ((s[k].toNat : Int) = 47) = false := decide_eq_false (by omega)
                have d10 : decide ((s[k].toNat : Int) ≠ 10) = false := decide_eq_false (by omega)
                have HE : Hid (G = (k + 1 - i + (gapF false (s.data.toList.drop (k + 1))).1, (gapF false (s.data.toList.drop (k + 1))).2)) := Lib.hid (by rw [HG.out, HD.out, gapF_on (m := false) (m2 := false) HM.out (by rw [bh, d47, d10]; rfl) (by rintro ⟨_, a1, a2, a3⟩; omega)]; show (k - i + ((gapF false (s.data.toList.drop (k + 1))).1 + 1), _) = _; congr 1; omega)
                clear bh d47 d10
                have t10 : ((s[k].toNat : Int) == 10) = true := by simpa using hc
                have t47 : ((s[k].toNat : Int) == 47) = false := by rw [beq_eq_false_iff_ne]; omega
                have u32 : ((s[k].toNat : Int) != 32) = true := by rw [bne_iff_ne]; omega
                have u10 : ((s[k].toNat : Int) != 10) = false := by rw [bne_eq_false_iff_eq]; exact hc
                have u9 : ((s[k].toNat : Int) != 9) = true := by rw [bne_iff_ne]; omega
                have h1i : (k : Int) + 1 < s.size := by omega
                have tn : ((s[k + 1].toNat : Int) == 47) = true := by simpa using hn
                clear hc hn HG HD
                go_wp2_with fail
                refine (r9may_any w s[k]).mono ?_
                rintro e w1 ⟨rfl, rfl⟩
                rw [HM.out]
                go_wp2_with fail
                go_roundw
                case rel => exact ⟨k + 1, false, by omega, by omega, by go_num, rfl, Lib.hid (by trivial), HE⟩
                case measure => simp [intOf]; omega
              · have bh : ((s.data.toList.drop (k + 1)).head? == some 47) = false := by rw [head_at h1, beq_eq_false_iff_ne]; intro h9; injection h9 with h9; exact hn (by rw [h9]; rfl)
                have d47 : decide ((s[k].toNat : Int) = 47) = false := decide_eq_false (by omega)
                have d10 : decide ((s[k].toNat : Int) ≠ 10) = false := decide_eq_false (by omega)
                have HE : Hid (G = (k + 1 - i + (gapF false (s.data.toList.drop (k + 1))).1, (gapF false (s.data.toList.drop (k + 1))).2)) := Lib.hid (by rw [HG.out, HD.out, gapF_on (m := false) (m2 := false) HM.out (by rw [bh, d47, d10]; rfl) (by rintro ⟨_, a1, a2, a3⟩; omega)]; show (k - i + ((gapF false (s.data.toList.drop (k + 1))).1 + 1), _) = _; congr 1; omega)
                clear bh d47 d10
                have t10 : ((s[k].toNat : Int) == 10) = true := by simpa using hc
                have t47 : ((s[k].toNat : Int) == 47) = false := by rw [beq_eq_false_iff_ne]; omega
                have u32 : ((s[k].toNat : Int) != 32) = true := by rw [bne_iff_ne]; omega
                have u10 : ((s[k].toNat : Int) != 10) = false := by rw [bne_eq_false_iff_eq]; exact hc
                have u9 : ((s[k].toNat : Int) != 9) = true := by rw [bne_iff_ne]; omega
                have h1i : (k : Int) + 1 < s.size := by omega
                have tn : ((s[k + 1].toNat : Int) == 47) = false := by rw [beq_eq_false_iff_ne]; exact hn
                clear hc hn HG HD
                go_wp2_with fail
                refine (r9may_any w s[k]).mono ?_
                rintro e w1 ⟨rfl, rfl⟩
                rw [HM.out]
                go_wp2_with fail
                go_roundw
                case rel => exact ⟨k + 1, false, by omega, by omega, by go_num, rfl, Lib.hid (by trivial), HE⟩
                case measure => simp [intOf]; omega
            · have bh : ((s.data.toList.drop (k + 1)).head? == some 47) = false := by rw [head_no h1]; rfl
              have d47 : decide ((s[k].toNat : Int) = 47) = false := decide_eq_false (by omega)
              have d10 : decide ((s[k].toNat : Int) ≠ 10) = false := decide_eq_false (by omega)
              have HE : Hid (G = (k + 1 - i + (gapF false (s.data.toList.drop (k + 1))).1, (gapF false (s.data.toList.drop (k + 1))).2)) := Lib.hid (by rw [HG.out, HD.out, gapF_on (m := false) (m2 := false) HM.out (by rw [bh, d47, d10]; rfl) (by rintro ⟨_, a1, a2, a3⟩; omega)]; show (k - i + ((gapF false (s.data.toList.drop (k + 1))).1 + 1), _) = _; congr 1; omega)
              clear bh d47 d10
              have t10 : ((s[k].toNat : Int) == 10) = true := by simpa using hc
              have t47 : ((s[k].toNat : Int) == 47) = false := by rw [beq_eq_false_iff_ne]; omega
              have u32 : ((s[k].toNat : Int) != 32) = true := by rw [bne_iff_ne]; omega
              have u10 : ((s[k].toNat : Int) != 10) = false := by rw [bne_eq_false_iff_eq]; exact hc
              have u9 : ((s[k].toNat : Int) != 9) = true := by rw [bne_iff_ne]; omega
              have h1i : ¬ (k : Int) + 1 < s.size := by omega
              clear hc HG HD h1
              go_wp2_with fail
              refine (r9may_any w s[k]).mono ?_
              rintro e w1 ⟨rfl, rfl⟩
              rw [HM.out]
              go_wp2_with fail
              go_roundw
              case rel => exact ⟨k + 1, false, by omega, by omega, by go_num, rfl, Lib.hid (by trivial), HE⟩
              case measure => simp [intOf]; omega
        · have n10 := hc
          clear hc
          by_cases hc : (s[k].toNat : Int) = 47
          · cases m with
            | true =>
              by_cases h1 : k + 1 < s.size
              · by_cases hn : (s[k + 1].toNat : Int) = 47
                · have bh : ((s.data.toList.drop (k + 1)).head? == some 47) = true := by rw [head_at h1, show s[k + 1] = 47 from UInt8.toNat_inj.mp (by have : (47 : UInt8).toNat = 47 := rfl; omega)]; rfl
                  have d47 : decide ((s[k].toNat : Int) = 47) = true := decide_eq_true hc
                  have d10 : decide ((s[k].toNat : Int) ≠ 10) = true := decide_eq_true (by omega)
                  have HE : Hid (G = (k + 1 - i + (gapF true (s.data.toList.drop (k + 1))).1, (gapF true (s.data.toList.drop (k + 1))).2)) := Lib.hid (by rw [HG.out, HD.out, gapF_on (m := true) (m2 := true) HM.out (by rw [bh, d47, d10]; rfl) (by rintro ⟨h, _⟩; cases h)]; show (k - i + ((gapF true (s.data.toList.drop (k + 1))).1 + 1), _) = _; congr 1; omega)
                  clear bh d47 d10
                  have t10 : ((s[k].toNat : Int) == 10) = false := by rw [beq_eq_false_iff_ne]; omega
                  have t47 : ((s[k].toNat : Int) == 47) = true := by simpa using hc
                  have u32 : ((s[k].toNat : Int) != 32) = true := by rw [bne_iff_ne]; omega
                  have u10 : ((s[k].toNat : Int) != 10) = true := by rw [bne_iff_ne]; omega
                  have u9 : ((s[k].toNat : Int) != 9) = true := by rw [bne_iff_ne]; omega
                  have h1i : (k : Int) + 1 < s.size := by omega
                  have tn : ((s[k + 1].toNat : Int) == 47) = true := by simpa using hn
                  clear hc hn HG HD
                  go_wp2_with fail
                  refine (r9may_any w s[k]).mono ?_
                  rintro e w1 ⟨rfl, rfl⟩
                  rw [HM.out]
                  go_wp2_with fail
                  go_roundw
                  case rel => exact ⟨k + 1, true, by omega, by omega, by go_num, rfl, Lib.hid (by trivial), HE⟩
                  case measure => simp [intOf]; omega
                · have bh : ((s.data.toList.drop (k + 1)).head? == some 47) = false := by rw [head_at h1, beq_eq_false_iff_ne]; intro h9; injection h9 with h9; exact hn (by rw [h9]; rfl)
                  have d47 : decide ((s[k].toNat : Int) = 47) = true := decide_eq_true hc
                  have d10 : decide ((s[k].toNat : Int) ≠ 10) = true := decide_eq_true (by omega)
                  have HE : Hid (G = (k + 1 - i + (gapF true (s.data.toList.drop (k + 1))).1, (gapF true (s.data.toList.drop (k + 1))).2)) := Lib.hid (by rw [HG.out, HD.out, gapF_on (m := true) (m2 := true) HM.out (by rw [bh, d47, d10]; rfl) (by rintro ⟨h, _⟩; cases h)]; show (k - i + ((gapF true (s.data.toList.drop (k + 1))).1 + 1), _) = _; congr 1; omega)
                  clear bh d47 d10
                  have t10 : ((s[k].toNat : Int) == 10) = false := by rw [beq_eq_false_iff_ne]; omega
                  have t47 : ((s[k].toNat : Int) == 47) = true := by simpa using hc
                  have u32 : ((s[k].toNat : Int) != 32) = true := by rw [bne_iff_ne]; omega
                  have u10 : ((s[k].toNat : Int) != 10) = true := by rw [bne_iff_ne]; omega
                  have u9 : ((s[k].toNat : Int) != 9) = true := by rw [bne_iff_ne]; omega
                  have h1i : (k : Int) + 1 < s.size := by omega
                  have tn : ((s[k + 1].toNat : Int) == 47) = false := by rw [beq_eq_false_iff_ne]; exact hn
                  clear hc hn HG HD
                  go_wp2_with fail
                  refine (r9may_any w s[k]).mono ?_
                  rintro e w1 ⟨rfl, rfl⟩
                  rw [HM.out]
                  go_wp2_with fail
                  go_roundw
                  case rel => exact ⟨k + 1, true, by omega, by omega, by go_num, rfl, Lib.hid (by trivial), HE⟩
                  case measure => simp [intOf]; omega
              · have bh : ((s.data.toList.drop (k + 1)).head? == some 47) = false := by rw [head_no h1]; rfl
                have d47 : decide ((s[k].toNat : Int) = 47) = true := decide_eq_true hc
                have d10 : decide ((s[k].toNat : Int) ≠ 10) = true := decide_eq_true (by omega)
                have HE : Hid (G = (k + 1 - i + (gapF true (s.data.toList.drop (k + 1))).1, (gapF true (s.data.toList.drop (k + 1))).2)) := Lib.hid (by rw [HG.out, HD.out, gapF_on (m := true) (m2 := true) HM.out (by rw [bh, d47, d10]; rfl) (by rintro ⟨h, _⟩; cases h)]; show (k - i + ((gapF true (s.data.toList.drop (k + 1))).1 + 1), _) = _; congr 1; omega)
                clear bh d47 d10
                have t10 : ((s[k].toNat : Int) == 10) = false := by rw [beq_eq_false_iff_ne]; omega
                have t47 : ((s[k].toNat : Int) == 47) = true := by simpa using hc
                have u32 : ((s[k].toNat : Int) != 32) = true := by rw [bne_iff_ne]; omega
                have u10 : ((s[k].toNat : Int) != 10) = true := by rw [bne_iff_ne]; omega
                have u9 : ((s[k].toNat : Int) != 9) = true := by rw [bne_iff_ne]; omega
                have h1i : ¬ (k : Int) + 1 < s.size := by omega
                clear hc HG HD h1
                go_wp2_with fail
                refine (r9may_any w s[k]).mono ?_
                rintro e w1 ⟨rfl, rfl⟩
                rw [HM.out]
                go_wp2_with fail
                go_roundw
                case rel => exact ⟨k + 1, true, by omega, by omega, by go_num, rfl, Lib.hid (by trivial), HE⟩
                case measure => simp [intOf]; omega
            | false =>
              by_cases h1 : k + 1 < s.size
              · by_cases hn : (s[k + 1].toNat : Int) = 47
                · have bh : ((s.data.toList.drop (k + 1)).head? == some 47) = true := by rw [head_at h1, show s[k + 1] = 47 from UInt8.toNat_inj.mp (by have : (47 : UInt8).toNat = 47 := rfl; omega)]; rfl
                  have d47 : decide ((s[k].toNat : Int) = 47) = true := decide_eq_true hc
                  have d10 : decide ((s[k].toNat : Int) ≠ 10) = true := decide_eq_true (by omega)
                  have HE : Hid (G = (k + 1 - i + (gapF true (s.data.toList.drop (k + 1))).1, (gapF true (s.data.toList.drop (k + 1))).2)) := Lib.hid (by rw [HG.out, HD.out, gapF_on (m := false) (m2 := true) HM.out (by rw [bh, d47, d10]; rfl) (by rintro ⟨h, _⟩; cases h)]; show (k - i + ((gapF true (s.data.toList.drop (k + 1))).1 + 1), _) = _; congr 1; omega)
                  clear bh d47 d10
                  have t10 : ((s[k].toNat : Int) == 10) = false := by rw [beq_eq_false_iff_ne]; omega
                  have t47 : ((s[k].toNat : Int) == 47) = true := by simpa using hc
                  have u32 : ((s[k].toNat : Int) != 32) = true := by rw [bne_iff_ne]; omega
                  have u10 : ((s[k].toNat : Int) != 10) = true := by rw [bne_iff_ne]; omega
                  have u9 : ((s[k].toNat : Int) != 9) = true := by rw [bne_iff_ne]; omega
                  have h1i : (k : Int) + 1 < s.size := by omega
                  have tn : ((s[k + 1].toNat : Int) == 47) = true := by simpa using hn
                  clear hc hn HG HD
                  go_wp2_with fail
                  refine (r9may_any w s[k]).mono ?_
                  rintro e w1 ⟨rfl, rfl⟩
                  rw [HM.out]
                  go_wp2_with fail
                  go_roundw
                  case rel => exact ⟨k + 1, true, by omega, by omega, by go_num, rfl, Lib.hid (by trivial), HE⟩
                  case measure => simp [intOf]; omega
                · have bh : ((s.data.toList.drop (k + 1)).head? == some 47) = false := by rw [head_at h1, beq_eq_false_iff_ne]; intro h9; injection h9 with h9; exact hn (by rw [h9]; rfl)
                  have d47 : decide ((s[k].toNat : Int) = 47) = true := decide_eq_true hc
                  have d10 : decide ((s[k].toNat : Int) ≠ 10) = true := decide_eq_true (by omega)
                  have HE : Hid (G = (k - i, true)) := Lib.hid (by rw [HG.out, HD.out, gapF_end (m := false) (m2 := false) HM.out (by rw [bh, d47, d10]; rfl) ⟨rfl, by omega, by omega, by omega⟩, Nat.add_zero])
                  clear bh d47 d10
                  have t10 : ((s[k].toNat : Int) == 10) = false := by rw [beq_eq_false_iff_ne]; omega
                  have t47 : ((s[k].toNat : Int) == 47) = true := by simpa using hc
                  have u32 : ((s[k].toNat : Int) != 32) = true := by rw [bne_iff_ne]; omega
                  have u10 : ((s[k].toNat : Int) != 10) = true := by rw [bne_iff_ne]; omega
                  have u9 : ((s[k].toNat : Int) != 9) = true := by rw [bne_iff_ne]; omega
                  have h1i : (k : Int) + 1 < s.size := by omega
                  have tn : ((s[k + 1].toNat : Int) == 47) = false := by rw [beq_eq_false_iff_ne]; exact hn
                  clear hc hn HG HD
                  go_wp2_with fail
                  refine (r9may_any w s[k]).mono ?_
                  rintro e w1 ⟨rfl, rfl⟩
                  rw [HM.out]
                  go_wp2_with fail
                  go_ret2
                  rw [HE.out]
                  exact ⟨gap_ret rfl (by show k = i + (k - i); omega), rfl⟩
              · have bh : ((s.data.toList.drop (k + 1)).head? == some 47) = false := by rw [head_no h1]; rfl
                have d47 : decide ((s[k].toNat : Int) = 47) = true := decide_eq_true hc
                have d10 : decide ((s[k].toNat : Int) ≠ 10) = true := decide_eq_true (by omega)
                have HE : Hid (G = (k - i, true)) := Lib.hid (by rw [HG.out, HD.out, gapF_end (m := false) (m2 := false) HM.out (by rw [bh, d47, d10]; rfl) ⟨rfl, by omega, by omega, by omega⟩, Nat.add_zero])
                clear bh d47 d10
                have t10 : ((s[k].toNat : Int) == 10) = false := by rw [beq_eq_false_iff_ne]; omega
                have t47 : ((s[k].toNat : Int) == 47) = true := by simpa using hc
                have u32 : ((s[k].toNat : Int) != 32) = true := by rw [bne_iff_ne]; omega
                have u10 : ((s[k].toNat : Int) != 10) = true := by rw [bne_iff_ne]; omega
                have u9 : ((s[k].toNat : Int) != 9) = true := by rw [bne_iff_ne]; omega
                have h1i : ¬ (k : Int) + 1 < s.size := by omega
                clear hc HG HD h1
                go_wp2_with fail
                refine (r9may_any w s[k]).mono ?_
                rintro e w1 ⟨rfl, rfl⟩
                rw [HM.out]
                go_wp2_with fail
                go_ret2
                rw [HE.out]
                exact ⟨gap_ret rfl (by show k = i + (k - i); omega), rfl⟩
          · have n47 := hc
            clear hc
            by_cases hc : (s[k].toNat : Int) = 32
            · cases m with
              | true =>
                by_cases h1 : k + 1 < s.size
                · by_cases hn : (s[k + 1].toNat : Int) = 47
                  · have bh : ((s.data.toList.drop (k + 1)).head? == some 47) = true := by rw [head_at h1, show s[k + 1] = 47 from UInt8.toNat_inj.mp (by have : (47 : UInt8).toNat = 47 := rfl; omega)]; rfl
                    have d47 : decide ((s[k].toNat : Int) = 47) = false := decide_eq_false (by omega)
                    have d10 : decide ((s[k].toNat : Int) ≠ 10) = true := decide_eq_true (by omega)
                    have HE : Hid (G = (k + 1 - i + (gapF true (s.data.toList.drop (k + 1))).1, (gapF true (s.data.toList.drop (k + 1))).2)) := Lib.hid (by rw [HG.out, HD.out, gapF_on (m := true) (m2 := true) HM.out (by rw [bh, d47, d10]; rfl) (by rintro ⟨h, _⟩; cases h)]; show (k - i + ((gapF true (s.data.toList.drop (k + 1))).1 + 1), _) = _; congr 1; omega)
                    clear bh d47 d10
                    have t10 : ((s[k].toNat : Int) == 10) = false := by rw [beq_eq_false_iff_ne]; omega
                    have t47 : ((s[k].toNat : Int) == 47) = false := by rw [beq_eq_false_iff_ne]; omega
                    have u32 : ((s[k].toNat : Int) != 32) = false := by rw [bne_eq_false_iff_eq]; exact hc
                    have u10 : ((s[k].toNat : Int) != 10) = true := by rw [bne_iff_ne]; omega
                    have u9 : ((s[k].toNat : Int) != 9) = true := by rw [bne_iff_ne]; omega
                    have h1i : (k : Int) + 1 < s.size := by omega
                    have tn : ((s[k + 1].toNat : Int) == 47) = true := by simpa using hn
                    clear hc hn HG HD
                    go_wp2_with fail
                    refine (r9may_any w s[k]).mono ?_
                    rintro e w1 ⟨rfl, rfl⟩
                    rw [HM.out]
                    go_wp2_with fail
                    go_roundw
                    case rel => exact ⟨k + 1, true, by omega, by omega, by go_num, rfl, Lib.hid (by trivial), HE⟩
                    case measure => simp [intOf]; omega
                  · have bh : ((s.data.toList.drop (k + 1)).head? == some 47) = false := by rw [head_at h1, beq_eq_false_iff_ne]; intro h9; injection h9 with h9; exact hn (by rw [h9]; rfl)
                    have d47 : decide ((s[k].toNat : Int) = 47) = false := decide_eq_false (by omega)
                    have d10 : decide ((s[k].toNat : Int) ≠ 10) = true := decide_eq_true (by omega)
                    have HE : Hid (G = (k + 1 - i + (gapF true (s.data.toList.drop (k + 1))).1, (gapF true (s.data.toList.drop (k + 1))).2)) := Lib.hid (by rw [HG.out, HD.out, gapF_on (m := true) (m2 := true) HM.out (by rw [bh, d47, d10]; rfl) (by rintro ⟨h, _⟩; cases h)]; show (k - i + ((gapF true (s.data.toList.drop (k + 1))).1 + 1), _) = _; congr 1; omega)
                    clear bh d47 d10
                    have t10 : ((s[k].toNat : Int) == 10) = false := by rw [beq_eq_false_iff_ne]; omega
                    have t47 : ((s[k].toNat : Int) == 47) = false := by rw [beq_eq_false_iff_ne]; omega
                    have u32 : ((s[k].toNat : Int) != 32) = false := by rw [bne_eq_false_iff_eq]; exact hc
                    have u10 : ((s[k].toNat : Int) != 10) = true := by rw [bne_iff_ne]; omega
                    have u9 : ((s[k].toNat : Int) != 9) = true := by rw [bne_iff_ne]; omega
                    have h1i : (k : Int) + 1 < s.size := by omega
                    have tn : ((s[k + 1].toNat : Int) == 47) = false := by rw [beq_eq_false_iff_ne]; exact hn
                    clear hc hn HG HD
                    go_wp2_with fail
                    refine (r9may_any w s[k]).mono ?_
                    rintro e w1 ⟨rfl, rfl⟩
                    rw [HM.out]
                    go_wp2_with fail
                    go_roundw
                    case rel => exact ⟨k + 1, true, by omega, by omega, by go_num, rfl, Lib.hid (by trivial), HE⟩
                    case measure => simp [intOf]; omega
                · have bh : ((s.data.toList.drop (k + 1)).head? == some 47) = false := by rw [head_no h1]; rfl
                  have d47 : decide ((s[k].toNat : Int) = 47) = false := decide_eq_false (by omega)
                  have d10 : decide ((s[k].toNat : Int) ≠ 10) = true := decide_eq_true (by omega)
                  have HE : Hid (G = (k + 1 - i + (gapF true (s.data.toList.drop (k + 1))).1, (gapF true (s.data.toList.drop (k + 1))).2)) := Lib.hid (by rw [HG.out, HD.out, gapF_on (m := true) (m2 := true) HM.out (by rw [bh, d47, d10]; rfl) (by rintro ⟨h, _⟩; cases h)]; show (k - i + ((gapF true (s.data.toList.drop (k + 1))).1 + 1), _) = _; congr 1; omega)
                  clear bh d47 d10
                  have t10 : ((s[k].toNat : Int) == 10) = false := by rw [beq_eq_false_iff_ne]; omega
                  have t47 : ((s[k].toNat : Int) == 47) = false := by rw [beq_eq_false_iff_ne]; omega
                  have u32 : ((s[k].toNat : Int) != 32) = false := by rw [bne_eq_false_iff_eq]; exact hc
                  have u10 : ((s[k].toNat : Int) != 10) = true := by rw [bne_iff_ne]; omega
                  have u9 : ((s[k].toNat : Int) != 9) = true := by rw [bne_iff_ne]; omega
                  have h1i : ¬ (k : Int) + 1 < s.size := by omega
                  clear hc HG HD h1
                  go_wp2_with fail
                  refine (r9may_any w s[k]).mono ?_
                  rintro e w1 ⟨rfl, rfl⟩
                  rw [HM.out]
                  go_wp2_with fail
                  go_roundw
                  case rel => exact ⟨k + 1, true, by omega, by omega, by go_num, rfl, Lib.hid (by trivial), HE⟩
                  case measure => simp [intOf]; omega
              | false =>
                by_cases h1 : k + 1 < s.size
                · by_cases hn : (s[k + 1].toNat : Int) = 47
                  · have bh : ((s.data.toList.drop (k + 1)).head? == some 47) = true := by rw [head_at h1, show s[k + 1] = 47 from UInt8.toNat_inj.mp (by have : (47 : UInt8).toNat = 47 := rfl; omega)]; rfl
                    have d47 : decide ((s[k].toNat : Int) = 47) = false := decide_eq_false (by omega)
                    have d10 : decide ((s[k].toNat : Int) ≠ 10) = true := decide_eq_true (by omega)
                    have HE : Hid (G = (k + 1 - i + (gapF false (s.data.toList.drop (k + 1))).1, (gapF false (s.data.toList.drop (k + 1))).2)) := Lib.hid (by rw [HG.out, HD.out, gapF_on (m := false) (m2 := false) HM.out (by rw [bh, d47, d10]; rfl) (by rintro ⟨_, a1, a2, a3⟩; omega)]; show (k - i + ((gapF false (s.data.toList.drop (k + 1))).1 + 1), _) = _; congr 1; omega)
                    clear bh d47 d10
                    have t10 : ((s[k].toNat : Int) == 10) = false := by rw [beq_eq_false_iff_ne]; omega
                    have t47 : ((s[k].toNat : Int) == 47) = false := by rw [beq_eq_false_iff_ne]; omega
                    have u32 : ((s[k].toNat : Int) != 32) = false := by rw [bne_eq_false_iff_eq]; exact hc
                    have u10 : ((s[k].toNat : Int) != 10) = true := by rw [bne_iff_ne]; omega
                    have u9 : ((s[k].toNat : Int) != 9) = true := by rw [bne_iff_ne]; omega
                    have h1i : (k : Int) + 1 < s.size := by omega
                    have tn : ((s[k + 1].toNat : Int) == 47) = true := by simpa using hn
                    clear hc hn HG HD
                    go_wp2_with fail
                    refine (r9may_any w s[k]).mono ?_
                    rintro e w1 ⟨rfl, rfl⟩
                    rw [HM.out]
                    go_wp2_with fail
                    go_roundw
                    case rel => exact ⟨k + 1, false, by omega, by omega, by go_num, rfl, Lib.hid (by trivial), HE⟩
                    case measure => simp [intOf]; omega
                  · have bh : ((s.data.toList.drop (k + 1)).head? == some 47) = false := by rw [head_at h1, beq_eq_false_iff_ne]; intro h9; injection h9 with h9; exact hn (by rw [h9]; rfl)
                    have d47 : decide ((s[k].toNat : Int) = 47) = false := decide_eq_false (by omega)
                    have d10 : decide ((s[k].toNat : Int) ≠ 10) = true := decide_eq_true (by omega)
                    have HE : Hid (G = (k + 1 - i + (gapF false (s.data.toList.drop (k + 1))).1, (gapF false (s.data.toList.drop (k + 1))).2)) := Lib.hid (by rw [HG.out, HD.out, gapF_on (m := false) (m2 := false) HM.out (by rw [bh, d47, d10]; rfl) (by rintro ⟨_, a1, a2, a3⟩; omega)]; show (k - i + ((gapF false (s.data.toList.drop (k + 1))).1 + 1), _) = _; congr 1; omega)
                    clear bh d47 d10
                    have t10 : ((s[k].toNat : Int) == 10) = false := by rw [beq_eq_false_iff_ne]; omega
                    have t47 : ((s[k].toNat : Int) == 47) = false := by rw [beq_eq_false_iff_ne]; omega
                    have u32 : ((s[k].toNat : Int) != 32) = false := by rw [bne_eq_false_iff_eq]; exact hc
                    have u10 : ((s[k].toNat : Int) != 10) = true := by rw [bne_iff_ne]; omega
                    have u9 : ((s[k].toNat : Int) != 9) = true := by rw [bne_iff_ne]; omega
                    have h1i : (k : Int) + 1 < s.size := by omega
                    have tn : ((s[k + 1].toNat : Int) == 47) = false := by rw [beq_eq_false_iff_ne]; exact hn
                    clear hc hn HG HD
                    go_wp2_with fail
                    refine (r9may_any w s[k]).mono ?_
                    rintro e w1 ⟨rfl, rfl⟩
                    rw [HM.out]
                    go_wp2_with fail
                    go_roundw
                    case rel => exact ⟨k + 1, false, by omega, by omega, by go_num, rfl, Lib.hid (by trivial), HE⟩
                    case measure => simp [intOf]; omega
                · have bh : ((s.data.toList.drop (k + 1)).head? == some 47) = false := by rw [head_no h1]; rfl
                  have d47 : decide ((s[k].toNat : Int) = 47) = false := decide_eq_false (by omega)
                  have d10 : decide ((s[k].toNat : Int) ≠ 10) = true := decide_eq_true (by omega)
                  have HE : Hid (G = (k + 1 - i + (gapF false (s.data.toList.drop (k + 1))).1, (gapF false (s.data.toList.drop (k + 1))).2)) := Lib.hid (by rw [HG.out, HD.out, gapF_on (m := false) (m2 := false) HM.out (by rw [bh, d47, d10]; rfl) (by rintro ⟨_, a1, a2, a3⟩; omega)]; show (k - i + ((gapF false (s.data.toList.drop (k + 1))).1 + 1), _) = _; congr 1; omega)
                  clear bh d47 d10
                  have t10 : ((s[k].toNat : Int) == 10) = false := by rw [beq_eq_false_iff_ne]; omega
                  have t47 : ((s[k].toNat : Int) == 47) = false := by rw [beq_eq_false_iff_ne]; omega
                  have u32 : ((s[k].toNat : Int) != 32) = false := by rw [bne_eq_false_iff_eq]; exact hc
                  have u10 : ((s[k].toNat : Int) != 10) = true := by rw [bne_iff_ne]; omega
                  have u9 : ((s[k].toNat : Int) != 9) = true := by rw [bne_iff_ne]; omega
                  have h1i : ¬ (k : Int) + 1 < s.size := by omega
                  clear hc HG HD h1
                  go_wp2_with fail
                  refine (r9may_any w s[k]).mono ?_
                  rintro e w1 ⟨rfl, rfl⟩
                  rw [HM.out]
                  go_wp2_with fail
                  go_roundw
                  case rel => exact ⟨k + 1, false, by omega, by omega, by go_num, rfl, Lib.hid (by trivial), HE⟩
                  case measure => simp [intOf]; omega
            · have n32 := hc
              clear hc
              by_cases hc : (s[k].toNat : Int) = 9
              · cases m with
                | true =>
                  by_cases h1 : k + 1 < s.size
                  · by_cases hn : (s[k + 1].toNat : Int) = 47
                    · have bh : ((s.data.toList.drop (k + 1)).head? == some 47) = true := by rw [head_at h1, show s[k + 1] = 47 from UInt8.toNat_inj.mp (by have : (47 : UInt8).toNat = 47 := rfl; omega)]; rfl
                      have d47 : decide ((s[k].toNat : Int) = 47) = false := decide_eq_false (by omega)
                      have d10 : decide ((s[k].toNat : Int) ≠ 10) = true := decide_eq_true (by omega)
                      have HE : Hid (G = (k + 1 - i + (gapF true (s.data.toList.drop (k + 1))).1, (gapF true (s.data.toList.drop (k + 1))).2)) := Lib.hid (by rw [HG.out, HD.out, gapF_on (m := true) (m2 := true) HM.out (by rw [bh, d47, d10]; rfl) (by rintro ⟨h, _⟩; cases h)]; show (k - i + ((gapF true (s.data.toList.drop (k + 1))).1 + 1), _) = _; congr 1; omega)
                      clear bh d47 d10
                      have t10 : ((s[k].toNat : Int) == 10) = false := by rw [beq_eq_false_iff_ne]; omega
                      have t47 : ((s[k].toNat : Int) == 47) = false := by rw [beq_eq_false_iff_ne]; omega
                      have u32 : ((s[k].toNat : Int) != 32) = true := by rw [bne_iff_ne]; omega
                      have u10 : ((s[k].toNat : Int) != 10) = true := by rw [bne_iff_ne]; omega
                      have u9 : ((s[k].toNat : Int) != 9) = false := by rw [bne_eq_false_iff_eq]; exact hc
                      have h1i : (k : Int) + 1 < s.size := by omega
                      have tn : ((s[k + 1].toNat : Int) == 47) = true := by simpa using hn
                      clear hc hn HG HD
                      go_wp2_with fail
                      refine (r9may_any w s[k]).mono ?_
                      rintro e w1 ⟨rfl, rfl⟩
                      rw [HM.out]
                      go_wp2_with fail
                      go_roundw
                      case rel => exact ⟨k + 1, true, by omega, by omega, by go_num, rfl, Lib.hid (by trivial), HE⟩
                      case measure => simp [intOf]; omega
                    · have bh : ((s.data.toList.drop (k + 1)).head? == some 47) = false := by rw [head_at h1, beq_eq_false_iff_ne]; intro h9; injection h9 with h9; exact hn (by rw [h9]; rfl)
                      have d47 : decide ((s[k].toNat : Int) = 47) = false := decide_eq_false (by omega)
                      have d10 : decide ((s[k].toNat : Int) ≠ 10) = true := decide_eq_true (by omega)
                      have HE : Hid (G = (k + 1 - i + (gapF true (s.data.toList.drop (k + 1))).1, (gapF true (s.data.toList.drop (k + 1))).2)) := Lib.hid (by rw [HG.out, HD.out, gapF_on (m := true) (m2 := true) HM.out (by rw [bh, d47, d10]; rfl) (by rintro ⟨h, _⟩; cases h)]; show (k - i + ((gapF true (s.data.toList.drop (k + 1))).1 + 1), _) = _; congr 1; omega)
                      clear bh d47 d10
                      have t10 : ((s[k].toNat : Int) == 10) = false := by rw [beq_eq_false_iff_ne]; omega
                      have t47 : ((s[k].toNat : Int) == 47) = false := by rw [beq_eq_false_iff_ne]; omega
                      have u32 : ((s[k].toNat : Int) != 32) = true := by rw [bne_iff_ne]; omega
                      have u10 : ((s[k].toNat : Int) != 10) = true := by rw [bne_iff_ne]; omega
                      have u9 : ((s[k].toNat : Int) != 9) = false := by rw [bne_eq_false_iff_eq]; exact hc
                      have h1i : (k : Int) + 1 < s.size := by omega
                      have tn : ((s[k + 1].toNat : Int) == 47) = false := by rw [beq_eq_false_iff_ne]; exact hn
                      clear hc hn HG HD
                      go_wp2_with fail
                      refine (r9may_any w s[k]).mono ?_
                      rintro e w1 ⟨rfl, rfl⟩
                      rw [HM.out]
                      go_wp2_with fail
                      go_roundw
                      case rel => exact ⟨k + 1, true, by omega, by omega, by go_num, rfl, Lib.hid (by trivial), HE⟩
                      case measure => simp [intOf]; omega
                  · have bh : ((s.data.toList.drop (k + 1)).head? == some 47) = false := by rw [head_no h1]; rfl
                    have d47 : decide ((s[k].toNat : Int) = 47) = false := decide_eq_false (by omega)
                    have d10 : decide ((s[k].toNat : Int) ≠ 10) = true := decide_eq_true (by omega)
                    have HE : Hid (G = (k + 1 - i + (gapF true (s.data.toList.drop (k + 1))).1, (gapF true (s.data.toList.drop (k + 1))).2)) := Lib.hid (by rw [HG.out, HD.out, gapF_on (m := true) (m2 := true) HM.out (by rw [bh, d47, d10]; rfl) (by rintro ⟨h, _⟩; cases h)]; show (k - i + ((gapF true (s.data.toList.drop (k + 1))).1 + 1), _) = _; congr 1; omega)
                    clear bh d47 d10
                    have t10 : ((s[k].toNat : Int) == 10) = false := by rw [beq_eq_false_iff_ne]; omega
                    have t47 : ((s[k].toNat : Int) == 47) = false := by rw [beq_eq_false_iff_ne]; omega
                    have u32 : ((s[k].toNat : Int) != 32) = true := by rw [bne_iff_ne]; omega
                    have u10 : ((s[k].toNat : Int) != 10) = true := by rw [bne_iff_ne]; omega
                    have u9 : ((s[k].toNat : Int) != 9) = false := by rw [bne_eq_false_iff_eq]; exact hc
                    have h1i : ¬ (k : Int) + 1 < s.size := by omega
                    clear hc HG HD h1
                    go_wp2_with fail
                    refine (r9may_any w s[k]).mono ?_
                    rintro e w1 ⟨rfl, rfl⟩
                    rw [HM.out]
                    go_wp2_with fail
                    go_roundw
                    case rel => exact ⟨k + 1, true, by omega, by omega, by go_num, rfl, Lib.hid (by trivial), HE⟩
                    case measure => simp [intOf]; omega
                | false =>
                  by_cases h1 : k + 1 < s.size
                  · by_cases hn : (s[k + 1].toNat : Int) = 47
                    · have bh : ((s.data.toList.drop (k + 1)).head? == some 47) = true := by rw [head_at h1, show s[k + 1] = 47 from UInt8.toNat_inj.mp (by have : (47 : UInt8).toNat = 47 := rfl; omega)]; rfl
                      have d47 : decide ((s[k].toNat : Int) = 47) = false := decide_eq_false (by omega)
                      have d10 : decide ((s[k].toNat : Int) ≠ 10) = true := decide_eq_true (by omega)
                      have HE : Hid (G = (k + 1 - i + (gapF false (s.data.toList.drop (k + 1))).1, (gapF false (s.data.toList.drop (k + 1))).2)) := Lib.hid (by rw [HG.out, HD.out, gapF_on (m := false) (m2 := false) HM.out (by rw [bh, d47, d10]; rfl) (by rintro ⟨_, a1, a2, a3⟩; omega)]; show (k - i + ((gapF false (s.data.toList.drop (k + 1))).1 + 1), _) = _; congr 1; omega)
                      clear bh d47 d10
                      have t10 : ((s[k].toNat : Int) == 10) = false := by rw [beq_eq_false_iff_ne]; omega
                      have t47 : ((s[k].toNat : Int) == 47) = false := by rw [beq_eq_false_iff_ne]; omega
                      have u32 : ((s[k].toNat : Int) != 32) = true := by rw [bne_iff_ne]; omega
                      have u10 : ((s[k].toNat : Int) != 10) = true := by rw [bne_iff_ne]; omega
                      have u9 : ((s[k].toNat : Int) != 9) = false := by rw [bne_eq_false_iff_eq]; exact hc
                      have h1i : (k : Int) + 1 < s.size := by omega
                      have tn : ((s[k + 1].toNat : Int) == 47) = true := by simpa using hn
                      clear hc hn HG HD
                      go_wp2_with fail
                      refine (r9may_any w s[k]).mono ?_
                      rintro e w1 ⟨rfl, rfl⟩
                      rw [HM.out]
                      go_wp2_with fail
                      go_roundw
                      case rel => exact ⟨k + 1, false, by omega, by omega, by go_num, rfl, Lib.hid (by trivial), HE⟩
                      case measure => simp [intOf]; omega
                    · have bh : ((s.data.toList.drop (k + 1)).head? == some 47) = false := by rw [head_at h1, beq_eq_false_iff_ne]; intro h9; injection h9 with h9; exact hn (by rw [h9]; rfl)
                      have d47 : decide ((s[k].toNat : Int) = 47) = false := decide_eq_false (by omega)
                      have d10 : decide ((s[k].toNat : Int) ≠ 10) = true := decide_eq_true (by omega)
                      have HE : Hid (G = (k + 1 - i + (gapF false (s.data.toList.drop (k + 1))).1, (gapF false (s.data.toList.drop (k + 1))).2)) := Lib.hid (by rw [HG.out, HD.out, gapF_on (m := false) (m2 := false) HM.out (by rw [bh, d47, d10]; rfl) (by rintro ⟨_, a1, a2, a3⟩; omega)]; show (k - i + ((gapF false (s.data.toList.drop (k + 1))).1 + 1), _) = _; congr 1; omega)
                      clear bh d47 d10
                      have t10 : ((s[k].toNat : Int) == 10) = false := by rw [beq_eq_false_iff_ne]; omega
                      have t47 : ((s[k].toNat : Int) == 47) = false := by rw [beq_eq_false_iff_ne]; omega
                      have u32 : ((s[k].toNat : Int) != 32) = true := by rw [bne_iff_ne]; omega
                      have u10 : ((s[k].toNat : Int) != 10) = true := by rw [bne_iff_ne]; omega
                      have u9 : ((s[k].toNat : Int) != 9) = false := by rw [bne_eq_false_iff_eq]; exact hc
                      have h1i : (k : Int) + 1 < s.size := by omega
                      have tn : ((s[k + 1].toNat : Int) == 47) = false := by rw [beq_eq_false_iff_ne]; exact hn
                      clear hc hn HG HD
                      go_wp2_with fail
                      refine (r9may_any w s[k]).mono ?_
                      rintro e w1 ⟨rfl, rfl⟩
                      rw [HM.out]
                      go_wp2_with fail
                      go_roundw
                      case rel => exact ⟨k + 1, false, by omega, by omega, by go_num, rfl, Lib.hid (by trivial), HE⟩
                      case measure => simp [intOf]; omega
                  · have bh : ((s.data.toList.drop (k + 1)).head? == some 47) = false := by rw [head_no h1]; rfl
                    have d47 : decide ((s[k].toNat : Int) = 47) = false := decide_eq_false (by omega)
                    have d10 : decide ((s[k].toNat : Int) ≠ 10) = true := decide_eq_true (by omega)
                    have HE : Hid (G = (k + 1 - i + (gapF false (s.data.toList.drop (k + 1))).1, (gapF false (s.data.toList.drop (k + 1))).2)) := Lib.hid (by rw [HG.out, HD.out, gapF_on (m := false) (m2 := false) HM.out (by rw [bh, d47, d10]; rfl) (by rintro ⟨_, a1, a2, a3⟩; omega)]; show (k - i + ((gapF false (s.data.toList.drop (k + 1))).1 + 1), _) = _; congr 1; omega)
                    clear bh d47 d10
                    have t10 : ((s[k].toNat : Int) == 10) = false := by rw [beq_eq_false_iff_ne]; omega
                    have t47 : ((s[k].toNat : Int) == 47) = false := by rw [beq_eq_false_iff_ne]; omega
                    have u32 : ((s[k].toNat : Int) != 32) = true := by rw [bne_iff_ne]; omega
                    have u10 : ((s[k].toNat : Int) != 10) = true := by rw [bne_iff_ne]; omega
                    have u9 : ((s[k].toNat : Int) != 9) = false := by rw [bne_eq_false_iff_eq]; exact hc
                    have h1i : ¬ (k : Int) + 1 < s.size := by omega
                    clear hc HG HD h1
                    go_wp2_with fail
                    refine (r9may_any w s[k]).mono ?_
                    rintro e w1 ⟨rfl, rfl⟩
                    rw [HM.out]
                    go_wp2_with fail
                    go_roundw
                    case rel => exact ⟨k + 1, false, by omega, by omega, by go_num, rfl, Lib.hid (by trivial), HE⟩
                    case measure => simp [intOf]; omega
              · cases m with
                | true =>
                  by_cases h1 : k + 1 < s.size
                  · by_cases hn : (s[k + 1].toNat : Int) = 47
                    · have bh : ((s.data.toList.drop (k + 1)).head? == some 47) = true := by rw [head_at h1, show s[k + 1] = 47 from UInt8.toNat_inj.mp (by have : (47 : UInt8).toNat = 47 := rfl; omega)]; rfl
                      have d47 : decide ((s[k].toNat : Int) = 47) = false := decide_eq_false (by omega)
                      have d10 : decide ((s[k].toNat : Int) ≠ 10) = true := decide_eq_true (by omega)
                      have HE : Hid (G = (k + 1 - i + (gapF true (s.data.toList.drop (k + 1))).1, (gapF true (s.data.toList.drop (k + 1))).2)) := Lib.hid (by rw [HG.out, HD.out, gapF_on (m := true) (m2 := true) HM.out (by rw [bh, d47, d10]; rfl) (by rintro ⟨h, _⟩; cases h)]; show (k - i + ((gapF true (s.data.toList.drop (k + 1))).1 + 1), _) = _; congr 1; omega)
                      clear bh d47 d10
                      have t10 : ((s[k].toNat : Int) == 10) = false := by rw [beq_eq_false_iff_ne]; omega
                      have t47 : ((s[k].toNat : Int) == 47) = false := by rw [beq_eq_false_iff_ne]; omega
                      have u32 : ((s[k].toNat : Int) != 32) = true := by rw [bne_iff_ne]; omega
                      have u10 : ((s[k].toNat : Int) != 10) = true := by rw [bne_iff_ne]; omega
                      have u9 : ((s[k].toNat : Int) != 9) = true := by rw [bne_iff_ne]; omega
                      have h1i : (k : Int) + 1 < s.size := by omega
                      have tn : ((s[k + 1].toNat : Int) == 47) = true := by simpa using hn
                      clear hc hn HG HD
                      go_wp2_with fail
                      refine (r9may_any w s[k]).mono ?_
                      rintro e w1 ⟨rfl, rfl⟩
                      rw [HM.out]
                      go_wp2_with fail
                      go_roundw
                      case rel => exact ⟨k + 1, true, by omega, by omega, by go_num, rfl, Lib.hid (by trivial), HE⟩
                      case measure => simp [intOf]; omega
                    · have bh : ((s.data.toList.drop (k + 1)).head? == some 47) = false := by rw [head_at h1, beq_eq_false_iff_ne]; intro h9; injection h9 with h9; exact hn (by rw [h9]; rfl)
                      have d47 : decide ((s[k].toNat : Int) = 47) = false := decide_eq_false (by omega)
                      have d10 : decide ((s[k].toNat : Int) ≠ 10) = true := decide_eq_true (by omega)
                      have HE : Hid (G = (k + 1 - i + (gapF true (s.data.toList.drop (k + 1))).1, (gapF true (s.data.toList.drop (k + 1))).2)) := Lib.hid (by rw [HG.out, HD.out, gapF_on (m := true) (m2 := true) HM.out (by rw [bh, d47, d10]; rfl) (by rintro ⟨h, _⟩; cases h)]; show (k - i + ((gapF true (s.data.toList.drop (k + 1))).1 + 1), _) = _; congr 1; omega)
                      clear bh d47 d10
                      have t10 : ((s[k].toNat : Int) == 10) = false := by rw [beq_eq_false_iff_ne]; omega
                      have t47 : ((s[k].toNat : Int) == 47) = false := by rw [beq_eq_false_iff_ne]; omega
                      have u32 : ((s[k].toNat : Int) != 32) = true := by rw [bne_iff_ne]; omega
                      have u10 : ((s[k].toNat : Int) != 10) = true := by rw [bne_iff_ne]; omega
                      have u9 : ((s[k].toNat : Int) != 9) = true := by rw [bne_iff_ne]; omega
                      have h1i : (k : Int) + 1 < s.size := by omega
                      have tn : ((s[k + 1].toNat : Int) == 47) = false := by rw [beq_eq_false_iff_ne]; exact hn
                      clear hc hn HG HD
                      go_wp2_with fail
                      refine (r9may_any w s[k]).mono ?_
                      rintro e w1 ⟨rfl, rfl⟩
                      rw [HM.out]
                      go_wp2_with fail
                      go_roundw
                      case rel => exact ⟨k + 1, true, by omega, by omega, by go_num, rfl, Lib.hid (by trivial), HE⟩
                      case measure => simp [intOf]; omega
                  · have bh : ((s.data.toList.drop (k + 1)).head? == some 47) = false := by rw [head_no h1]; rfl
                    have d47 : decide ((s[k].toNat : Int) = 47) = false := decide_eq_false (by omega)
                    have d10 : decide ((s[k].toNat : Int) ≠ 10) = true := decide_eq_true (by omega)
                    have HE : Hid (G = (k + 1 - i + (gapF true (s.data.toList.drop (k + 1))).1, (gapF true (s.data.toList.drop (k + 1))).2)) := Lib.hid (by rw [HG.out, HD.out, gapF_on (m := true) (m2 := true) HM.out (by rw [bh, d47, d10]; rfl) (by rintro ⟨h, _⟩; cases h)]; show (k - i + ((gapF true (s.data.toList.drop (k + 1))).1 + 1), _) = _; congr 1; omega)
                    clear bh d47 d10
                    have t10 : ((s[k].toNat : Int) == 10) = false := by rw [beq_eq_false_iff_ne]; omega
                    have t47 : ((s[k].toNat : Int) == 47) = false := by rw [beq_eq_false_iff_ne]; omega
                    have u32 : ((s[k].toNat : Int) != 32) = true := by rw [bne_iff_ne]; omega
                    have u10 : ((s[k].toNat : Int) != 10) = true := by rw [bne_iff_ne]; omega
                    have u9 : ((s[k].toNat : Int) != 9) = true := by rw [bne_iff_ne]; omega
                    have h1i : ¬ (k : Int) + 1 < s.size := by omega
                    clear hc HG HD h1
                    go_wp2_with fail
                    refine (r9may_any w s[k]).mono ?_
                    rintro e w1 ⟨rfl, rfl⟩
                    rw [HM.out]
                    go_wp2_with fail
                    go_roundw
                    case rel => exact ⟨k + 1, true, by omega, by omega, by go_num, rfl, Lib.hid (by trivial), HE⟩
                    case measure => simp [intOf]; omega
                | false =>
                  by_cases h1 : k + 1 < s.size
                  · by_cases hn : (s[k + 1].toNat : Int) = 47
                    · have bh : ((s.data.toList.drop (k + 1)).head? == some 47) = true := by rw [head_at h1, show s[k + 1] = 47 from UInt8.toNat_inj.mp (by have : (47 : UInt8).toNat = 47 := rfl; omega)]; rfl
                      have d47 : decide ((s[k].toNat : Int) = 47) = false := decide_eq_false (by omega)
                      have d10 : decide ((s[k].toNat : Int) ≠ 10) = true := decide_eq_true (by omega)
                      have HE : Hid (G = (k - i, true)) := Lib.hid (by rw [HG.out, HD.out, gapF_end (m := false) (m2 := false) HM.out (by rw [bh, d47, d10]; rfl) ⟨rfl, by omega, by omega, by omega⟩, Nat.add_zero])
                      clear bh d47 d10
                      have t10 : ((s[k].toNat : Int) == 10) = false := by rw [beq_eq_false_iff_ne]; omega
                      have t47 : ((s[k].toNat : Int) == 47) = false := by rw [beq_eq_false_iff_ne]; omega
                      have u32 : ((s[k].toNat : Int) != 32) = true := by rw [bne_iff_ne]; omega
                      have u10 : ((s[k].toNat : Int) != 10) = true := by rw [bne_iff_ne]; omega
                      have u9 : ((s[k].toNat : Int) != 9) = true := by rw [bne_iff_ne]; omega
                      have h1i : (k : Int) + 1 < s.size := by omega
                      have tn : ((s[k + 1].toNat : Int) == 47) = true := by simpa using hn
                      clear hc hn HG HD
                      go_wp2_with fail
                      refine (r9may_any w s[k]).mono ?_
                      rintro e w1 ⟨rfl, rfl⟩
                      rw [HM.out]
                      go_wp2_with fail
                      go_ret2
                      rw [HE.out]
                      exact ⟨gap_ret rfl (by show k = i + (k - i); omega), rfl⟩
                    · have bh : ((s.data.toList.drop (k + 1)).head? == some 47) = false := by rw [head_at h1, beq_eq_false_iff_ne]; intro h9; injection h9 with h9; exact hn (by rw [h9]; rfl)
                      have d47 : decide ((s[k].toNat : Int) = 47) = false := decide_eq_false (by omega)
                      have d10 : decide ((s[k].toNat : Int) ≠ 10) = true := decide_eq_true (by omega)
                      have HE : Hid (G = (k - i, true)) := Lib.hid (by rw [HG.out, HD.out, gapF_end (m := false) (m2 := false) HM.out (by rw [bh, d47, d10]; rfl) ⟨rfl, by omega, by omega, by omega⟩, Nat.add_zero])
                      clear bh d47 d10
                      have t10 : ((s[k].toNat : Int) == 10) = false := by rw [beq_eq_false_iff_ne]; omega
                      have t47 : ((s[k].toNat : Int) == 47) = false := by rw [beq_eq_false_iff_ne]; omega
                      have u32 : ((s[k].toNat : Int) != 32) = true := by rw [bne_iff_ne]; omega
                      have u10 : ((s[k].toNat : Int) != 10) = true := by rw [bne_iff_ne]; omega
                      have u9 : ((s[k].toNat : Int) != 9) = true := by rw [bne_iff_ne]; omega
                      have h1i : (k : Int) + 1 < s.size := by omega
                      have tn : ((s[k + 1].toNat : Int) == 47) = false := by rw [beq_eq_false_iff_ne]; exact hn
                      clear hc hn HG HD
                      go_wp2_with fail
                      refine (r9may_any w s[k]).mono ?_
                      rintro e w1 ⟨rfl, rfl⟩
                      rw [HM.out]
                      go_wp2_with fail
                      go_ret2
                      rw [HE.out]
                      exact ⟨gap_ret rfl (by show k = i + (k - i); omega), rfl⟩
                  · have bh : ((s.data.toList.drop (k + 1)).head? == some 47) = false := by rw [head_no h1]; rfl
                    have d47 : decide ((s[k].toNat : Int) = 47) = false := decide_eq_false (by omega)
                    have d10 : decide ((s[k].toNat : Int) ≠ 10) = true := decide_eq_true (by omega)
                    have HE : Hid (G = (k - i, true)) := Lib.hid (by rw [HG.out, HD.out, gapF_end (m := false) (m2 := false) HM.out (by rw [bh, d47, d10]; rfl) ⟨rfl, by omega, by omega, by omega⟩, Nat.add_zero])
                    clear bh d47 d10
                    have t10 : ((s[k].toNat : Int) == 10) = false := by rw [beq_eq_false_iff_ne]; omega
                    have t47 : ((s[k].toNat : Int) == 47) = false := by rw [beq_eq_false_iff_ne]; omega
                    have u32 : ((s[k].toNat : Int) != 32) = true := by rw [bne_iff_ne]; omega
                    have u10 : ((s[k].toNat : Int) != 10) = true := by rw [bne_iff_ne]; omega
                    have u9 : ((s[k].toNat : Int) != 9) = true := by rw [bne_iff_ne]; omega
                    have h1i : ¬ (k : Int) + 1 < s.size := by omega
                    clear hc HG HD h1
                    go_wp2_with fail
                    refine (r9may_any w s[k]).mono ?_
                    rintro e w1 ⟨rfl, rfl⟩
                    rw [HM.out]
                    go_wp2_with fail
                    go_ret2
                    rw [HE.out]
                    exact ⟨gap_ret rfl (by show k = i + (k - i); omega), rfl⟩
      · rw [Bool.not_eq_true] at hm
        have HM := Lib.hid hm
        have HE : Hid (G = (k - i, false)) := Lib.hid (by rw [HG.out, HD.out, gapF_no hm, Nat.add_zero])
        clear hm
        go_wp2_with fail
        refine (r9may_any w s[k]).mono ?_
        rintro e w1 ⟨rfl, rfl⟩
        rw [HM.out]
        go_wp2_with fail
        go_ret2
        rw [HE.out]
        exact ⟨gap_ret rfl (by show k = i + (k - i); omega), rfl⟩
    · have HE : Hid (G = (k - i, true)) := Lib.hid (by rw [HG.out, List.drop_of_length_le (by rw [HL.out]; omega), gapF_nil, Nat.add_zero])
      go_wp2_with fail
      go_ret2
      rw [HE.out]
      exact ⟨gap_ret rfl (by show k = i + (k - i); omega), rfl⟩

end Go.Proofs.YtahpfbmaaccejaaDoor
