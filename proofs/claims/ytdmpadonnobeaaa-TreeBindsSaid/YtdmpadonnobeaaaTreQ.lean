/- Contracts of the reference's there, Bound. -/
import Derived.Test.YtdmpadonnobeaaaTreN
import Derived.Test.YtdmpadonnobeaaaTreK
namespace Go.Proofs.Ytdmpadonnobeaaa
open Go.RowKit
set_option linter.unusedVariables false

set_option maxRecDepth 100000 in
set_option maxHeartbeats 1600000 in
theorem there_2 (t1 t2 t3 t4 : Int) (S1 : Option Addr) (m1 k1 : Nat) (fl : Int) (S2 : Option Addr) (m2 k2 : Nat) (S3 : Option Addr) (m3 k3 : Nat) (S4 : Option Addr) (m4 k4 : Nat) (S5 : Option Addr) (m5 k5 : Nat) (S6 : Option Addr) (m6 k6 : Nat) (S7 : Option Addr) (m7 k7 : Nat) (S8 : Option Addr) (m8 k8 : Nat) (S9 : Option Addr) (m9 k9 : Nat) (S10 : Option Addr) (m10 k10 : Nat) (loc : Int) (m : Int) (s : List UInt8) (A : Option Addr) (n c : Nat) (A1 : Option Addr) (n1 c1 : Nat) (A2 : Option Addr) (n2 c2 : Nat) (hm2 : (m2 : Int) ≤ 9223372036854775807) (hm3 : (m3 : Int) ≤ 9223372036854775807) (hm8 : (m8 : Int) ≤ 9223372036854775807) (hs : (bs s).toList.isEmpty = true) (w : World) : Calls Try.prog 67 #[.agg #[.int .i64 t1, .int .i64 t2, .int .i64 t3, .int .i64 t4, .slice S1 m1 k1, .int .i64 fl, .slice S2 m2 k2, .slice S3 m3 k3, .slice S4 m4 k4, .slice S5 m5 k5, .slice S6 m6 k6, .slice S7 m7 k7, .slice S8 m8 k8, .slice S9 m9 k9, .slice S10 m10 k10], .agg #[.int .i64 2, .int .i64 m, .string (bs s), .slice A n c, .slice A1 n1 c1, .slice A2 n2 c2], .int .i64 loc] w fun f w' => f = .returned (.bool (decide (0 ≤ m) && decide (m < loc))) ∧ Below w.heap.size w w' := by
  by_cases a : 0 ≤ m
  · by_cases b : m < loc
    · rw [decide_eq_true a, decide_eq_true b]
      go_enter Try.func67, Try.ntmps67
      go_wp2_with fail
      go_ret
      exact ⟨rfl, ((Below.refl _ _).alloc (Nat.le_refl _) _).alloc (by simp) _⟩
    · have b1 : decide (m < loc) = false := by rw [decide_eq_false_iff_not]; exact b
      rw [decide_eq_true a, b1]
      clear b
      go_enter Try.func67, Try.ntmps67
      go_wp2_with fail
      go_ret
      exact ⟨rfl, ((Below.refl _ _).alloc (Nat.le_refl _) _).alloc (by simp) _⟩
  · have a1 : decide (0 ≤ m) = false := by rw [decide_eq_false_iff_not]; exact a
    rw [a1, Bool.false_and]
    clear a
    go_enter Try.func67, Try.ntmps67
    go_wp2_with fail
    go_ret
    exact ⟨rfl, ((Below.refl _ _).alloc (Nat.le_refl _) _).alloc (by simp) _⟩

set_option maxRecDepth 100000 in
set_option maxHeartbeats 1600000 in
theorem there_3 (t1 t2 t3 t4 : Int) (S1 : Option Addr) (m1 k1 : Nat) (fl : Int) (S2 : Option Addr) (m2 k2 : Nat) (S3 : Option Addr) (m3 k3 : Nat) (S4 : Option Addr) (m4 k4 : Nat) (S5 : Option Addr) (m5 k5 : Nat) (S6 : Option Addr) (m6 k6 : Nat) (S7 : Option Addr) (m7 k7 : Nat) (S8 : Option Addr) (m8 k8 : Nat) (S9 : Option Addr) (m9 k9 : Nat) (S10 : Option Addr) (m10 k10 : Nat) (loc : Int) (m : Int) (s : List UInt8) (A : Option Addr) (n c : Nat) (A1 : Option Addr) (n1 c1 : Nat) (A2 : Option Addr) (n2 c2 : Nat) (hm2 : (m2 : Int) ≤ 9223372036854775807) (hm3 : (m3 : Int) ≤ 9223372036854775807) (hm8 : (m8 : Int) ≤ 9223372036854775807) (hs : (bs s).toList.isEmpty = true) (w : World) : Calls Try.prog 67 #[.agg #[.int .i64 t1, .int .i64 t2, .int .i64 t3, .int .i64 t4, .slice S1 m1 k1, .int .i64 fl, .slice S2 m2 k2, .slice S3 m3 k3, .slice S4 m4 k4, .slice S5 m5 k5, .slice S6 m6 k6, .slice S7 m7 k7, .slice S8 m8 k8, .slice S9 m9 k9, .slice S10 m10 k10], .agg #[.int .i64 3, .int .i64 m, .string (bs s), .slice A n c, .slice A1 n1 c1, .slice A2 n2 c2], .int .i64 loc] w fun f w' => f = .returned (.bool (decide (0 ≤ m) && decide (m < loc))) ∧ Below w.heap.size w w' := by
  by_cases a : 0 ≤ m
  · by_cases b : m < loc
    · rw [decide_eq_true a, decide_eq_true b]
      go_enter Try.func67, Try.ntmps67
      go_wp2_with fail
      go_ret
      exact ⟨rfl, ((Below.refl _ _).alloc (Nat.le_refl _) _).alloc (by simp) _⟩
    · have b1 : decide (m < loc) = false := by rw [decide_eq_false_iff_not]; exact b
      rw [decide_eq_true a, b1]
      clear b
      go_enter Try.func67, Try.ntmps67
      go_wp2_with fail
      go_ret
      exact ⟨rfl, ((Below.refl _ _).alloc (Nat.le_refl _) _).alloc (by simp) _⟩
  · have a1 : decide (0 ≤ m) = false := by rw [decide_eq_false_iff_not]; exact a
    rw [a1, Bool.false_and]
    clear a
    go_enter Try.func67, Try.ntmps67
    go_wp2_with fail
    go_ret
    exact ⟨rfl, ((Below.refl _ _).alloc (Nat.le_refl _) _).alloc (by simp) _⟩

set_option maxRecDepth 100000 in
set_option maxHeartbeats 1600000 in
theorem there_11 (t1 t2 t3 t4 : Int) (S1 : Option Addr) (m1 k1 : Nat) (fl : Int) (S2 : Option Addr) (m2 k2 : Nat) (S3 : Option Addr) (m3 k3 : Nat) (S4 : Option Addr) (m4 k4 : Nat) (S5 : Option Addr) (m5 k5 : Nat) (S6 : Option Addr) (m6 k6 : Nat) (S7 : Option Addr) (m7 k7 : Nat) (S8 : Option Addr) (m8 k8 : Nat) (S9 : Option Addr) (m9 k9 : Nat) (S10 : Option Addr) (m10 k10 : Nat) (loc : Int) (m : Int) (s : List UInt8) (A : Option Addr) (n c : Nat) (A1 : Option Addr) (n1 c1 : Nat) (A2 : Option Addr) (n2 c2 : Nat) (hm2 : (m2 : Int) ≤ 9223372036854775807) (hm3 : (m3 : Int) ≤ 9223372036854775807) (hm8 : (m8 : Int) ≤ 9223372036854775807) (hl : -9223372036854775808 ≤ loc ∧ loc ≤ 9223372036854775807) (hs : (bs s).toList.isEmpty = true) (w : World) : Calls Try.prog 67 #[.agg #[.int .i64 t1, .int .i64 t2, .int .i64 t3, .int .i64 t4, .slice S1 m1 k1, .int .i64 fl, .slice S2 m2 k2, .slice S3 m3 k3, .slice S4 m4 k4, .slice S5 m5 k5, .slice S6 m6 k6, .slice S7 m7 k7, .slice S8 m8 k8, .slice S9 m9 k9, .slice S10 m10 k10], .agg #[.int .i64 11, .int .i64 m, .string (bs s), .slice A n c, .slice A1 n1 c1, .slice A2 n2 c2], .int .i64 loc] w fun f w' => f = .returned (.bool (decide (0 ≤ m) && decide (m < loc - 1) && decide (1 < loc))) ∧ Below w.heap.size w w' := by
  by_cases a : 0 ≤ m
  · have a2 : decide (0 ≤ m) = true := decide_eq_true a
    by_cases g : 1 < loc
    · by_cases b : m < loc - 1
      · rw [a2, decide_eq_true b, decide_eq_true g]
        go_enter Try.func67, Try.ntmps67
        go_wp2_with fail
        go_ret
        exact ⟨rfl, ((Below.refl _ _).alloc (Nat.le_refl _) _).alloc (by simp) _⟩
      · have b1 : decide (m < loc - 1) = false := by rw [decide_eq_false_iff_not]; exact b
        rw [a2, b1]
        clear b
        go_enter Try.func67, Try.ntmps67
        go_wp2_with fail
        go_ret
        exact ⟨rfl, ((Below.refl _ _).alloc (Nat.le_refl _) _).alloc (by simp) _⟩
    · have g1 : decide (1 < loc) = false := by rw [decide_eq_false_iff_not]; exact g
      rw [g1, Bool.and_false]
      obtain ⟨z, hz⟩ : ∃ z, z = wrap64 (loc - 1) := ⟨_, rfl⟩
      have wq : wrap64 (loc - 1) = z := hz.symm
      clear g hz
      by_cases b : m < z
      · go_enter Try.func67, Try.ntmps67
        go_wp2_with fail
        go_ret
        exact ⟨rfl, ((Below.refl _ _).alloc (Nat.le_refl _) _).alloc (by simp) _⟩
      · have b1 : decide (m < z) = false := by rw [decide_eq_false_iff_not]; exact b
        clear b
        go_enter Try.func67, Try.ntmps67
        go_wp2_with fail
        go_ret
        exact ⟨rfl, ((Below.refl _ _).alloc (Nat.le_refl _) _).alloc (by simp) _⟩
  · have a1 : decide (0 ≤ m) = false := by rw [decide_eq_false_iff_not]; exact a
    rw [a1, Bool.false_and, Bool.false_and]
    clear a
    go_enter Try.func67, Try.ntmps67
    go_wp2_with fail
    go_ret
    exact ⟨rfl, ((Below.refl _ _).alloc (Nat.le_refl _) _).alloc (by simp) _⟩

set_option maxRecDepth 100000 in
set_option maxHeartbeats 1600000 in
theorem there_23 (t1 t2 t3 t4 : Int) (S1 : Option Addr) (m1 k1 : Nat) (fl : Int) (S2 : Option Addr) (m2 k2 : Nat) (S3 : Option Addr) (m3 k3 : Nat) (S4 : Option Addr) (m4 k4 : Nat) (S5 : Option Addr) (m5 k5 : Nat) (S6 : Option Addr) (m6 k6 : Nat) (S7 : Option Addr) (m7 k7 : Nat) (S8 : Option Addr) (m8 k8 : Nat) (S9 : Option Addr) (m9 k9 : Nat) (S10 : Option Addr) (m10 k10 : Nat) (loc : Int) (m : Int) (s : List UInt8) (A : Option Addr) (n c : Nat) (A1 : Option Addr) (n1 c1 : Nat) (A2 : Option Addr) (n2 c2 : Nat) (hm2 : (m2 : Int) ≤ 9223372036854775807) (hm3 : (m3 : Int) ≤ 9223372036854775807) (hm8 : (m8 : Int) ≤ 9223372036854775807) (hs : (bs s).toList.isEmpty = true) (w : World) : Calls Try.prog 67 #[.agg #[.int .i64 t1, .int .i64 t2, .int .i64 t3, .int .i64 t4, .slice S1 m1 k1, .int .i64 fl, .slice S2 m2 k2, .slice S3 m3 k3, .slice S4 m4 k4, .slice S5 m5 k5, .slice S6 m6 k6, .slice S7 m7 k7, .slice S8 m8 k8, .slice S9 m9 k9, .slice S10 m10 k10], .agg #[.int .i64 23, .int .i64 m, .string (bs s), .slice A n c, .slice A1 n1 c1, .slice A2 n2 c2], .int .i64 loc] w fun f w' => f = .returned (.bool (amongB m 0 ((m3 : Int) - 1))) ∧ Below w.heap.size w w' := by
  go_enter Try.func67, Try.ntmps67
  go_wp2_with fail
  refine (r10among_any _ _ _ _).mono ?_
  rintro f w2 ⟨rfl, rfl⟩
  go_wp2_with fail
  go_ret
  exact ⟨rfl, ((Below.refl _ _).alloc (Nat.le_refl _) _).alloc (by simp) _⟩

set_option maxRecDepth 100000 in
set_option maxHeartbeats 1600000 in
theorem there_4 (t1 t2 t3 t4 : Int) (S1 : Option Addr) (m1 k1 : Nat) (fl : Int) (S2 : Option Addr) (m2 k2 : Nat) (S3 : Option Addr) (m3 k3 : Nat) (S4 : Option Addr) (m4 k4 : Nat) (S5 : Option Addr) (m5 k5 : Nat) (S6 : Option Addr) (m6 k6 : Nat) (S7 : Option Addr) (m7 k7 : Nat) (S8 : Option Addr) (m8 k8 : Nat) (S9 : Option Addr) (m9 k9 : Nat) (S10 : Option Addr) (m10 k10 : Nat) (loc : Int) (m : Int) (s : List UInt8) (A : Option Addr) (n c : Nat) (A1 : Option Addr) (n1 c1 : Nat) (A2 : Option Addr) (n2 c2 : Nat) (hm2 : (m2 : Int) ≤ 9223372036854775807) (hm3 : (m3 : Int) ≤ 9223372036854775807) (hm8 : (m8 : Int) ≤ 9223372036854775807) (hs : (bs s).toList.isEmpty = true) (w : World) : Calls Try.prog 67 #[.agg #[.int .i64 t1, .int .i64 t2, .int .i64 t3, .int .i64 t4, .slice S1 m1 k1, .int .i64 fl, .slice S2 m2 k2, .slice S3 m3 k3, .slice S4 m4 k4, .slice S5 m5 k5, .slice S6 m6 k6, .slice S7 m7 k7, .slice S8 m8 k8, .slice S9 m9 k9, .slice S10 m10 k10], .agg #[.int .i64 4, .int .i64 m, .string (bs s), .slice A n c, .slice A1 n1 c1, .slice A2 n2 c2], .int .i64 loc] w fun f w' => f = .returned (.bool (amongB m 0 ((m2 : Int) - 1))) ∧ Below w.heap.size w w' := by
  go_enter Try.func67, Try.ntmps67
  go_wp2_with fail
  refine (r10among_any _ _ _ _).mono ?_
  rintro f w2 ⟨rfl, rfl⟩
  go_wp2_with fail
  go_ret
  exact ⟨rfl, ((Below.refl _ _).alloc (Nat.le_refl _) _).alloc (by simp) _⟩

set_option maxRecDepth 100000 in
set_option maxHeartbeats 1600000 in
theorem there_5 (t1 t2 t3 t4 : Int) (S1 : Option Addr) (m1 k1 : Nat) (fl : Int) (S2 : Option Addr) (m2 k2 : Nat) (S3 : Option Addr) (m3 k3 : Nat) (S4 : Option Addr) (m4 k4 : Nat) (S5 : Option Addr) (m5 k5 : Nat) (S6 : Option Addr) (m6 k6 : Nat) (S7 : Option Addr) (m7 k7 : Nat) (S8 : Option Addr) (m8 k8 : Nat) (S9 : Option Addr) (m9 k9 : Nat) (S10 : Option Addr) (m10 k10 : Nat) (loc : Int) (m : Int) (s : List UInt8) (A : Option Addr) (n c : Nat) (A1 : Option Addr) (n1 c1 : Nat) (A2 : Option Addr) (n2 c2 : Nat) (hm2 : (m2 : Int) ≤ 9223372036854775807) (hm3 : (m3 : Int) ≤ 9223372036854775807) (hm8 : (m8 : Int) ≤ 9223372036854775807) (hs : (bs s).toList.isEmpty = true) (w : World) : Calls Try.prog 67 #[.agg #[.int .i64 t1, .int .i64 t2, .int .i64 t3, .int .i64 t4, .slice S1 m1 k1, .int .i64 fl, .slice S2 m2 k2, .slice S3 m3 k3, .slice S4 m4 k4, .slice S5 m5 k5, .slice S6 m6 k6, .slice S7 m7 k7, .slice S8 m8 k8, .slice S9 m9 k9, .slice S10 m10 k10], .agg #[.int .i64 5, .int .i64 m, .string (bs s), .slice A n c, .slice A1 n1 c1, .slice A2 n2 c2], .int .i64 loc] w fun f w' => f = .returned (.bool (decide (0 ≤ m) && decide (m < fl))) ∧ Below w.heap.size w w' := by
  by_cases a : 0 ≤ m
  · by_cases b : m < fl
    · rw [decide_eq_true a, decide_eq_true b]
      go_enter Try.func67, Try.ntmps67
      go_wp2_with fail
      go_ret
      exact ⟨rfl, ((Below.refl _ _).alloc (Nat.le_refl _) _).alloc (by simp) _⟩
    · have b1 : decide (m < fl) = false := by rw [decide_eq_false_iff_not]; exact b
      rw [decide_eq_true a, b1]
      clear b
      go_enter Try.func67, Try.ntmps67
      go_wp2_with fail
      go_ret
      exact ⟨rfl, ((Below.refl _ _).alloc (Nat.le_refl _) _).alloc (by simp) _⟩
  · have a1 : decide (0 ≤ m) = false := by rw [decide_eq_false_iff_not]; exact a
    rw [a1, Bool.false_and]
    clear a
    go_enter Try.func67, Try.ntmps67
    go_wp2_with fail
    go_ret
    exact ⟨rfl, ((Below.refl _ _).alloc (Nat.le_refl _) _).alloc (by simp) _⟩

set_option maxRecDepth 100000 in
set_option maxHeartbeats 1600000 in
theorem there_6 (t1 t2 t3 t4 : Int) (S1 : Option Addr) (m1 k1 : Nat) (fl : Int) (S2 : Option Addr) (m2 k2 : Nat) (S3 : Option Addr) (m3 k3 : Nat) (S4 : Option Addr) (m4 k4 : Nat) (S5 : Option Addr) (m5 k5 : Nat) (S6 : Option Addr) (m6 k6 : Nat) (S7 : Option Addr) (m7 k7 : Nat) (S8 : Option Addr) (m8 k8 : Nat) (S9 : Option Addr) (m9 k9 : Nat) (S10 : Option Addr) (m10 k10 : Nat) (loc : Int) (m : Int) (s : List UInt8) (A : Option Addr) (n c : Nat) (A1 : Option Addr) (n1 c1 : Nat) (A2 : Option Addr) (n2 c2 : Nat) (hm2 : (m2 : Int) ≤ 9223372036854775807) (hm3 : (m3 : Int) ≤ 9223372036854775807) (hm8 : (m8 : Int) ≤ 9223372036854775807) (hs : (bs s).toList.isEmpty = true) (w : World) : Calls Try.prog 67 #[.agg #[.int .i64 t1, .int .i64 t2, .int .i64 t3, .int .i64 t4, .slice S1 m1 k1, .int .i64 fl, .slice S2 m2 k2, .slice S3 m3 k3, .slice S4 m4 k4, .slice S5 m5 k5, .slice S6 m6 k6, .slice S7 m7 k7, .slice S8 m8 k8, .slice S9 m9 k9, .slice S10 m10 k10], .agg #[.int .i64 6, .int .i64 m, .string (bs s), .slice A n c, .slice A1 n1 c1, .slice A2 n2 c2], .int .i64 loc] w fun f w' => f = .returned (.bool (decide (0 ≤ m) && decide (m < fl))) ∧ Below w.heap.size w w' := by
  by_cases a : 0 ≤ m
  · by_cases b : m < fl
    · rw [decide_eq_true a, decide_eq_true b]
      go_enter Try.func67, Try.ntmps67
      go_wp2_with fail
      go_ret
      exact ⟨rfl, ((Below.refl _ _).alloc (Nat.le_refl _) _).alloc (by simp) _⟩
    · have b1 : decide (m < fl) = false := by rw [decide_eq_false_iff_not]; exact b
      rw [decide_eq_true a, b1]
      clear b
      go_enter Try.func67, Try.ntmps67
      go_wp2_with fail
      go_ret
      exact ⟨rfl, ((Below.refl _ _).alloc (Nat.le_refl _) _).alloc (by simp) _⟩
  · have a1 : decide (0 ≤ m) = false := by rw [decide_eq_false_iff_not]; exact a
    rw [a1, Bool.false_and]
    clear a
    go_enter Try.func67, Try.ntmps67
    go_wp2_with fail
    go_ret
    exact ⟨rfl, ((Below.refl _ _).alloc (Nat.le_refl _) _).alloc (by simp) _⟩

set_option maxRecDepth 100000 in
set_option maxHeartbeats 1600000 in
theorem there_17 (t1 t2 t3 t4 : Int) (S1 : Option Addr) (m1 k1 : Nat) (fl : Int) (S2 : Option Addr) (m2 k2 : Nat) (S3 : Option Addr) (m3 k3 : Nat) (S4 : Option Addr) (m4 k4 : Nat) (S5 : Option Addr) (m5 k5 : Nat) (S6 : Option Addr) (m6 k6 : Nat) (S7 : Option Addr) (m7 k7 : Nat) (S8 : Option Addr) (m8 k8 : Nat) (S9 : Option Addr) (m9 k9 : Nat) (S10 : Option Addr) (m10 k10 : Nat) (loc : Int) (m : Int) (s : List UInt8) (A : Option Addr) (n c : Nat) (A1 : Option Addr) (n1 c1 : Nat) (A2 : Option Addr) (n2 c2 : Nat) (hm2 : (m2 : Int) ≤ 9223372036854775807) (hm3 : (m3 : Int) ≤ 9223372036854775807) (hm8 : (m8 : Int) ≤ 9223372036854775807) (hs : (bs s).toList.isEmpty = true) (w : World) : Calls Try.prog 67 #[.agg #[.int .i64 t1, .int .i64 t2, .int .i64 t3, .int .i64 t4, .slice S1 m1 k1, .int .i64 fl, .slice S2 m2 k2, .slice S3 m3 k3, .slice S4 m4 k4, .slice S5 m5 k5, .slice S6 m6 k6, .slice S7 m7 k7, .slice S8 m8 k8, .slice S9 m9 k9, .slice S10 m10 k10], .agg #[.int .i64 17, .int .i64 m, .string (bs s), .slice A n c, .slice A1 n1 c1, .slice A2 n2 c2], .int .i64 loc] w fun f w' => f = .returned (.bool (amongB m 0 ((m8 : Int) - 1))) ∧ Below w.heap.size w w' := by
  go_enter Try.func67, Try.ntmps67
  go_wp2_with fail
  refine (r10among_any _ _ _ _).mono ?_
  rintro f w2 ⟨rfl, rfl⟩
  go_wp2_with fail
  go_ret
  exact ⟨rfl, ((Below.refl _ _).alloc (Nat.le_refl _) _).alloc (by simp) _⟩

set_option maxRecDepth 100000 in
set_option maxHeartbeats 1600000 in
theorem there_18 (t1 t2 t3 t4 : Int) (S1 : Option Addr) (m1 k1 : Nat) (fl : Int) (S2 : Option Addr) (m2 k2 : Nat) (S3 : Option Addr) (m3 k3 : Nat) (S4 : Option Addr) (m4 k4 : Nat) (S5 : Option Addr) (m5 k5 : Nat) (S6 : Option Addr) (m6 k6 : Nat) (S7 : Option Addr) (m7 k7 : Nat) (S8 : Option Addr) (m8 k8 : Nat) (S9 : Option Addr) (m9 k9 : Nat) (S10 : Option Addr) (m10 k10 : Nat) (loc : Int) (m : Int) (s : List UInt8) (A : Option Addr) (n c : Nat) (A1 : Option Addr) (n1 c1 : Nat) (A2 : Option Addr) (n2 c2 : Nat) (hm2 : (m2 : Int) ≤ 9223372036854775807) (hm3 : (m3 : Int) ≤ 9223372036854775807) (hm8 : (m8 : Int) ≤ 9223372036854775807) (hs : (bs s).toList.isEmpty = true) (w : World) : Calls Try.prog 67 #[.agg #[.int .i64 t1, .int .i64 t2, .int .i64 t3, .int .i64 t4, .slice S1 m1 k1, .int .i64 fl, .slice S2 m2 k2, .slice S3 m3 k3, .slice S4 m4 k4, .slice S5 m5 k5, .slice S6 m6 k6, .slice S7 m7 k7, .slice S8 m8 k8, .slice S9 m9 k9, .slice S10 m10 k10], .agg #[.int .i64 18, .int .i64 m, .string (bs s), .slice A n c, .slice A1 n1 c1, .slice A2 n2 c2], .int .i64 loc] w fun f w' => f = .returned (.bool (amongB m 0 ((m8 : Int) - 1))) ∧ Below w.heap.size w w' := by
  go_enter Try.func67, Try.ntmps67
  go_wp2_with fail
  refine (r10among_any _ _ _ _).mono ?_
  rintro f w2 ⟨rfl, rfl⟩
  go_wp2_with fail
  go_ret
  exact ⟨rfl, ((Below.refl _ _).alloc (Nat.le_refl _) _).alloc (by simp) _⟩

set_option maxRecDepth 100000 in
set_option maxHeartbeats 1600000 in
theorem there_0 (k : Int) (h2 : k ≠ 2) (h3 : k ≠ 3) (h11 : k ≠ 11) (h23 : k ≠ 23) (h4 : k ≠ 4) (h5 : k ≠ 5) (h6 : k ≠ 6) (h17 : k ≠ 17) (h18 : k ≠ 18) (t1 t2 t3 t4 : Int) (S1 : Option Addr) (m1 k1 : Nat) (fl : Int) (S2 : Option Addr) (m2 k2 : Nat) (S3 : Option Addr) (m3 k3 : Nat) (S4 : Option Addr) (m4 k4 : Nat) (S5 : Option Addr) (m5 k5 : Nat) (S6 : Option Addr) (m6 k6 : Nat) (S7 : Option Addr) (m7 k7 : Nat) (S8 : Option Addr) (m8 k8 : Nat) (S9 : Option Addr) (m9 k9 : Nat) (S10 : Option Addr) (m10 k10 : Nat) (loc : Int) (m : Int) (s : List UInt8) (A : Option Addr) (n c : Nat) (A1 : Option Addr) (n1 c1 : Nat) (A2 : Option Addr) (n2 c2 : Nat) (hm2 : (m2 : Int) ≤ 9223372036854775807) (hm3 : (m3 : Int) ≤ 9223372036854775807) (hm8 : (m8 : Int) ≤ 9223372036854775807) (hs : (bs s).toList.isEmpty = true) (w : World) : Calls Try.prog 67 #[.agg #[.int .i64 t1, .int .i64 t2, .int .i64 t3, .int .i64 t4, .slice S1 m1 k1, .int .i64 fl, .slice S2 m2 k2, .slice S3 m3 k3, .slice S4 m4 k4, .slice S5 m5 k5, .slice S6 m6 k6, .slice S7 m7 k7, .slice S8 m8 k8, .slice S9 m9 k9, .slice S10 m10 k10], .agg #[.int .i64 k, .int .i64 m, .string (bs s), .slice A n c, .slice A1 n1 c1, .slice A2 n2 c2], .int .i64 loc] w fun f w' => f = .returned (.bool (true)) ∧ Below w.heap.size w w' := by
  have t2e : (k == 2) = false := by rw [beq_eq_false_iff_ne]; exact h2
  have t3e : (k == 3) = false := by rw [beq_eq_false_iff_ne]; exact h3
  have t11e : (k == 11) = false := by rw [beq_eq_false_iff_ne]; exact h11
  have t23e : (k == 23) = false := by rw [beq_eq_false_iff_ne]; exact h23
  have t4e : (k == 4) = false := by rw [beq_eq_false_iff_ne]; exact h4
  have t5e : (k == 5) = false := by rw [beq_eq_false_iff_ne]; exact h5
  have t6e : (k == 6) = false := by rw [beq_eq_false_iff_ne]; exact h6
  have t17e : (k == 17) = false := by rw [beq_eq_false_iff_ne]; exact h17
  have t18e : (k == 18) = false := by rw [beq_eq_false_iff_ne]; exact h18
  clear h2 h3 h11 h23 h4 h5 h6 h17 h18
  go_enter Try.func67, Try.ntmps67
  go_wp2_with fail
  go_ret
  exact ⟨rfl, ((Below.refl _ _).alloc (Nat.le_refl _) _).alloc (by simp) _⟩

set_option maxRecDepth 100000 in
set_option maxHeartbeats 6400000 in
theorem r10there_any (T : TV) (loc : Int) (hl : -9223372036854775808 ≤ loc ∧ loc ≤ 9223372036854775807) (e : SL) (w : World) (hT : T.In w w.heap.size) : Calls Try.prog 67 #[T.val, sVal e, .int .i64 loc] w fun f w' => f = .returned (.bool (thereS T.tb loc e)) ∧ Below w.heap.size w w' := by
  obtain ⟨k, m, s, A, n, c, es, A1, n1, c1, bo, A2, n2, c2, el⟩ := e
  obtain ⟨t1, t2, t3, t4, S1, m1, k1, fl, S2, m2, k2, S3, m3, k3, S4, m4, k4, S5, m5, k5, S6, m6, k6, S7, m7, k7, S8, m8, k8, S9, m9, k9, S10, m10, k10, fs, ps⟩ := T
  obtain ⟨⟨hm1, hm2, hm3, hm7, hm8, hm9⟩, hf, hp⟩ := hT
  change (m2 : Int) ≤ 9223372036854775807 at hm2
  change (m3 : Int) ≤ 9223372036854775807 at hm3
  change (m8 : Int) ≤ 9223372036854775807 at hm8
  show Calls Try.prog _ #[.agg #[.int .i64 t1, .int .i64 t2, .int .i64 t3, .int .i64 t4, .slice S1 m1 k1, .int .i64 fl, .slice S2 m2 k2, .slice S3 m3 k3, .slice S4 m4 k4, .slice S5 m5 k5, .slice S6 m6 k6, .slice S7 m7 k7, .slice S8 m8 k8, .slice S9 m9 k9, .slice S10 m10 k10], .agg #[.int .i64 k, .int .i64 m, .string (bs s), .slice A n c, .slice A1 n1 c1, .slice A2 n2 c2], .int .i64 loc] w fun f w' => f = .returned (.bool (thereS (TB.mk m1 fl m2 m3 m8 fs ps) loc (SL.mk k m s A n c es A1 n1 c1 bo A2 n2 c2 el))) ∧ Below w.heap.size w w'
  by_cases hs0 : s = []
  · have hs := bs_nil.2 hs0
    by_cases h2 : k = 2
    · subst h2
      have e : thereS (TB.mk m1 fl m2 m3 m8 fs ps) loc (SL.mk 2 m s A n c es A1 n1 c1 bo A2 n2 c2 el) = (decide (0 ≤ m) && decide (m < loc)) := (if_neg (by show ¬ (s ≠ []); exact fun h => h hs0)).trans ((if_pos (by show (2 : Int) = 2 ∨ (2 : Int) = 3; decide)).trans rfl)
      rw [e]
      exact there_2 t1 t2 t3 t4 S1 m1 k1 fl S2 m2 k2 S3 m3 k3 S4 m4 k4 S5 m5 k5 S6 m6 k6 S7 m7 k7 S8 m8 k8 S9 m9 k9 S10 m10 k10 loc m s A n c A1 n1 c1 A2 n2 c2 hm2 hm3 hm8 hs w
    by_cases h3 : k = 3
    · subst h3
      have e : thereS (TB.mk m1 fl m2 m3 m8 fs ps) loc (SL.mk 3 m s A n c es A1 n1 c1 bo A2 n2 c2 el) = (decide (0 ≤ m) && decide (m < loc)) := (if_neg (by show ¬ (s ≠ []); exact fun h => h hs0)).trans ((if_pos (by show (3 : Int) = 2 ∨ (3 : Int) = 3; decide)).trans rfl)
      rw [e]
      exact there_3 t1 t2 t3 t4 S1 m1 k1 fl S2 m2 k2 S3 m3 k3 S4 m4 k4 S5 m5 k5 S6 m6 k6 S7 m7 k7 S8 m8 k8 S9 m9 k9 S10 m10 k10 loc m s A n c A1 n1 c1 A2 n2 c2 hm2 hm3 hm8 hs w
    by_cases h11 : k = 11
    · subst h11
      have e : thereS (TB.mk m1 fl m2 m3 m8 fs ps) loc (SL.mk 11 m s A n c es A1 n1 c1 bo A2 n2 c2 el) = (decide (0 ≤ m) && decide (m < loc - 1) && decide (1 < loc)) := (if_neg (by show ¬ (s ≠ []); exact fun h => h hs0)).trans ((if_neg (by show ¬ ((11 : Int) = 2 ∨ (11 : Int) = 3); decide)).trans ((if_pos (by show (11 : Int) = 11; decide)).trans rfl))
      rw [e]
      exact there_11 t1 t2 t3 t4 S1 m1 k1 fl S2 m2 k2 S3 m3 k3 S4 m4 k4 S5 m5 k5 S6 m6 k6 S7 m7 k7 S8 m8 k8 S9 m9 k9 S10 m10 k10 loc m s A n c A1 n1 c1 A2 n2 c2 hm2 hm3 hm8 hl hs w
    by_cases h23 : k = 23
    · subst h23
      have e : thereS (TB.mk m1 fl m2 m3 m8 fs ps) loc (SL.mk 23 m s A n c es A1 n1 c1 bo A2 n2 c2 el) = (amongB m 0 ((m3 : Int) - 1)) := (if_neg (by show ¬ (s ≠ []); exact fun h => h hs0)).trans ((if_neg (by show ¬ ((23 : Int) = 2 ∨ (23 : Int) = 3); decide)).trans ((if_neg (by show ¬ ((23 : Int) = 11); decide)).trans ((if_pos (by show (23 : Int) = 23; decide)).trans rfl)))
      rw [e]
      exact there_23 t1 t2 t3 t4 S1 m1 k1 fl S2 m2 k2 S3 m3 k3 S4 m4 k4 S5 m5 k5 S6 m6 k6 S7 m7 k7 S8 m8 k8 S9 m9 k9 S10 m10 k10 loc m s A n c A1 n1 c1 A2 n2 c2 hm2 hm3 hm8 hs w
    by_cases h4 : k = 4
    · subst h4
      have e : thereS (TB.mk m1 fl m2 m3 m8 fs ps) loc (SL.mk 4 m s A n c es A1 n1 c1 bo A2 n2 c2 el) = (amongB m 0 ((m2 : Int) - 1)) := (if_neg (by show ¬ (s ≠ []); exact fun h => h hs0)).trans ((if_neg (by show ¬ ((4 : Int) = 2 ∨ (4 : Int) = 3); decide)).trans ((if_neg (by show ¬ ((4 : Int) = 11); decide)).trans ((if_neg (by show ¬ ((4 : Int) = 23); decide)).trans ((if_pos (by show (4 : Int) = 4; decide)).trans rfl))))
      rw [e]
      exact there_4 t1 t2 t3 t4 S1 m1 k1 fl S2 m2 k2 S3 m3 k3 S4 m4 k4 S5 m5 k5 S6 m6 k6 S7 m7 k7 S8 m8 k8 S9 m9 k9 S10 m10 k10 loc m s A n c A1 n1 c1 A2 n2 c2 hm2 hm3 hm8 hs w
    by_cases h5 : k = 5
    · subst h5
      have e : thereS (TB.mk m1 fl m2 m3 m8 fs ps) loc (SL.mk 5 m s A n c es A1 n1 c1 bo A2 n2 c2 el) = (decide (0 ≤ m) && decide (m < fl)) := (if_neg (by show ¬ (s ≠ []); exact fun h => h hs0)).trans ((if_neg (by show ¬ ((5 : Int) = 2 ∨ (5 : Int) = 3); decide)).trans ((if_neg (by show ¬ ((5 : Int) = 11); decide)).trans ((if_neg (by show ¬ ((5 : Int) = 23); decide)).trans ((if_neg (by show ¬ ((5 : Int) = 4); decide)).trans ((if_pos (by show (5 : Int) = 5 ∨ (5 : Int) = 6; decide)).trans rfl)))))
      rw [e]
      exact there_5 t1 t2 t3 t4 S1 m1 k1 fl S2 m2 k2 S3 m3 k3 S4 m4 k4 S5 m5 k5 S6 m6 k6 S7 m7 k7 S8 m8 k8 S9 m9 k9 S10 m10 k10 loc m s A n c A1 n1 c1 A2 n2 c2 hm2 hm3 hm8 hs w
    by_cases h6 : k = 6
    · subst h6
      have e : thereS (TB.mk m1 fl m2 m3 m8 fs ps) loc (SL.mk 6 m s A n c es A1 n1 c1 bo A2 n2 c2 el) = (decide (0 ≤ m) && decide (m < fl)) := (if_neg (by show ¬ (s ≠ []); exact fun h => h hs0)).trans ((if_neg (by show ¬ ((6 : Int) = 2 ∨ (6 : Int) = 3); decide)).trans ((if_neg (by show ¬ ((6 : Int) = 11); decide)).trans ((if_neg (by show ¬ ((6 : Int) = 23); decide)).trans ((if_neg (by show ¬ ((6 : Int) = 4); decide)).trans ((if_pos (by show (6 : Int) = 5 ∨ (6 : Int) = 6; decide)).trans rfl)))))
      rw [e]
      exact there_6 t1 t2 t3 t4 S1 m1 k1 fl S2 m2 k2 S3 m3 k3 S4 m4 k4 S5 m5 k5 S6 m6 k6 S7 m7 k7 S8 m8 k8 S9 m9 k9 S10 m10 k10 loc m s A n c A1 n1 c1 A2 n2 c2 hm2 hm3 hm8 hs w
    by_cases h17 : k = 17
    · subst h17
      have e : thereS (TB.mk m1 fl m2 m3 m8 fs ps) loc (SL.mk 17 m s A n c es A1 n1 c1 bo A2 n2 c2 el) = (amongB m 0 ((m8 : Int) - 1)) := (if_neg (by show ¬ (s ≠ []); exact fun h => h hs0)).trans ((if_neg (by show ¬ ((17 : Int) = 2 ∨ (17 : Int) = 3); decide)).trans ((if_neg (by show ¬ ((17 : Int) = 11); decide)).trans ((if_neg (by show ¬ ((17 : Int) = 23); decide)).trans ((if_neg (by show ¬ ((17 : Int) = 4); decide)).trans ((if_neg (by show ¬ ((17 : Int) = 5 ∨ (17 : Int) = 6); decide)).trans ((if_pos (by show (17 : Int) = 17 ∨ (17 : Int) = 18; decide)).trans rfl))))))
      rw [e]
      exact there_17 t1 t2 t3 t4 S1 m1 k1 fl S2 m2 k2 S3 m3 k3 S4 m4 k4 S5 m5 k5 S6 m6 k6 S7 m7 k7 S8 m8 k8 S9 m9 k9 S10 m10 k10 loc m s A n c A1 n1 c1 A2 n2 c2 hm2 hm3 hm8 hs w
    by_cases h18 : k = 18
    · subst h18
      have e : thereS (TB.mk m1 fl m2 m3 m8 fs ps) loc (SL.mk 18 m s A n c es A1 n1 c1 bo A2 n2 c2 el) = (amongB m 0 ((m8 : Int) - 1)) := (if_neg (by show ¬ (s ≠ []); exact fun h => h hs0)).trans ((if_neg (by show ¬ ((18 : Int) = 2 ∨ (18 : Int) = 3); decide)).trans ((if_neg (by show ¬ ((18 : Int) = 11); decide)).trans ((if_neg (by show ¬ ((18 : Int) = 23); decide)).trans ((if_neg (by show ¬ ((18 : Int) = 4); decide)).trans ((if_neg (by show ¬ ((18 : Int) = 5 ∨ (18 : Int) = 6); decide)).trans ((if_pos (by show (18 : Int) = 17 ∨ (18 : Int) = 18; decide)).trans rfl))))))
      rw [e]
      exact there_18 t1 t2 t3 t4 S1 m1 k1 fl S2 m2 k2 S3 m3 k3 S4 m4 k4 S5 m5 k5 S6 m6 k6 S7 m7 k7 S8 m8 k8 S9 m9 k9 S10 m10 k10 loc m s A n c A1 n1 c1 A2 n2 c2 hm2 hm3 hm8 hs w
    have e : thereS (TB.mk m1 fl m2 m3 m8 fs ps) loc (SL.mk k m s A n c es A1 n1 c1 bo A2 n2 c2 el) = true := (if_neg (by show ¬ (s ≠ []); exact fun h => h hs0)).trans ((if_neg (by show ¬ ((k : Int) = 2 ∨ (k : Int) = 3); omega)).trans ((if_neg (by show ¬ ((k : Int) = 11); omega)).trans ((if_neg (by show ¬ ((k : Int) = 23); omega)).trans ((if_neg (by show ¬ ((k : Int) = 4); omega)).trans ((if_neg (by show ¬ ((k : Int) = 5 ∨ (k : Int) = 6); omega)).trans ((if_neg (by show ¬ ((k : Int) = 17 ∨ (k : Int) = 18); omega)).trans (rfl)))))))
    rw [e]
    exact there_0 k h2 h3 h11 h23 h4 h5 h6 h17 h18 t1 t2 t3 t4 S1 m1 k1 fl S2 m2 k2 S3 m3 k3 S4 m4 k4 S5 m5 k5 S6 m6 k6 S7 m7 k7 S8 m8 k8 S9 m9 k9 S10 m10 k10 loc m s A n c A1 n1 c1 A2 n2 c2 hm2 hm3 hm8 hs w
  · have hs : (bs s).toList.isEmpty = false := by
      cases h : (bs s).toList.isEmpty with
      | false => rfl
      | true => exact absurd (bs_nil.1 h) hs0
    have e : thereS (TB.mk m1 fl m2 m3 m8 fs ps) loc (SL.mk k m s A n c es A1 n1 c1 bo A2 n2 c2 el) = false := if_pos hs0
    rw [e]
    clear hs0 e
    go_enter Try.func67, Try.ntmps67
    go_wp2_with fail
    go_ret
    exact ⟨rfl, ((Below.refl _ _).alloc (Nat.le_refl _) _).alloc (by simp) _⟩

set_option maxRecDepth 100000 in
set_option maxHeartbeats 6400000 in
theorem r10Bound_any (T : TV) (loc : Int) (e : EL) (w : World) (hT : T.In w w.heap.size) (hin : e.In w w.heap.size) :
    Calls Try.prog 17 #[T.val, eVal e, .int .i64 loc] w fun f w' => f = .returned (.bool (boundB T.tb loc e)) ∧ Below w.heap.size w w' := by
  have hc : ∀ W : World, Below w.heap.size w W → Calls Try.prog 29 #[eVal e] W fun f w' => f = .returned (.int .i64 ((min 65 (depE e) : Nat) : Int)) ∧ Below W.heap.size W w' := fun W hb => r10Depth_any e W (EL.In.more hb.size (hin.below hb))
  have hr : ∀ W : World, Below w.heap.size w W → Calls Try.prog 38 #[T.val, eVal e, .int .i64 loc, .bool true] W fun f w' => f = .returned (.bool (boundE T.tb loc true e)) ∧ Below W.heap.size W w' := fun W hb => r10bound_any T loc e true W ((hT.below hb).more hb.size) (EL.In.more hb.size (hin.below hb))
  unfold boundB
  obtain ⟨d, hd⟩ : ∃ d, d = min 65 (depE e) := ⟨_, rfl⟩
  have he : decide (depE e ≤ 32) = decide (d ≤ 32) := decide_eq_decide.2 (by omega)
  rw [he]
  obtain ⟨q, hq⟩ : ∃ q, q = boundE T.tb loc true e := ⟨_, rfl⟩
  rw [← hq]
  rw [← hd] at hc
  rw [← hq] at hr
  clear he hd hq hT
  obtain ⟨k, o, m, s, A, n, c, es⟩ := e
  obtain ⟨t1, t2, t3, t4, S1, m1, k1, fl, S2, m2, k2, S3, m3, k3, S4, m4, k4, S5, m5, k5, S6, m6, k6, S7, m7, k7, S8, m8, k8, S9, m9, k9, S10, m10, k10, fs, ps⟩ := T
  have hc' : ∀ W : World, Below w.heap.size w W → Calls Try.prog 29 #[.agg #[.int .i64 k, .int .i64 o, .int .i64 m, .string (bs s), .slice A n c]] W fun f w' => f = .returned (.int .i64 (d : Nat)) ∧ Below W.heap.size W w' := hc
  have hr' : ∀ W : World, Below w.heap.size w W → Calls Try.prog 38 #[.agg #[.int .i64 t1, .int .i64 t2, .int .i64 t3, .int .i64 t4, .slice S1 m1 k1, .int .i64 fl, .slice S2 m2 k2, .slice S3 m3 k3, .slice S4 m4 k4, .slice S5 m5 k5, .slice S6 m6 k6, .slice S7 m7 k7, .slice S8 m8 k8, .slice S9 m9 k9, .slice S10 m10 k10], .agg #[.int .i64 k, .int .i64 o, .int .i64 m, .string (bs s), .slice A n c], .int .i64 loc, .bool true] W fun f w' => f = .returned (.bool q) ∧ Below W.heap.size W w' := hr
  have HC := Lib.hid hc'
  have HR := Lib.hid hr'
  obtain ⟨W, hW⟩ : ∃ W, W = ((w.alloc (.cells #[.int .i64 t1, .int .i64 t2, .int .i64 t3, .int .i64 t4, .slice S1 m1 k1, .int .i64 fl, .slice S2 m2 k2, .slice S3 m3 k3, .slice S4 m4 k4, .slice S5 m5 k5, .slice S6 m6 k6, .slice S7 m7 k7, .slice S8 m8 k8, .slice S9 m9 k9, .slice S10 m10 k10] 37)).alloc (.cells #[.int .i64 k, .int .i64 o, .int .i64 m, .string (bs s), .slice A n c] 24)) := ⟨_, rfl⟩
  have HBW : Hid (Below w.heap.size w W) := Lib.hid (by rw [hW]; exact ((Below.refl _ _).alloc (Nat.le_refl _) _).alloc (by simp) _)
  have HKT : Hid (Blk W w.heap.size 37 #[.int .i64 t1, .int .i64 t2, .int .i64 t3, .int .i64 t4, .slice S1 m1 k1, .int .i64 fl, .slice S2 m2 k2, .slice S3 m3 k3, .slice S4 m4 k4, .slice S5 m5 k5, .slice S6 m6 k6, .slice S7 m7 k7, .slice S8 m8 k8, .slice S9 m9 k9, .slice S10 m10 k10]) := Lib.hid (by rw [hW]; exact (Blk.new _ _ _).alloc _)
  have HK : Hid (Blk W (w.heap.size + 1) 24 #[.int .i64 k, .int .i64 o, .int .i64 m, .string (bs s), .slice A n c]) := Lib.hid (by rw [hW]; exact Blk.new_at _ _ _ _ (by simp))
  show Calls Try.prog _ #[.agg #[.int .i64 t1, .int .i64 t2, .int .i64 t3, .int .i64 t4, .slice S1 m1 k1, .int .i64 fl, .slice S2 m2 k2, .slice S3 m3 k3, .slice S4 m4 k4, .slice S5 m5 k5, .slice S6 m6 k6, .slice S7 m7 k7, .slice S8 m8 k8, .slice S9 m9 k9, .slice S10 m10 k10], .agg #[.int .i64 k, .int .i64 o, .int .i64 m, .string (bs s), .slice A n c], .int .i64 loc] w _
  clear hc hc' hr hr' hin
  go_enter Try.func17, Try.ntmps17
  go_wp2_with fail
  rw [← hW]
  clear hW
  refine (HC.out W HBW.out).mono ?_
  rintro f w2 ⟨rfl, hb2⟩
  have HB2 := Lib.hid hb2
  clear hb2
  have HBF := Lib.hid (HBW.out.trans (HB2.out.mono HBW.out.size))
  by_cases h32 : d ≤ 32
  · have t1e : (d : Int) ≤ 32 := by omega
    have E1 : Hid ((decide (d ≤ 32) && q) = q) := Lib.hid (by rw [decide_eq_true h32, Bool.true_and])
    clear h32
    have kk0 : w2.cell? ⟨w.heap.size + 1, 0, none⟩ = some (.int .i64 k) := (HK.out.below HB2.out HK.out.lt).cell 0
    have kk1 : w2.cell? ⟨w.heap.size + 1, 1, none⟩ = some (.int .i64 o) := (HK.out.below HB2.out HK.out.lt).cell 1
    have kk2 : w2.cell? ⟨w.heap.size + 1, 2, none⟩ = some (.int .i64 m) := (HK.out.below HB2.out HK.out.lt).cell 2
    have kk3 : w2.cell? ⟨w.heap.size + 1, 3, none⟩ = some (.string (bs s)) := (HK.out.below HB2.out HK.out.lt).cell 3
    have kk4 : w2.cell? ⟨w.heap.size + 1, 4, none⟩ = some (.slice A n c) := (HK.out.below HB2.out HK.out.lt).cell 4
    have uu0 : w2.cell? ⟨w.heap.size, 0, none⟩ = some (.int .i64 t1) := (HKT.out.below HB2.out HKT.out.lt).cell 0
    have uu1 : w2.cell? ⟨w.heap.size, 1, none⟩ = some (.int .i64 t2) := (HKT.out.below HB2.out HKT.out.lt).cell 1
    have uu2 : w2.cell? ⟨w.heap.size, 2, none⟩ = some (.int .i64 t3) := (HKT.out.below HB2.out HKT.out.lt).cell 2
    have uu3 : w2.cell? ⟨w.heap.size, 3, none⟩ = some (.int .i64 t4) := (HKT.out.below HB2.out HKT.out.lt).cell 3
    have uu4 : w2.cell? ⟨w.heap.size, 4, none⟩ = some (.slice S1 m1 k1) := (HKT.out.below HB2.out HKT.out.lt).cell 4
    have uu5 : w2.cell? ⟨w.heap.size, 5, none⟩ = some (.int .i64 fl) := (HKT.out.below HB2.out HKT.out.lt).cell 5
    have uu6 : w2.cell? ⟨w.heap.size, 6, none⟩ = some (.slice S2 m2 k2) := (HKT.out.below HB2.out HKT.out.lt).cell 6
    have uu7 : w2.cell? ⟨w.heap.size, 7, none⟩ = some (.slice S3 m3 k3) := (HKT.out.below HB2.out HKT.out.lt).cell 7
    have uu8 : w2.cell? ⟨w.heap.size, 8, none⟩ = some (.slice S4 m4 k4) := (HKT.out.below HB2.out HKT.out.lt).cell 8
    have uu9 : w2.cell? ⟨w.heap.size, 9, none⟩ = some (.slice S5 m5 k5) := (HKT.out.below HB2.out HKT.out.lt).cell 9
    have uu10 : w2.cell? ⟨w.heap.size, 10, none⟩ = some (.slice S6 m6 k6) := (HKT.out.below HB2.out HKT.out.lt).cell 10
    have uu11 : w2.cell? ⟨w.heap.size, 11, none⟩ = some (.slice S7 m7 k7) := (HKT.out.below HB2.out HKT.out.lt).cell 11
    have uu12 : w2.cell? ⟨w.heap.size, 12, none⟩ = some (.slice S8 m8 k8) := (HKT.out.below HB2.out HKT.out.lt).cell 12
    have uu13 : w2.cell? ⟨w.heap.size, 13, none⟩ = some (.slice S9 m9 k9) := (HKT.out.below HB2.out HKT.out.lt).cell 13
    have uu14 : w2.cell? ⟨w.heap.size, 14, none⟩ = some (.slice S10 m10 k10) := (HKT.out.below HB2.out HKT.out.lt).cell 14
    go_wp2_with fail
    refine (HR.out w2 HBF.out).mono ?_
    rintro f w3 ⟨rfl, hb3⟩
    go_wp2_with fail
    go_ret
    rw [E1.out]
    exact ⟨rfl, HBF.out.trans (hb3.mono HBF.out.size)⟩
  · have t1e : ¬ (d : Int) ≤ 32 := by omega
    have E1 : Hid ((decide (d ≤ 32) && q) = false) := Lib.hid (by rw [decide_eq_false h32, Bool.false_and])
    clear h32
    go_wp2_with fail
    go_ret
    rw [E1.out]
    exact ⟨rfl, HBF.out⟩

end Go.Proofs.Ytdmpadonnobeaaa
