/- Contracts and lemmas that the proofs of this seat use. -/
import Derived.Test.YtiioffjjlcfhgaaQ2
import Derived.Test.YtiioffjjlcfhgaaRows
import Derived.Deep.Slices
import Derived.ChangeArms
import Derived.ProofKit
namespace Go.Proofs.Ytiioffjjlcfhgaa

section
open Go.RowKit
set_option linter.unusedVariables false

set_option maxRecDepth 100000 in
set_option maxHeartbeats 1600000 in
theorem there_2 (t1 t2 t3 t4 : Int) (S1 : Option Addr) (m1 k1 : Nat) (fl : Int) (S2 : Option Addr) (m2 k2 : Nat) (S3 : Option Addr) (m3 k3 : Nat) (S4 : Option Addr) (m4 k4 : Nat) (S5 : Option Addr) (m5 k5 : Nat) (S6 : Option Addr) (m6 k6 : Nat) (S7 : Option Addr) (m7 k7 : Nat) (S8 : Option Addr) (m8 k8 : Nat) (S9 : Option Addr) (m9 k9 : Nat) (S10 : Option Addr) (m10 k10 : Nat) (loc : Int) (m : Int) (s : List UInt8) (A : Option Addr) (n c : Nat) (A1 : Option Addr) (n1 c1 : Nat) (A2 : Option Addr) (n2 c2 : Nat) (hm2 : (m2 : Int) ≤ 9223372036854775807) (hm3 : (m3 : Int) ≤ 9223372036854775807) (hm8 : (m8 : Int) ≤ 9223372036854775807) (hs : (bs s).toList.isEmpty = true) (w : World) : Calls Try.prog 76 #[.agg #[.int .i64 t1, .int .i64 t2, .int .i64 t3, .int .i64 t4, .slice S1 m1 k1, .int .i64 fl, .slice S2 m2 k2, .slice S3 m3 k3, .slice S4 m4 k4, .slice S5 m5 k5, .slice S6 m6 k6, .slice S7 m7 k7, .slice S8 m8 k8, .slice S9 m9 k9, .slice S10 m10 k10], .agg #[.int .i64 2, .int .i64 m, .string (bs s), .slice A n c, .slice A1 n1 c1, .slice A2 n2 c2], .int .i64 loc] w fun f w' => f = .returned (.bool (decide (0 ≤ m) && decide (m < loc))) ∧ Below w.heap.size w w' := by
  by_cases a : 0 ≤ m
  · by_cases b : m < loc
    · rw [decide_eq_true a, decide_eq_true b]
      go_enter Try.func76, Try.ntmps76
      go_wp2_with fail
      go_ret
      exact ⟨rfl, ((Below.refl _ _).alloc (Nat.le_refl _) _).alloc (by simp) _⟩
    · have b1 : decide (m < loc) = false := by rw [decide_eq_false_iff_not]; exact b
      rw [decide_eq_true a, b1]
      clear b
      go_enter Try.func76, Try.ntmps76
      go_wp2_with fail
      go_ret
      exact ⟨rfl, ((Below.refl _ _).alloc (Nat.le_refl _) _).alloc (by simp) _⟩
  · have a1 : decide (0 ≤ m) = false := by rw [decide_eq_false_iff_not]; exact a
    rw [a1, Bool.false_and]
    clear a
    go_enter Try.func76, Try.ntmps76
    go_wp2_with fail
    go_ret
    exact ⟨rfl, ((Below.refl _ _).alloc (Nat.le_refl _) _).alloc (by simp) _⟩

set_option maxRecDepth 100000 in
set_option maxHeartbeats 1600000 in
theorem there_3 (t1 t2 t3 t4 : Int) (S1 : Option Addr) (m1 k1 : Nat) (fl : Int) (S2 : Option Addr) (m2 k2 : Nat) (S3 : Option Addr) (m3 k3 : Nat) (S4 : Option Addr) (m4 k4 : Nat) (S5 : Option Addr) (m5 k5 : Nat) (S6 : Option Addr) (m6 k6 : Nat) (S7 : Option Addr) (m7 k7 : Nat) (S8 : Option Addr) (m8 k8 : Nat) (S9 : Option Addr) (m9 k9 : Nat) (S10 : Option Addr) (m10 k10 : Nat) (loc : Int) (m : Int) (s : List UInt8) (A : Option Addr) (n c : Nat) (A1 : Option Addr) (n1 c1 : Nat) (A2 : Option Addr) (n2 c2 : Nat) (hm2 : (m2 : Int) ≤ 9223372036854775807) (hm3 : (m3 : Int) ≤ 9223372036854775807) (hm8 : (m8 : Int) ≤ 9223372036854775807) (hs : (bs s).toList.isEmpty = true) (w : World) : Calls Try.prog 76 #[.agg #[.int .i64 t1, .int .i64 t2, .int .i64 t3, .int .i64 t4, .slice S1 m1 k1, .int .i64 fl, .slice S2 m2 k2, .slice S3 m3 k3, .slice S4 m4 k4, .slice S5 m5 k5, .slice S6 m6 k6, .slice S7 m7 k7, .slice S8 m8 k8, .slice S9 m9 k9, .slice S10 m10 k10], .agg #[.int .i64 3, .int .i64 m, .string (bs s), .slice A n c, .slice A1 n1 c1, .slice A2 n2 c2], .int .i64 loc] w fun f w' => f = .returned (.bool (decide (0 ≤ m) && decide (m < loc))) ∧ Below w.heap.size w w' := by
  by_cases a : 0 ≤ m
  · by_cases b : m < loc
    · rw [decide_eq_true a, decide_eq_true b]
      go_enter Try.func76, Try.ntmps76
      go_wp2_with fail
      go_ret
      exact ⟨rfl, ((Below.refl _ _).alloc (Nat.le_refl _) _).alloc (by simp) _⟩
    · have b1 : decide (m < loc) = false := by rw [decide_eq_false_iff_not]; exact b
      rw [decide_eq_true a, b1]
      clear b
      go_enter Try.func76, Try.ntmps76
      go_wp2_with fail
      go_ret
      exact ⟨rfl, ((Below.refl _ _).alloc (Nat.le_refl _) _).alloc (by simp) _⟩
  · have a1 : decide (0 ≤ m) = false := by rw [decide_eq_false_iff_not]; exact a
    rw [a1, Bool.false_and]
    clear a
    go_enter Try.func76, Try.ntmps76
    go_wp2_with fail
    go_ret
    exact ⟨rfl, ((Below.refl _ _).alloc (Nat.le_refl _) _).alloc (by simp) _⟩

set_option maxRecDepth 100000 in
set_option maxHeartbeats 1600000 in
theorem there_11 (t1 t2 t3 t4 : Int) (S1 : Option Addr) (m1 k1 : Nat) (fl : Int) (S2 : Option Addr) (m2 k2 : Nat) (S3 : Option Addr) (m3 k3 : Nat) (S4 : Option Addr) (m4 k4 : Nat) (S5 : Option Addr) (m5 k5 : Nat) (S6 : Option Addr) (m6 k6 : Nat) (S7 : Option Addr) (m7 k7 : Nat) (S8 : Option Addr) (m8 k8 : Nat) (S9 : Option Addr) (m9 k9 : Nat) (S10 : Option Addr) (m10 k10 : Nat) (loc : Int) (m : Int) (s : List UInt8) (A : Option Addr) (n c : Nat) (A1 : Option Addr) (n1 c1 : Nat) (A2 : Option Addr) (n2 c2 : Nat) (hm2 : (m2 : Int) ≤ 9223372036854775807) (hm3 : (m3 : Int) ≤ 9223372036854775807) (hm8 : (m8 : Int) ≤ 9223372036854775807) (hl : -9223372036854775808 ≤ loc ∧ loc ≤ 9223372036854775807) (hs : (bs s).toList.isEmpty = true) (w : World) : Calls Try.prog 76 #[.agg #[.int .i64 t1, .int .i64 t2, .int .i64 t3, .int .i64 t4, .slice S1 m1 k1, .int .i64 fl, .slice S2 m2 k2, .slice S3 m3 k3, .slice S4 m4 k4, .slice S5 m5 k5, .slice S6 m6 k6, .slice S7 m7 k7, .slice S8 m8 k8, .slice S9 m9 k9, .slice S10 m10 k10], .agg #[.int .i64 11, .int .i64 m, .string (bs s), .slice A n c, .slice A1 n1 c1, .slice A2 n2 c2], .int .i64 loc] w fun f w' => f = .returned (.bool (decide (0 ≤ m) && decide (m < loc - 1) && decide (1 < loc))) ∧ Below w.heap.size w w' := by
  by_cases a : 0 ≤ m
  · have a2 : decide (0 ≤ m) = true := decide_eq_true a
    by_cases g : 1 < loc
    · by_cases b : m < loc - 1
      · rw [a2, decide_eq_true b, decide_eq_true g]
        go_enter Try.func76, Try.ntmps76
        go_wp2_with fail
        go_ret
        exact ⟨rfl, ((Below.refl _ _).alloc (Nat.le_refl _) _).alloc (by simp) _⟩
      · have b1 : decide (m < loc - 1) = false := by rw [decide_eq_false_iff_not]; exact b
        rw [a2, b1]
        clear b
        go_enter Try.func76, Try.ntmps76
        go_wp2_with fail
        go_ret
        exact ⟨rfl, ((Below.refl _ _).alloc (Nat.le_refl _) _).alloc (by simp) _⟩
    · have g1 : decide (1 < loc) = false := by rw [decide_eq_false_iff_not]; exact g
      rw [g1, Bool.and_false]
      obtain ⟨z, hz⟩ : ∃ z, z = wrap64 (loc - 1) := ⟨_, rfl⟩
      have wq : wrap64 (loc - 1) = z := hz.symm
      clear g hz
      by_cases b : m < z
      · go_enter Try.func76, Try.ntmps76
        go_wp2_with fail
        go_ret
        exact ⟨rfl, ((Below.refl _ _).alloc (Nat.le_refl _) _).alloc (by simp) _⟩
      · have b1 : decide (m < z) = false := by rw [decide_eq_false_iff_not]; exact b
        clear b
        go_enter Try.func76, Try.ntmps76
        go_wp2_with fail
        go_ret
        exact ⟨rfl, ((Below.refl _ _).alloc (Nat.le_refl _) _).alloc (by simp) _⟩
  · have a1 : decide (0 ≤ m) = false := by rw [decide_eq_false_iff_not]; exact a
    rw [a1, Bool.false_and, Bool.false_and]
    clear a
    go_enter Try.func76, Try.ntmps76
    go_wp2_with fail
    go_ret
    exact ⟨rfl, ((Below.refl _ _).alloc (Nat.le_refl _) _).alloc (by simp) _⟩

set_option maxRecDepth 100000 in
set_option maxHeartbeats 1600000 in
theorem there_23 (t1 t2 t3 t4 : Int) (S1 : Option Addr) (m1 k1 : Nat) (fl : Int) (S2 : Option Addr) (m2 k2 : Nat) (S3 : Option Addr) (m3 k3 : Nat) (S4 : Option Addr) (m4 k4 : Nat) (S5 : Option Addr) (m5 k5 : Nat) (S6 : Option Addr) (m6 k6 : Nat) (S7 : Option Addr) (m7 k7 : Nat) (S8 : Option Addr) (m8 k8 : Nat) (S9 : Option Addr) (m9 k9 : Nat) (S10 : Option Addr) (m10 k10 : Nat) (loc : Int) (m : Int) (s : List UInt8) (A : Option Addr) (n c : Nat) (A1 : Option Addr) (n1 c1 : Nat) (A2 : Option Addr) (n2 c2 : Nat) (hm2 : (m2 : Int) ≤ 9223372036854775807) (hm3 : (m3 : Int) ≤ 9223372036854775807) (hm8 : (m8 : Int) ≤ 9223372036854775807) (hs : (bs s).toList.isEmpty = true) (w : World) : Calls Try.prog 76 #[.agg #[.int .i64 t1, .int .i64 t2, .int .i64 t3, .int .i64 t4, .slice S1 m1 k1, .int .i64 fl, .slice S2 m2 k2, .slice S3 m3 k3, .slice S4 m4 k4, .slice S5 m5 k5, .slice S6 m6 k6, .slice S7 m7 k7, .slice S8 m8 k8, .slice S9 m9 k9, .slice S10 m10 k10], .agg #[.int .i64 23, .int .i64 m, .string (bs s), .slice A n c, .slice A1 n1 c1, .slice A2 n2 c2], .int .i64 loc] w fun f w' => f = .returned (.bool (amongB m 0 ((m3 : Int) - 1))) ∧ Below w.heap.size w w' := by
  go_enter Try.func76, Try.ntmps76
  go_wp2_with fail
  refine (r10among_any _ _ _ _).mono ?_
  rintro f w2 ⟨rfl, rfl⟩
  go_wp2_with fail
  go_ret
  exact ⟨rfl, ((Below.refl _ _).alloc (Nat.le_refl _) _).alloc (by simp) _⟩

set_option maxRecDepth 100000 in
set_option maxHeartbeats 1600000 in
theorem there_4 (t1 t2 t3 t4 : Int) (S1 : Option Addr) (m1 k1 : Nat) (fl : Int) (S2 : Option Addr) (m2 k2 : Nat) (S3 : Option Addr) (m3 k3 : Nat) (S4 : Option Addr) (m4 k4 : Nat) (S5 : Option Addr) (m5 k5 : Nat) (S6 : Option Addr) (m6 k6 : Nat) (S7 : Option Addr) (m7 k7 : Nat) (S8 : Option Addr) (m8 k8 : Nat) (S9 : Option Addr) (m9 k9 : Nat) (S10 : Option Addr) (m10 k10 : Nat) (loc : Int) (m : Int) (s : List UInt8) (A : Option Addr) (n c : Nat) (A1 : Option Addr) (n1 c1 : Nat) (A2 : Option Addr) (n2 c2 : Nat) (hm2 : (m2 : Int) ≤ 9223372036854775807) (hm3 : (m3 : Int) ≤ 9223372036854775807) (hm8 : (m8 : Int) ≤ 9223372036854775807) (hs : (bs s).toList.isEmpty = true) (w : World) : Calls Try.prog 76 #[.agg #[.int .i64 t1, .int .i64 t2, .int .i64 t3, .int .i64 t4, .slice S1 m1 k1, .int .i64 fl, .slice S2 m2 k2, .slice S3 m3 k3, .slice S4 m4 k4, .slice S5 m5 k5, .slice S6 m6 k6, .slice S7 m7 k7, .slice S8 m8 k8, .slice S9 m9 k9, .slice S10 m10 k10], .agg #[.int .i64 4, .int .i64 m, .string (bs s), .slice A n c, .slice A1 n1 c1, .slice A2 n2 c2], .int .i64 loc] w fun f w' => f = .returned (.bool (amongB m 0 ((m2 : Int) - 1))) ∧ Below w.heap.size w w' := by
  go_enter Try.func76, Try.ntmps76
  go_wp2_with fail
  refine (r10among_any _ _ _ _).mono ?_
  rintro f w2 ⟨rfl, rfl⟩
  go_wp2_with fail
  go_ret
  exact ⟨rfl, ((Below.refl _ _).alloc (Nat.le_refl _) _).alloc (by simp) _⟩

set_option maxRecDepth 100000 in
set_option maxHeartbeats 1600000 in
theorem there_5 (t1 t2 t3 t4 : Int) (S1 : Option Addr) (m1 k1 : Nat) (fl : Int) (S2 : Option Addr) (m2 k2 : Nat) (S3 : Option Addr) (m3 k3 : Nat) (S4 : Option Addr) (m4 k4 : Nat) (S5 : Option Addr) (m5 k5 : Nat) (S6 : Option Addr) (m6 k6 : Nat) (S7 : Option Addr) (m7 k7 : Nat) (S8 : Option Addr) (m8 k8 : Nat) (S9 : Option Addr) (m9 k9 : Nat) (S10 : Option Addr) (m10 k10 : Nat) (loc : Int) (m : Int) (s : List UInt8) (A : Option Addr) (n c : Nat) (A1 : Option Addr) (n1 c1 : Nat) (A2 : Option Addr) (n2 c2 : Nat) (hm2 : (m2 : Int) ≤ 9223372036854775807) (hm3 : (m3 : Int) ≤ 9223372036854775807) (hm8 : (m8 : Int) ≤ 9223372036854775807) (hs : (bs s).toList.isEmpty = true) (w : World) : Calls Try.prog 76 #[.agg #[.int .i64 t1, .int .i64 t2, .int .i64 t3, .int .i64 t4, .slice S1 m1 k1, .int .i64 fl, .slice S2 m2 k2, .slice S3 m3 k3, .slice S4 m4 k4, .slice S5 m5 k5, .slice S6 m6 k6, .slice S7 m7 k7, .slice S8 m8 k8, .slice S9 m9 k9, .slice S10 m10 k10], .agg #[.int .i64 5, .int .i64 m, .string (bs s), .slice A n c, .slice A1 n1 c1, .slice A2 n2 c2], .int .i64 loc] w fun f w' => f = .returned (.bool (decide (0 ≤ m) && decide (m < fl))) ∧ Below w.heap.size w w' := by
  by_cases a : 0 ≤ m
  · by_cases b : m < fl
    · rw [decide_eq_true a, decide_eq_true b]
      go_enter Try.func76, Try.ntmps76
      go_wp2_with fail
      go_ret
      exact ⟨rfl, ((Below.refl _ _).alloc (Nat.le_refl _) _).alloc (by simp) _⟩
    · have b1 : decide (m < fl) = false := by rw [decide_eq_false_iff_not]; exact b
      rw [decide_eq_true a, b1]
      clear b
      go_enter Try.func76, Try.ntmps76
      go_wp2_with fail
      go_ret
      exact ⟨rfl, ((Below.refl _ _).alloc (Nat.le_refl _) _).alloc (by simp) _⟩
  · have a1 : decide (0 ≤ m) = false := by rw [decide_eq_false_iff_not]; exact a
    rw [a1, Bool.false_and]
    clear a
    go_enter Try.func76, Try.ntmps76
    go_wp2_with fail
    go_ret
    exact ⟨rfl, ((Below.refl _ _).alloc (Nat.le_refl _) _).alloc (by simp) _⟩

set_option maxRecDepth 100000 in
set_option maxHeartbeats 1600000 in
theorem there_6 (t1 t2 t3 t4 : Int) (S1 : Option Addr) (m1 k1 : Nat) (fl : Int) (S2 : Option Addr) (m2 k2 : Nat) (S3 : Option Addr) (m3 k3 : Nat) (S4 : Option Addr) (m4 k4 : Nat) (S5 : Option Addr) (m5 k5 : Nat) (S6 : Option Addr) (m6 k6 : Nat) (S7 : Option Addr) (m7 k7 : Nat) (S8 : Option Addr) (m8 k8 : Nat) (S9 : Option Addr) (m9 k9 : Nat) (S10 : Option Addr) (m10 k10 : Nat) (loc : Int) (m : Int) (s : List UInt8) (A : Option Addr) (n c : Nat) (A1 : Option Addr) (n1 c1 : Nat) (A2 : Option Addr) (n2 c2 : Nat) (hm2 : (m2 : Int) ≤ 9223372036854775807) (hm3 : (m3 : Int) ≤ 9223372036854775807) (hm8 : (m8 : Int) ≤ 9223372036854775807) (hs : (bs s).toList.isEmpty = true) (w : World) : Calls Try.prog 76 #[.agg #[.int .i64 t1, .int .i64 t2, .int .i64 t3, .int .i64 t4, .slice S1 m1 k1, .int .i64 fl, .slice S2 m2 k2, .slice S3 m3 k3, .slice S4 m4 k4, .slice S5 m5 k5, .slice S6 m6 k6, .slice S7 m7 k7, .slice S8 m8 k8, .slice S9 m9 k9, .slice S10 m10 k10], .agg #[.int .i64 6, .int .i64 m, .string (bs s), .slice A n c, .slice A1 n1 c1, .slice A2 n2 c2], .int .i64 loc] w fun f w' => f = .returned (.bool (decide (0 ≤ m) && decide (m < fl))) ∧ Below w.heap.size w w' := by
  by_cases a : 0 ≤ m
  · by_cases b : m < fl
    · rw [decide_eq_true a, decide_eq_true b]
      go_enter Try.func76, Try.ntmps76
      go_wp2_with fail
      go_ret
      exact ⟨rfl, ((Below.refl _ _).alloc (Nat.le_refl _) _).alloc (by simp) _⟩
    · have b1 : decide (m < fl) = false := by rw [decide_eq_false_iff_not]; exact b
      rw [decide_eq_true a, b1]
      clear b
      go_enter Try.func76, Try.ntmps76
      go_wp2_with fail
      go_ret
      exact ⟨rfl, ((Below.refl _ _).alloc (Nat.le_refl _) _).alloc (by simp) _⟩
  · have a1 : decide (0 ≤ m) = false := by rw [decide_eq_false_iff_not]; exact a
    rw [a1, Bool.false_and]
    clear a
    go_enter Try.func76, Try.ntmps76
    go_wp2_with fail
    go_ret
    exact ⟨rfl, ((Below.refl _ _).alloc (Nat.le_refl _) _).alloc (by simp) _⟩

set_option maxRecDepth 100000 in
set_option maxHeartbeats 1600000 in
theorem there_17 (t1 t2 t3 t4 : Int) (S1 : Option Addr) (m1 k1 : Nat) (fl : Int) (S2 : Option Addr) (m2 k2 : Nat) (S3 : Option Addr) (m3 k3 : Nat) (S4 : Option Addr) (m4 k4 : Nat) (S5 : Option Addr) (m5 k5 : Nat) (S6 : Option Addr) (m6 k6 : Nat) (S7 : Option Addr) (m7 k7 : Nat) (S8 : Option Addr) (m8 k8 : Nat) (S9 : Option Addr) (m9 k9 : Nat) (S10 : Option Addr) (m10 k10 : Nat) (loc : Int) (m : Int) (s : List UInt8) (A : Option Addr) (n c : Nat) (A1 : Option Addr) (n1 c1 : Nat) (A2 : Option Addr) (n2 c2 : Nat) (hm2 : (m2 : Int) ≤ 9223372036854775807) (hm3 : (m3 : Int) ≤ 9223372036854775807) (hm8 : (m8 : Int) ≤ 9223372036854775807) (hs : (bs s).toList.isEmpty = true) (w : World) : Calls Try.prog 76 #[.agg #[.int .i64 t1, .int .i64 t2, .int .i64 t3, .int .i64 t4, .slice S1 m1 k1, .int .i64 fl, .slice S2 m2 k2, .slice S3 m3 k3, .slice S4 m4 k4, .slice S5 m5 k5, .slice S6 m6 k6, .slice S7 m7 k7, .slice S8 m8 k8, .slice S9 m9 k9, .slice S10 m10 k10], .agg #[.int .i64 17, .int .i64 m, .string (bs s), .slice A n c, .slice A1 n1 c1, .slice A2 n2 c2], .int .i64 loc] w fun f w' => f = .returned (.bool (amongB m 0 ((m8 : Int) - 1))) ∧ Below w.heap.size w w' := by
  go_enter Try.func76, Try.ntmps76
  go_wp2_with fail
  refine (r10among_any _ _ _ _).mono ?_
  rintro f w2 ⟨rfl, rfl⟩
  go_wp2_with fail
  go_ret
  exact ⟨rfl, ((Below.refl _ _).alloc (Nat.le_refl _) _).alloc (by simp) _⟩

set_option maxRecDepth 100000 in
set_option maxHeartbeats 1600000 in
theorem there_18 (t1 t2 t3 t4 : Int) (S1 : Option Addr) (m1 k1 : Nat) (fl : Int) (S2 : Option Addr) (m2 k2 : Nat) (S3 : Option Addr) (m3 k3 : Nat) (S4 : Option Addr) (m4 k4 : Nat) (S5 : Option Addr) (m5 k5 : Nat) (S6 : Option Addr) (m6 k6 : Nat) (S7 : Option Addr) (m7 k7 : Nat) (S8 : Option Addr) (m8 k8 : Nat) (S9 : Option Addr) (m9 k9 : Nat) (S10 : Option Addr) (m10 k10 : Nat) (loc : Int) (m : Int) (s : List UInt8) (A : Option Addr) (n c : Nat) (A1 : Option Addr) (n1 c1 : Nat) (A2 : Option Addr) (n2 c2 : Nat) (hm2 : (m2 : Int) ≤ 9223372036854775807) (hm3 : (m3 : Int) ≤ 9223372036854775807) (hm8 : (m8 : Int) ≤ 9223372036854775807) (hs : (bs s).toList.isEmpty = true) (w : World) : Calls Try.prog 76 #[.agg #[.int .i64 t1, .int .i64 t2, .int .i64 t3, .int .i64 t4, .slice S1 m1 k1, .int .i64 fl, .slice S2 m2 k2, .slice S3 m3 k3, .slice S4 m4 k4, .slice S5 m5 k5, .slice S6 m6 k6, .slice S7 m7 k7, .slice S8 m8 k8, .slice S9 m9 k9, .slice S10 m10 k10], .agg #[.int .i64 18, .int .i64 m, .string (bs s), .slice A n c, .slice A1 n1 c1, .slice A2 n2 c2], .int .i64 loc] w fun f w' => f = .returned (.bool (amongB m 0 ((m8 : Int) - 1))) ∧ Below w.heap.size w w' := by
  go_enter Try.func76, Try.ntmps76
  go_wp2_with fail
  refine (r10among_any _ _ _ _).mono ?_
  rintro f w2 ⟨rfl, rfl⟩
  go_wp2_with fail
  go_ret
  exact ⟨rfl, ((Below.refl _ _).alloc (Nat.le_refl _) _).alloc (by simp) _⟩

set_option maxRecDepth 100000 in
set_option maxHeartbeats 1600000 in
theorem there_0 (k : Int) (h2 : k ≠ 2) (h3 : k ≠ 3) (h11 : k ≠ 11) (h23 : k ≠ 23) (h4 : k ≠ 4) (h5 : k ≠ 5) (h6 : k ≠ 6) (h17 : k ≠ 17) (h18 : k ≠ 18) (t1 t2 t3 t4 : Int) (S1 : Option Addr) (m1 k1 : Nat) (fl : Int) (S2 : Option Addr) (m2 k2 : Nat) (S3 : Option Addr) (m3 k3 : Nat) (S4 : Option Addr) (m4 k4 : Nat) (S5 : Option Addr) (m5 k5 : Nat) (S6 : Option Addr) (m6 k6 : Nat) (S7 : Option Addr) (m7 k7 : Nat) (S8 : Option Addr) (m8 k8 : Nat) (S9 : Option Addr) (m9 k9 : Nat) (S10 : Option Addr) (m10 k10 : Nat) (loc : Int) (m : Int) (s : List UInt8) (A : Option Addr) (n c : Nat) (A1 : Option Addr) (n1 c1 : Nat) (A2 : Option Addr) (n2 c2 : Nat) (hm2 : (m2 : Int) ≤ 9223372036854775807) (hm3 : (m3 : Int) ≤ 9223372036854775807) (hm8 : (m8 : Int) ≤ 9223372036854775807) (hs : (bs s).toList.isEmpty = true) (w : World) : Calls Try.prog 76 #[.agg #[.int .i64 t1, .int .i64 t2, .int .i64 t3, .int .i64 t4, .slice S1 m1 k1, .int .i64 fl, .slice S2 m2 k2, .slice S3 m3 k3, .slice S4 m4 k4, .slice S5 m5 k5, .slice S6 m6 k6, .slice S7 m7 k7, .slice S8 m8 k8, .slice S9 m9 k9, .slice S10 m10 k10], .agg #[.int .i64 k, .int .i64 m, .string (bs s), .slice A n c, .slice A1 n1 c1, .slice A2 n2 c2], .int .i64 loc] w fun f w' => f = .returned (.bool (true)) ∧ Below w.heap.size w w' := by
  have t2e : (k == 2) = false := by rw [beq_eq_false_iff_ne]; exact h2
  have t3e : (k == 3) = false := by rw [beq_eq_false_iff_ne]; exact h3
  have t11e : (k == 11) = false := by rw [beq_eq_false_iff_ne]; exact h11
  have t23e : (k == 23) = false := by rw [beq_eq_false_iff_ne]; exact h23
  have t4e : (k == 4) = false := by rw [beq_eq_false_iff_ne]; exact h4
  have t5e : (k == 5) = false := by rw [beq_eq_false_iff_ne]; exact h5
  have t6e : (k == 6) = false := by rw [beq_eq_false_iff_ne]; exact h6
  have t17e : (k == 17) = false := by rw [beq_eq_false_iff_ne]; exact h17
  have t18e : (k == 18) = false := by rw [beq_eq_false_iff_ne]; exact h18
  clear h2 h3 h11 h23 h4 h5 h6 h17 h18
  go_enter Try.func76, Try.ntmps76
  go_wp2_with fail
  go_ret
  exact ⟨rfl, ((Below.refl _ _).alloc (Nat.le_refl _) _).alloc (by simp) _⟩

set_option maxRecDepth 100000 in
set_option maxHeartbeats 6400000 in
theorem r10there_any (T : TV) (loc : Int) (hl : -9223372036854775808 ≤ loc ∧ loc ≤ 9223372036854775807) (e : SL) (w : World) (hT : T.In w w.heap.size) : Calls Try.prog 76 #[T.val, sVal e, .int .i64 loc] w fun f w' => f = .returned (.bool (thereS T.tb loc e)) ∧ Below w.heap.size w w' := by
  obtain ⟨k, m, s, A, n, c, es, A1, n1, c1, bo, A2, n2, c2, el⟩ := e
  obtain ⟨t1, t2, t3, t4, S1, m1, k1, fl, S2, m2, k2, S3, m3, k3, S4, m4, k4, S5, m5, k5, S6, m6, k6, S7, m7, k7, S8, m8, k8, S9, m9, k9, S10, m10, k10, fs, ps⟩ := T
  obtain ⟨⟨hm1, hm2, hm3, hm7, hm8, hm9⟩, hf, hp⟩ := hT
  change (m2 : Int) ≤ 9223372036854775807 at hm2
  change (m3 : Int) ≤ 9223372036854775807 at hm3
  change (m8 : Int) ≤ 9223372036854775807 at hm8
  show Calls Try.prog _ #[.agg #[.int .i64 t1, .int .i64 t2, .int .i64 t3, .int .i64 t4, .slice S1 m1 k1, .int .i64 fl, .slice S2 m2 k2, .slice S3 m3 k3, .slice S4 m4 k4, .slice S5 m5 k5, .slice S6 m6 k6, .slice S7 m7 k7, .slice S8 m8 k8, .slice S9 m9 k9, .slice S10 m10 k10], .agg #[.int .i64 k, .int .i64 m, .string (bs s), .slice A n c, .slice A1 n1 c1, .slice A2 n2 c2], .int .i64 loc] w fun f w' => f = .returned (.bool (thereS (TB.mk m1 fl m2 m3 m8 fs ps) loc (SL.mk k m s A n c es A1 n1 c1 bo A2 n2 c2 el))) ∧ Below w.heap.size w w'
  by_cases hs0 : s = []
  · have hs := bs_nil.2 hs0
    by_cases h2 : k = 2
    · subst h2
      have e : thereS (TB.mk m1 fl m2 m3 m8 fs ps) loc (SL.mk 2 m s A n c es A1 n1 c1 bo A2 n2 c2 el) = (decide (0 ≤ m) && decide (m < loc)) := (if_neg (by show ¬ (s ≠ []); exact fun h => h hs0)).trans ((if_pos (by show (2 : Int) = 2 ∨ (2 : Int) = 3; decide)).trans rfl)
      rw [e]
      exact there_2 t1 t2 t3 t4 S1 m1 k1 fl S2 m2 k2 S3 m3 k3 S4 m4 k4 S5 m5 k5 S6 m6 k6 S7 m7 k7 S8 m8 k8 S9 m9 k9 S10 m10 k10 loc m s A n c A1 n1 c1 A2 n2 c2 hm2 hm3 hm8 hs w
    by_cases h3 : k = 3
    · subst h3
      have e : thereS (TB.mk m1 fl m2 m3 m8 fs ps) loc (SL.mk 3 m s A n c es A1 n1 c1 bo A2 n2 c2 el) = (decide (0 ≤ m) && decide (m < loc)) := (if_neg (by show ¬ (s ≠ []); exact fun h => h hs0)).trans ((if_pos (by show (3 : Int) = 2 ∨ (3 : Int) = 3; decide)).trans rfl)
      rw [e]
      exact there_3 t1 t2 t3 t4 S1 m1 k1 fl S2 m2 k2 S3 m3 k3 S4 m4 k4 S5 m5 k5 S6 m6 k6 S7 m7 k7 S8 m8 k8 S9 m9 k9 S10 m10 k10 loc m s A n c A1 n1 c1 A2 n2 c2 hm2 hm3 hm8 hs w
    by_cases h11 : k = 11
    · subst h11
      have e : thereS (TB.mk m1 fl m2 m3 m8 fs ps) loc (SL.mk 11 m s A n c es A1 n1 c1 bo A2 n2 c2 el) = (decide (0 ≤ m) && decide (m < loc - 1) && decide (1 < loc)) := (if_neg (by show ¬ (s ≠ []); exact fun h => h hs0)).trans ((if_neg (by show ¬ ((11 : Int) = 2 ∨ (11 : Int) = 3); decide)).trans ((if_pos (by show (11 : Int) = 11; decide)).trans rfl))
      rw [e]
      exact there_11 t1 t2 t3 t4 S1 m1 k1 fl S2 m2 k2 S3 m3 k3 S4 m4 k4 S5 m5 k5 S6 m6 k6 S7 m7 k7 S8 m8 k8 S9 m9 k9 S10 m10 k10 loc m s A n c A1 n1 c1 A2 n2 c2 hm2 hm3 hm8 hl hs w
    by_cases h23 : k = 23
    · subst h23
      have e : thereS (TB.mk m1 fl m2 m3 m8 fs ps) loc (SL.mk 23 m s A n c es A1 n1 c1 bo A2 n2 c2 el) = (amongB m 0 ((m3 : Int) - 1)) := (if_neg (by show ¬ (s ≠ []); exact fun h => h hs0)).trans ((if_neg (by show ¬ ((23 : Int) = 2 ∨ (23 : Int) = 3); decide)).trans ((if_neg (by show ¬ ((23 : Int) = 11); decide)).trans ((if_pos (by show (23 : Int) = 23; decide)).trans rfl)))
      rw [e]
      exact there_23 t1 t2 t3 t4 S1 m1 k1 fl S2 m2 k2 S3 m3 k3 S4 m4 k4 S5 m5 k5 S6 m6 k6 S7 m7 k7 S8 m8 k8 S9 m9 k9 S10 m10 k10 loc m s A n c A1 n1 c1 A2 n2 c2 hm2 hm3 hm8 hs w
    by_cases h4 : k = 4
    · subst h4
      have e : thereS (TB.mk m1 fl m2 m3 m8 fs ps) loc (SL.mk 4 m s A n c es A1 n1 c1 bo A2 n2 c2 el) = (amongB m 0 ((m2 : Int) - 1)) := (if_neg (by show ¬ (s ≠ []); exact fun h => h hs0)).trans ((if_neg (by show ¬ ((4 : Int) = 2 ∨ (4 : Int) = 3); decide)).trans ((if_neg (by show ¬ ((4 : Int) = 11); decide)).trans ((if_neg (by show ¬ ((4 : Int) = 23); decide)).trans ((if_pos (by show (4 : Int) = 4; decide)).trans rfl))))
      rw [e]
      exact there_4 t1 t2 t3 t4 S1 m1 k1 fl S2 m2 k2 S3 m3 k3 S4 m4 k4 S5 m5 k5 S6 m6 k6 S7 m7 k7 S8 m8 k8 S9 m9 k9 S10 m10 k10 loc m s A n c A1 n1 c1 A2 n2 c2 hm2 hm3 hm8 hs w
    by_cases h5 : k = 5
    · subst h5
      have e : thereS (TB.mk m1 fl m2 m3 m8 fs ps) loc (SL.mk 5 m s A n c es A1 n1 c1 bo A2 n2 c2 el) = (decide (0 ≤ m) && decide (m < fl)) := (if_neg (by show ¬ (s ≠ []); exact fun h => h hs0)).trans ((if_neg (by show ¬ ((5 : Int) = 2 ∨ (5 : Int) = 3); decide)).trans ((if_neg (by show ¬ ((5 : Int) = 11); decide)).trans ((if_neg (by show ¬ ((5 : Int) = 23); decide)).trans ((if_neg (by show ¬ ((5 : Int) = 4); decide)).trans ((if_pos (by show (5 : Int) = 5 ∨ (5 : Int) = 6; decide)).trans rfl)))))
      rw [e]
      exact there_5 t1 t2 t3 t4 S1 m1 k1 fl S2 m2 k2 S3 m3 k3 S4 m4 k4 S5 m5 k5 S6 m6 k6 S7 m7 k7 S8 m8 k8 S9 m9 k9 S10 m10 k10 loc m s A n c A1 n1 c1 A2 n2 c2 hm2 hm3 hm8 hs w
    by_cases h6 : k = 6
    · subst h6
      have e : thereS (TB.mk m1 fl m2 m3 m8 fs ps) loc (SL.mk 6 m s A n c es A1 n1 c1 bo A2 n2 c2 el) = (decide (0 ≤ m) && decide (m < fl)) := (if_neg (by show ¬ (s ≠ []); exact fun h => h hs0)).trans ((if_neg (by show ¬ ((6 : Int) = 2 ∨ (6 : Int) = 3); decide)).trans ((if_neg (by show ¬ ((6 : Int) = 11); decide)).trans ((if_neg (by show ¬ ((6 : Int) = 23); decide)).trans ((if_neg (by show ¬ ((6 : Int) = 4); decide)).trans ((if_pos (by show (6 : Int) = 5 ∨ (6 : Int) = 6; decide)).trans rfl)))))
      rw [e]
      exact there_6 t1 t2 t3 t4 S1 m1 k1 fl S2 m2 k2 S3 m3 k3 S4 m4 k4 S5 m5 k5 S6 m6 k6 S7 m7 k7 S8 m8 k8 S9 m9 k9 S10 m10 k10 loc m s A n c A1 n1 c1 A2 n2 c2 hm2 hm3 hm8 hs w
    by_cases h17 : k = 17
    · subst h17
      have e : thereS (TB.mk m1 fl m2 m3 m8 fs ps) loc (SL.mk 17 m s A n c es A1 n1 c1 bo A2 n2 c2 el) = (amongB m 0 ((m8 : Int) - 1)) := (if_neg (by show ¬ (s ≠ []); exact fun h => h hs0)).trans ((if_neg (by show ¬ ((17 : Int) = 2 ∨ (17 : Int) = 3); decide)).trans ((if_neg (by show ¬ ((17 : Int) = 11); decide)).trans ((if_neg (by show ¬ ((17 : Int) = 23); decide)).trans ((if_neg (by show ¬ ((17 : Int) = 4); decide)).trans ((if_neg (by show ¬ ((17 : Int) = 5 ∨ (17 : Int) = 6); decide)).trans ((if_pos (by show (17 : Int) = 17 ∨ (17 : Int) = 18; decide)).trans rfl))))))
      rw [e]
      exact there_17 t1 t2 t3 t4 S1 m1 k1 fl S2 m2 k2 S3 m3 k3 S4 m4 k4 S5 m5 k5 S6 m6 k6 S7 m7 k7 S8 m8 k8 S9 m9 k9 S10 m10 k10 loc m s A n c A1 n1 c1 A2 n2 c2 hm2 hm3 hm8 hs w
    by_cases h18 : k = 18
    · subst h18
      have e : thereS (TB.mk m1 fl m2 m3 m8 fs ps) loc (SL.mk 18 m s A n c es A1 n1 c1 bo A2 n2 c2 el) = (amongB m 0 ((m8 : Int) - 1)) := (if_neg (by show ¬ (s ≠ []); exact fun h => h hs0)).trans ((if_neg (by show ¬ ((18 : Int) = 2 ∨ (18 : Int) = 3); decide)).trans ((if_neg (by show ¬ ((18 : Int) = 11); decide)).trans ((if_neg (by show ¬ ((18 : Int) = 23); decide)).trans ((if_neg (by show ¬ ((18 : Int) = 4); decide)).trans ((if_neg (by show ¬ ((18 : Int) = 5 ∨ (18 : Int) = 6); decide)).trans ((if_pos (by show (18 : Int) = 17 ∨ (18 : Int) = 18; decide)).trans rfl))))))
      rw [e]
      exact there_18 t1 t2 t3 t4 S1 m1 k1 fl S2 m2 k2 S3 m3 k3 S4 m4 k4 S5 m5 k5 S6 m6 k6 S7 m7 k7 S8 m8 k8 S9 m9 k9 S10 m10 k10 loc m s A n c A1 n1 c1 A2 n2 c2 hm2 hm3 hm8 hs w
    have e : thereS (TB.mk m1 fl m2 m3 m8 fs ps) loc (SL.mk k m s A n c es A1 n1 c1 bo A2 n2 c2 el) = true := (if_neg (by show ¬ (s ≠ []); exact fun h => h hs0)).trans ((if_neg (by show ¬ ((k : Int) = 2 ∨ (k : Int) = 3); omega)).trans ((if_neg (by show ¬ ((k : Int) = 11); omega)).trans ((if_neg (by show ¬ ((k : Int) = 23); omega)).trans ((if_neg (by show ¬ ((k : Int) = 4); omega)).trans ((if_neg (by show ¬ ((k : Int) = 5 ∨ (k : Int) = 6); omega)).trans ((if_neg (by show ¬ ((k : Int) = 17 ∨ (k : Int) = 18); omega)).trans (rfl)))))))
    rw [e]
    exact there_0 k h2 h3 h11 h23 h4 h5 h6 h17 h18 t1 t2 t3 t4 S1 m1 k1 fl S2 m2 k2 S3 m3 k3 S4 m4 k4 S5 m5 k5 S6 m6 k6 S7 m7 k7 S8 m8 k8 S9 m9 k9 S10 m10 k10 loc m s A n c A1 n1 c1 A2 n2 c2 hm2 hm3 hm8 hs w
  · have hs : (bs s).toList.isEmpty = false := by
      cases h : (bs s).toList.isEmpty with
      | false => rfl
      | true => exact absurd (bs_nil.1 h) hs0
    have e : thereS (TB.mk m1 fl m2 m3 m8 fs ps) loc (SL.mk k m s A n c es A1 n1 c1 bo A2 n2 c2 el) = false := if_pos hs0
    rw [e]
    clear hs0 e
    go_enter Try.func76, Try.ntmps76
    go_wp2_with fail
    go_ret
    exact ⟨rfl, ((Below.refl _ _).alloc (Nat.le_refl _) _).alloc (by simp) _⟩

set_option maxRecDepth 100000 in
set_option maxHeartbeats 6400000 in
theorem r10Bound_any (T : TV) (loc : Int) (e : EL) (w : World) (hT : T.In w w.heap.size) (hin : e.In w w.heap.size) :
    Calls Try.prog 21 #[T.val, eVal e, .int .i64 loc] w fun f w' => f = .returned (.bool (boundB T.tb loc e)) ∧ Below w.heap.size w w' := by
  have hc : ∀ W : World, Below w.heap.size w W → Calls Try.prog 44 #[eVal e] W fun f w' => f = .returned (.int .i64 ((min 65 (depE e) : Nat) : Int)) ∧ Below W.heap.size W w' := fun W hb => r10Depth_any e W (EL.In.more hb.size (hin.below hb))
  have hr : ∀ W : World, Below w.heap.size w W → Calls Try.prog 45 #[T.val, eVal e, .int .i64 loc, .bool true] W fun f w' => f = .returned (.bool (boundE T.tb loc true e)) ∧ Below W.heap.size W w' := fun W hb => r10bound_any T loc e true W ((hT.below hb).more hb.size) (EL.In.more hb.size (hin.below hb))
  unfold boundB
  obtain ⟨d, hd⟩ : ∃ d, d = min 65 (depE e) := ⟨_, rfl⟩
  have he : decide (depE e ≤ 32) = decide (d ≤ 32) := decide_eq_decide.2 (by omega)
  rw [he]
  obtain ⟨q, hq⟩ : ∃ q, q = boundE T.tb loc true e := ⟨_, rfl⟩
  rw [← hq]
  rw [← hd] at hc
  rw [← hq] at hr
  clear he hd hq hT
  obtain ⟨k, o, m, s, A, n, c, es⟩ := e
  obtain ⟨t1, t2, t3, t4, S1, m1, k1, fl, S2, m2, k2, S3, m3, k3, S4, m4, k4, S5, m5, k5, S6, m6, k6, S7, m7, k7, S8, m8, k8, S9, m9, k9, S10, m10, k10, fs, ps⟩ := T
  have hc' : ∀ W : World, Below w.heap.size w W → Calls Try.prog 44 #[.agg #[.int .i64 k, .int .i64 o, .int .i64 m, .string (bs s), .slice A n c]] W fun f w' => f = .returned (.int .i64 (d : Nat)) ∧ Below W.heap.size W w' := hc
  have hr' : ∀ W : World, Below w.heap.size w W → Calls Try.prog 45 #[.agg #[.int .i64 t1, .int .i64 t2, .int .i64 t3, .int .i64 t4, .slice S1 m1 k1, .int .i64 fl, .slice S2 m2 k2, .slice S3 m3 k3, .slice S4 m4 k4, .slice S5 m5 k5, .slice S6 m6 k6, .slice S7 m7 k7, .slice S8 m8 k8, .slice S9 m9 k9, .slice S10 m10 k10], .agg #[.int .i64 k, .int .i64 o, .int .i64 m, .string (bs s), .slice A n c], .int .i64 loc, .bool true] W fun f w' => f = .returned (.bool q) ∧ Below W.heap.size W w' := hr
  have HC := Lib.hid hc'
  have HR := Lib.hid hr'
  obtain ⟨W, hW⟩ : ∃ W, W = ((w.alloc (.cells #[.int .i64 t1, .int .i64 t2, .int .i64 t3, .int .i64 t4, .slice S1 m1 k1, .int .i64 fl, .slice S2 m2 k2, .slice S3 m3 k3, .slice S4 m4 k4, .slice S5 m5 k5, .slice S6 m6 k6, .slice S7 m7 k7, .slice S8 m8 k8, .slice S9 m9 k9, .slice S10 m10 k10] 28)).alloc (.cells #[.int .i64 k, .int .i64 o, .int .i64 m, .string (bs s), .slice A n c] 31)) := ⟨_, rfl⟩
  have HBW : Hid (Below w.heap.size w W) := Lib.hid (by rw [hW]; exact ((Below.refl _ _).alloc (Nat.le_refl _) _).alloc (by simp) _)
  have HKT : Hid (Blk W w.heap.size 28 #[.int .i64 t1, .int .i64 t2, .int .i64 t3, .int .i64 t4, .slice S1 m1 k1, .int .i64 fl, .slice S2 m2 k2, .slice S3 m3 k3, .slice S4 m4 k4, .slice S5 m5 k5, .slice S6 m6 k6, .slice S7 m7 k7, .slice S8 m8 k8, .slice S9 m9 k9, .slice S10 m10 k10]) := Lib.hid (by rw [hW]; exact (Blk.new _ _ _).alloc _)
  have HK : Hid (Blk W (w.heap.size + 1) 31 #[.int .i64 k, .int .i64 o, .int .i64 m, .string (bs s), .slice A n c]) := Lib.hid (by rw [hW]; exact Blk.new_at _ _ _ _ (by simp))
  show Calls Try.prog _ #[.agg #[.int .i64 t1, .int .i64 t2, .int .i64 t3, .int .i64 t4, .slice S1 m1 k1, .int .i64 fl, .slice S2 m2 k2, .slice S3 m3 k3, .slice S4 m4 k4, .slice S5 m5 k5, .slice S6 m6 k6, .slice S7 m7 k7, .slice S8 m8 k8, .slice S9 m9 k9, .slice S10 m10 k10], .agg #[.int .i64 k, .int .i64 o, .int .i64 m, .string (bs s), .slice A n c], .int .i64 loc] w _
  clear hc hc' hr hr' hin
  go_enter Try.func21, Try.ntmps21
  go_wp2_with fail
  rw [← hW]
  clear hW
  refine (HC.out W HBW.out).mono ?_
  rintro f w2 ⟨rfl, hb2⟩
  have HB2 := Lib.hid hb2
  clear hb2
  have HBF := Lib.hid (HBW.out.trans (HB2.out.mono HBW.out.size))
  by_cases h32 : d ≤ 32
  · have t1e : (d : Int) ≤ 32 := by omega
    have E1 : Hid ((decide (d ≤ 32) && q) = q) := Lib.hid (by rw [decide_eq_true h32, Bool.true_and])
    clear h32
    have kk0 : w2.cell? ⟨w.heap.size + 1, 0, none⟩ = some (.int .i64 k) := (HK.out.below HB2.out HK.out.lt).cell 0
    have kk1 : w2.cell? ⟨w.heap.size + 1, 1, none⟩ = some (.int .i64 o) := (HK.out.below HB2.out HK.out.lt).cell 1
    have kk2 : w2.cell? ⟨w.heap.size + 1, 2, none⟩ = some (.int .i64 m) := (HK.out.below HB2.out HK.out.lt).cell 2
    have kk3 : w2.cell? ⟨w.heap.size + 1, 3, none⟩ = some (.string (bs s)) := (HK.out.below HB2.out HK.out.lt).cell 3
    have kk4 : w2.cell? ⟨w.heap.size + 1, 4, none⟩ = some (.slice A n c) := (HK.out.below HB2.out HK.out.lt).cell 4
    have uu0 : w2.cell? ⟨w.heap.size, 0, none⟩ = some (.int .i64 t1) := (HKT.out.below HB2.out HKT.out.lt).cell 0
    have uu1 : w2.cell? ⟨w.heap.size, 1, none⟩ = some (.int .i64 t2) := (HKT.out.below HB2.out HKT.out.lt).cell 1
    have uu2 : w2.cell? ⟨w.heap.size, 2, none⟩ = some (.int .i64 t3) := (HKT.out.below HB2.out HKT.out.lt).cell 2
    have uu3 : w2.cell? ⟨w.heap.size, 3, none⟩ = some (.int .i64 t4) := (HKT.out.below HB2.out HKT.out.lt).cell 3
    have uu4 : w2.cell? ⟨w.heap.size, 4, none⟩ = some (.slice S1 m1 k1) := (HKT.out.below HB2.out HKT.out.lt).cell 4
    have uu5 : w2.cell? ⟨w.heap.size, 5, none⟩ = some (.int .i64 fl) := (HKT.out.below HB2.out HKT.out.lt).cell 5
    have uu6 : w2.cell? ⟨w.heap.size, 6, none⟩ = some (.slice S2 m2 k2) := (HKT.out.below HB2.out HKT.out.lt).cell 6
    have uu7 : w2.cell? ⟨w.heap.size, 7, none⟩ = some (.slice S3 m3 k3) := (HKT.out.below HB2.out HKT.out.lt).cell 7
    have uu8 : w2.cell? ⟨w.heap.size, 8, none⟩ = some (.slice S4 m4 k4) := (HKT.out.below HB2.out HKT.out.lt).cell 8
    have uu9 : w2.cell? ⟨w.heap.size, 9, none⟩ = some (.slice S5 m5 k5) := (HKT.out.below HB2.out HKT.out.lt).cell 9
    have uu10 : w2.cell? ⟨w.heap.size, 10, none⟩ = some (.slice S6 m6 k6) := (HKT.out.below HB2.out HKT.out.lt).cell 10
    have uu11 : w2.cell? ⟨w.heap.size, 11, none⟩ = some (.slice S7 m7 k7) := (HKT.out.below HB2.out HKT.out.lt).cell 11
    have uu12 : w2.cell? ⟨w.heap.size, 12, none⟩ = some (.slice S8 m8 k8) := (HKT.out.below HB2.out HKT.out.lt).cell 12
    have uu13 : w2.cell? ⟨w.heap.size, 13, none⟩ = some (.slice S9 m9 k9) := (HKT.out.below HB2.out HKT.out.lt).cell 13
    have uu14 : w2.cell? ⟨w.heap.size, 14, none⟩ = some (.slice S10 m10 k10) := (HKT.out.below HB2.out HKT.out.lt).cell 14
    go_wp2_with fail
    refine (HR.out w2 HBF.out).mono ?_
    rintro f w3 ⟨rfl, hb3⟩
    go_wp2_with fail
    go_ret
    rw [E1.out]
    exact ⟨rfl, HBF.out.trans (hb3.mono HBF.out.size)⟩
  · have t1e : ¬ (d : Int) ≤ 32 := by omega
    have E1 : Hid ((decide (d ≤ 32) && q) = false) := Lib.hid (by rw [decide_eq_false h32, Bool.false_and])
    clear h32
    go_wp2_with fail
    go_ret
    rw [E1.out]
    exact ⟨rfl, HBF.out⟩

end

section
open Go.RowKit
set_option linter.unusedSimpArgs false
set_option linter.unusedVariables false

theorem boundSs_all (t : TB) (loc : Int) : ∀ l : List SL, boundSs t loc l = l.all (boundS t loc) := by
  intro l
  induction l with
  | nil => unfold boundSs; rfl
  | cons x r ih => rw [boundSs_cons, ih, List.all_cons]

/-- what a statement of a book needs, but its Args and its lists -/
def headBS (t : TB) (loc : Int) (s : SL) : Bool := (shapeS s).1 && thereS t loc s && (decide (s.kind ≠ 19) || decide ((s.args[0]?.getD nilE).kind = 18))
theorem boundS_head (t : TB) (loc : Int) (s : SL) : boundS t loc s = (headBS t loc s && s.args.all (boundE t loc (decide (s.kind = 1))) && boundBl t loc s.body && boundBl t loc s.els) := by
  rw [boundS_eq]
  unfold okBS headBS boundBl
  rfl

/-- what boundBlock does, at a list of statements -/
def BoundL (T : TV) (loc : Int) (ss : List SL) : Prop := ∀ (A : Option Addr) (n c : Nat) (w : World), T.In w w.heap.size → RowS6 w w.heap.size A n ss → SL.Ins w w.heap.size ss →
    Calls Try.prog 47 #[T.val, .slice A n c, .int .i64 loc] w fun f w' => f = .returned (.bool (boundBl T.tb loc ss)) ∧ Below w.heap.size w w'

set_option maxRecDepth 100000 in
set_option maxHeartbeats 6400000 in
theorem r10boundBlock_of (T : TV) (loc : Int) (hl : -9223372036854775808 ≤ loc ∧ loc ≤ 9223372036854775807) (ss : List SL) (hS : ∀ x ∈ ss, BoundL T loc x.body ∧ BoundL T loc x.els) : BoundL T loc ss := by
  intro A n c w hT hA hAi
  have hn := hA.1
  have hn9 := hA.2.1
  have HL := Lib.hid hn
  have HR := Lib.hid hA
  have HA := Lib.hid hAi
  have hTW : ∀ W : World, Below w.heap.size w W → T.In W W.heap.size := fun W hb => (hT.below hb).more hb.size
  have hbd : ∀ (said : Bool) (e : EL) (W : World), Below w.heap.size w W → e.In W W.heap.size → Calls Try.prog 45 #[T.val, eVal e, .int .i64 loc, .bool said] W fun f w' => f = .returned (.bool (boundE T.tb loc said e)) ∧ Below W.heap.size W w' := fun said e W hb hi => r10bound_any T loc e said W (hTW W hb) hi
  have hth : ∀ (s : SL) (W : World), Below w.heap.size w W → Calls Try.prog 76 #[T.val, sVal s, .int .i64 loc] W fun f w' => f = .returned (.bool (thereS T.tb loc s)) ∧ Below W.heap.size W w' := fun s W hb => r10there_any T loc hl s W (hTW W hb)
  have hS' : ∀ x ∈ ss, (∀ (A : Option Addr) (n c : Nat) (W : World), Below w.heap.size w W → RowS6 W W.heap.size A n x.body → SL.Ins W W.heap.size x.body →
    Calls Try.prog 47 #[T.val, .slice A n c, .int .i64 loc] W fun f w' => f = .returned (.bool (boundBl T.tb loc x.body)) ∧ Below W.heap.size W w') ∧ (∀ (A : Option Addr) (n c : Nat) (W : World), Below w.heap.size w W → RowS6 W W.heap.size A n x.els → SL.Ins W W.heap.size x.els →
    Calls Try.prog 47 #[T.val, .slice A n c, .int .i64 loc] W fun f w' => f = .returned (.bool (boundBl T.tb loc x.els)) ∧ Below W.heap.size W w') := fun x hx =>
    ⟨fun A n c W hb h1 h2 => (hS x hx).1 A n c W (hTW W hb) h1 h2, fun A n c W hb h1 h2 => (hS x hx).2 A n c W (hTW W hb) h1 h2⟩
  obtain ⟨tb, htb⟩ : ∃ tb, tb = T.tb := ⟨_, rfl⟩
  rw [← htb] at hbd hth hS' ⊢
  obtain ⟨t1, t2, t3, t4, S1, m1, k1, fl, S2, m2, k2, S3, m3, k3, S4, m4, k4, S5, m5, k5, S6, m6, k6, S7, m7, k7, S8, m8, k8, S9, m9, k9, S10, m10, k10, fs, ps⟩ := T
  have hbd' : ∀ (said : Bool) (e : EL) (W : World), Below w.heap.size w W → e.In W W.heap.size → Calls Try.prog 45 #[.agg #[.int .i64 t1, .int .i64 t2, .int .i64 t3, .int .i64 t4, .slice S1 m1 k1, .int .i64 fl, .slice S2 m2 k2, .slice S3 m3 k3, .slice S4 m4 k4, .slice S5 m5 k5, .slice S6 m6 k6, .slice S7 m7 k7, .slice S8 m8 k8, .slice S9 m9 k9, .slice S10 m10 k10], eVal e, .int .i64 loc, .bool said] W fun f w' => f = .returned (.bool (boundE tb loc said e)) ∧ Below W.heap.size W w' := hbd
  have hth' : ∀ (s : SL) (W : World), Below w.heap.size w W → Calls Try.prog 76 #[.agg #[.int .i64 t1, .int .i64 t2, .int .i64 t3, .int .i64 t4, .slice S1 m1 k1, .int .i64 fl, .slice S2 m2 k2, .slice S3 m3 k3, .slice S4 m4 k4, .slice S5 m5 k5, .slice S6 m6 k6, .slice S7 m7 k7, .slice S8 m8 k8, .slice S9 m9 k9, .slice S10 m10 k10], sVal s, .int .i64 loc] W fun f w' => f = .returned (.bool (thereS tb loc s)) ∧ Below W.heap.size W w' := hth
  have hS2 : ∀ x ∈ ss, (∀ (A : Option Addr) (n c : Nat) (W : World), Below w.heap.size w W → RowS6 W W.heap.size A n x.body → SL.Ins W W.heap.size x.body →
    Calls Try.prog 47 #[.agg #[.int .i64 t1, .int .i64 t2, .int .i64 t3, .int .i64 t4, .slice S1 m1 k1, .int .i64 fl, .slice S2 m2 k2, .slice S3 m3 k3, .slice S4 m4 k4, .slice S5 m5 k5, .slice S6 m6 k6, .slice S7 m7 k7, .slice S8 m8 k8, .slice S9 m9 k9, .slice S10 m10 k10], .slice A n c, .int .i64 loc] W fun f w' => f = .returned (.bool (boundBl tb loc x.body)) ∧ Below W.heap.size W w') ∧ (∀ (A : Option Addr) (n c : Nat) (W : World), Below w.heap.size w W → RowS6 W W.heap.size A n x.els → SL.Ins W W.heap.size x.els →
    Calls Try.prog 47 #[.agg #[.int .i64 t1, .int .i64 t2, .int .i64 t3, .int .i64 t4, .slice S1 m1 k1, .int .i64 fl, .slice S2 m2 k2, .slice S3 m3 k3, .slice S4 m4 k4, .slice S5 m5 k5, .slice S6 m6 k6, .slice S7 m7 k7, .slice S8 m8 k8, .slice S9 m9 k9, .slice S10 m10 k10], .slice A n c, .int .i64 loc] W fun f w' => f = .returned (.bool (boundBl tb loc x.els)) ∧ Below W.heap.size W w') := hS'
  have HBD := Lib.hid hbd'
  have HTHE := Lib.hid hth'
  have HS := Lib.hid hS2
  obtain ⟨W, hW⟩ : ∃ W, W = w.alloc (.cells #[.int .i64 t1, .int .i64 t2, .int .i64 t3, .int .i64 t4, .slice S1 m1 k1, .int .i64 fl, .slice S2 m2 k2, .slice S3 m3 k3, .slice S4 m4 k4, .slice S5 m5 k5, .slice S6 m6 k6, .slice S7 m7 k7, .slice S8 m8 k8, .slice S9 m9 k9, .slice S10 m10 k10] 28) := ⟨_, rfl⟩
  have HBW : Hid (Below w.heap.size w W) := Lib.hid (by rw [hW]; exact (Below.refl _ _).alloc (Nat.le_refl _) _)
  obtain ⟨gt, hgt⟩ : ∃ gt, gt = w.heap.size := ⟨_, rfl⟩
  have HKT : Hid (Blk W gt 28 #[.int .i64 t1, .int .i64 t2, .int .i64 t3, .int .i64 t4, .slice S1 m1 k1, .int .i64 fl, .slice S2 m2 k2, .slice S3 m3 k3, .slice S4 m4 k4, .slice S5 m5 k5, .slice S6 m6 k6, .slice S7 m7 k7, .slice S8 m8 k8, .slice S9 m9 k9, .slice S10 m10 k10]) := Lib.hid (by rw [hW, hgt]; exact Blk.new _ _ _)
  show Calls Try.prog _ #[.agg #[.int .i64 t1, .int .i64 t2, .int .i64 t3, .int .i64 t4, .slice S1 m1 k1, .int .i64 fl, .slice S2 m2 k2, .slice S3 m3 k3, .slice S4 m4 k4, .slice S5 m5 k5, .slice S6 m6 k6, .slice S7 m7 k7, .slice S8 m8 k8, .slice S9 m9 k9, .slice S10 m10 k10], .slice A n c, .int .i64 loc] w fun f w' => f = .returned (.bool (boundBl tb loc ss)) ∧ Below w.heap.size w w'
  clear hn hA hAi hS hS' hS2 hbd hbd' hth hth' hTW hT htb hl
  go_enter Try.func47, Try.ntmps47
  go_wp2_with fail
  rw [← hW, ← hgt]
  clear hW hgt
  go_loopw [15] (fun vj wr => ∃ j : Nat, j ≤ n ∧ vj = .int .i64 j ∧ Hid (∀ i, i < j → boundS tb loc (ss[i]?.getD nilS) = true) ∧ Hid (Below W.heap.size W wr)) (fun vj _ => n - (intOf vj).toNat)
  case atStart => exact ⟨0, Nat.zero_le _, rfl, Lib.hid (fun i hi => absurd hi (Nat.not_lt_zero _)), Lib.hid (Below.refl _ _)⟩
  case round =>
    obtain ⟨j, hj, rfl, HSO, HBW2⟩ := hrel
    have HBR := Lib.hid (HBW.out.trans (HBW2.out.mono HBW.out.size))
    by_cases hlt : j < n
    · have hjl : j < ss.length := by rw [HL.out]; exact hlt
      have HJL := Lib.hid hjl
      clear hjl
      have hxjl : j < ss.length := by rw [HL.out]; exact hlt
      obtain ⟨xad, rfl, xab, xc⟩ := rowS_at (HR.out.below HBR.out) hlt
      have hx := HA.out.at hxjl
      have hxmem : (ss[j]?.getD nilS) ∈ ss := by rw [List.getElem?_eq_getElem hxjl]; exact List.getElem_mem _
      obtain ⟨x, hxe⟩ : ∃ x, x = ss[j]?.getD nilS := ⟨_, rfl⟩
      obtain ⟨a0, a1, a2, a3, a4, a5⟩ := xc x hxe
      rw [← hxe] at hx hxmem
      have HXx := Lib.hid hx
      have HEx := Lib.hid hxe
      have HMx := Lib.hid hxmem
      obtain ⟨hxp, hxq1, hxq2⟩ := hx.parts
      obtain ⟨hxs1, hxs2⟩ := HS.out _ hxmem
      obtain ⟨xk, xm, xs, xA, xn, xc', xes, xA1, xn1, xc1, xbo, xA2, xn2, xc2, xel⟩ := x
      change wr.cell? (xad.add (j * 6)) = some (.int .i64 xk) at a0
      change wr.cell? ⟨(xad.add (j * 6)).block, (xad.add (j * 6)).off + 1, none⟩ = some (.int .i64 xm) at a1
      change wr.cell? ⟨(xad.add (j * 6)).block, (xad.add (j * 6)).off + 2, none⟩ = some (.string (bs xs)) at a2
      change wr.cell? ⟨(xad.add (j * 6)).block, (xad.add (j * 6)).off + 3, none⟩ = some (.slice xA xn xc') at a3
      change wr.cell? ⟨(xad.add (j * 6)).block, (xad.add (j * 6)).off + 4, none⟩ = some (.slice xA1 xn1 xc1) at a4
      change wr.cell? ⟨(xad.add (j * 6)).block, (xad.add (j * 6)).off + 5, none⟩ = some (.slice xA2 xn2 xc2) at a5
      clear xc hxe hx hxmem hxjl
      have hxr0 : RowE w w.heap.size xA xn xes := hxp.2.2.1.1
      have hxi0 : EL.Ins w w.heap.size xes := hxp.2.2.1.2
      have hxr1 : RowS6 w w.heap.size xA1 xn1 xbo := hxp.2.2.2.1
      have hxr2 : RowS6 w w.heap.size xA2 xn2 xel := hxp.2.2.2.2
      have hxl : xes.length = xn := hxr0.1
      have hxn9 : (xn : Int) ≤ 9223372036854775807 := hxr0.2.1
      have hsh : ∀ W : World, Below wr.heap.size wr W → Calls Try.prog 75 #[.agg #[.int .i64 xk, .int .i64 xm, .string (bs xs), .slice xA xn xc', .slice xA1 xn1 xc1, .slice xA2 xn2 xc2]] W fun f w' => f = .returned (.tuple #[.bool (shapeS (.mk xk xm xs xA xn xc' xes xA1 xn1 xc1 xbo xA2 xn2 xc2 xel)).1, .bool (shapeS (.mk xk xm xs xA xn xc' xes xA1 xn1 xc1 xbo xA2 xn2 xc2 xel)).2]) ∧ Below W.heap.size W w' := fun W hb => by
        have h1 := HBR.out.trans (hb.mono HBR.out.size)
        exact r10shape_any (.mk xk xm xs xA xn xc' xes xA1 xn1 xc1 xbo xA2 xn2 xc2 xel) W ((RowE.below hxr0 h1).more h1.size) ((RowS6.below hxr1 h1).more h1.size) ((RowS6.below hxr2 h1).more h1.size)
      have hthx : ∀ W : World, Below wr.heap.size wr W → Calls Try.prog 76 #[.agg #[.int .i64 t1, .int .i64 t2, .int .i64 t3, .int .i64 t4, .slice S1 m1 k1, .int .i64 fl, .slice S2 m2 k2, .slice S3 m3 k3, .slice S4 m4 k4, .slice S5 m5 k5, .slice S6 m6 k6, .slice S7 m7 k7, .slice S8 m8 k8, .slice S9 m9 k9, .slice S10 m10 k10], .agg #[.int .i64 xk, .int .i64 xm, .string (bs xs), .slice xA xn xc', .slice xA1 xn1 xc1, .slice xA2 xn2 xc2], .int .i64 loc] W fun f w' => f = .returned (.bool (thereS tb loc (.mk xk xm xs xA xn xc' xes xA1 xn1 xc1 xbo xA2 xn2 xc2 xel))) ∧ Below W.heap.size W w' := fun W hb => HTHE.out (.mk xk xm xs xA xn xc' xes xA1 xn1 xc1 xbo xA2 xn2 xc2 xel) W (HBR.out.trans (hb.mono HBR.out.size))
      have hcb : ∀ W : World, Below wr.heap.size wr W → Calls Try.prog 47 #[.agg #[.int .i64 t1, .int .i64 t2, .int .i64 t3, .int .i64 t4, .slice S1 m1 k1, .int .i64 fl, .slice S2 m2 k2, .slice S3 m3 k3, .slice S4 m4 k4, .slice S5 m5 k5, .slice S6 m6 k6, .slice S7 m7 k7, .slice S8 m8 k8, .slice S9 m9 k9, .slice S10 m10 k10], .slice xA1 xn1 xc1, .int .i64 loc] W fun f w' => f = .returned (.bool (boundBl tb loc xbo)) ∧ Below W.heap.size W w' := fun W hb => by
        have h1 := HBR.out.trans (hb.mono HBR.out.size)
        exact hxs1 xA1 xn1 xc1 W h1 ((RowS6.below hxr1 h1).more h1.size) ((SL.Ins.below hxq1 h1).more h1.size)
      have hce : ∀ W : World, Below wr.heap.size wr W → Calls Try.prog 47 #[.agg #[.int .i64 t1, .int .i64 t2, .int .i64 t3, .int .i64 t4, .slice S1 m1 k1, .int .i64 fl, .slice S2 m2 k2, .slice S3 m3 k3, .slice S4 m4 k4, .slice S5 m5 k5, .slice S6 m6 k6, .slice S7 m7 k7, .slice S8 m8 k8, .slice S9 m9 k9, .slice S10 m10 k10], .slice xA2 xn2 xc2, .int .i64 loc] W fun f w' => f = .returned (.bool (boundBl tb loc xel)) ∧ Below W.heap.size W w' := fun W hb => by
        have h1 := HBR.out.trans (hb.mono HBR.out.size)
        exact hxs2 xA2 xn2 xc2 W h1 ((RowS6.below hxr2 h1).more h1.size) ((SL.Ins.below hxq2 h1).more h1.size)
      obtain ⟨p1, hp1⟩ : ∃ p, p = (shapeS (.mk xk xm xs xA xn xc' xes xA1 xn1 xc1 xbo xA2 xn2 xc2 xel)).1 := ⟨_, rfl⟩
      obtain ⟨p2, hp2⟩ : ∃ p, p = (shapeS (.mk xk xm xs xA xn xc' xes xA1 xn1 xc1 xbo xA2 xn2 xc2 xel)).2 := ⟨_, rfl⟩
      obtain ⟨q, hq⟩ : ∃ q, q = thereS tb loc (.mk xk xm xs xA xn xc' xes xA1 xn1 xc1 xbo xA2 xn2 xc2 xel) := ⟨_, rfl⟩
      obtain ⟨b1, hb1⟩ : ∃ b, b = boundBl tb loc xbo := ⟨_, rfl⟩
      obtain ⟨b2, hb2⟩ : ∃ b, b = boundBl tb loc xel := ⟨_, rfl⟩
      obtain ⟨bad, hg⟩ : ∃ g, g = !(p1 && q && (decide (xk ≠ 19) || decide ((xes[0]?.getD nilE).kind = 18))) := ⟨_, rfl⟩
      have hhd : headBS tb loc (.mk xk xm xs xA xn xc' xes xA1 xn1 xc1 xbo xA2 xn2 xc2 xel) = !bad := by rw [hg, Bool.not_not, hp1, hq]; rfl
      have hrs : boundS tb loc (.mk xk xm xs xA xn xc' xes xA1 xn1 xc1 xbo xA2 xn2 xc2 xel) = (!bad && xes.all (boundE tb loc (decide (xk = 1))) && b1 && b2) := by rw [boundS_head, hhd, hb1, hb2]; rfl
      rw [← hp1, ← hp2] at hsh
      rw [← hq] at hthx
      rw [← hb1] at hcb
      rw [← hb2] at hce
      have HSH := Lib.hid hsh
      have HTH := Lib.hid hthx
      have HCB := Lib.hid hcb
      have HCE := Lib.hid hce
      have HP1 := Lib.hid hp1
      have HG := Lib.hid hg
      have HRS := Lib.hid hrs
      have HXR := Lib.hid hxr0
      have HXI := Lib.hid hxi0
      have HXL := Lib.hid hxl
      have HNO : Hid (boundS tb loc (.mk xk xm xs xA xn xc' xes xA1 xn1 xc1 xbo xA2 xn2 xc2 xel) = false → boundBl tb loc ss = false) := Lib.hid (fun h => by
        unfold boundBl
        rw [boundSs_all, all_no (d := nilS) (j := j) HJL.out (by rw [← HEx.out]; exact h), Bool.false_and])
      clear hsh hthx hcb hce hp1 hp2 hq hb1 hb2 hg hhd hrs hxp hxq1 hxq2 hxs1 hxs2 hxr0 hxi0 hxr1 hxr2 hxl
      obtain ⟨gs, hgs⟩ : ∃ gs, gs = wr.heap.size := ⟨_, rfl⟩
      go_wp2_with (refine wpList_store_row rfl 48 _ _ rfl wr.heap.size #[.int .i64 xk, .int .i64 xm, .string (bs xs), .slice xA xn xc', .slice xA1 xn1 xc1, .slice xA2 xn2 xc2] rfl rfl _ _ (Blk.new wr _ _) stmt_size rfl (stmt_one _ _ _ _ _ _ _ _ _ _ _ _) ?_; obtain ⟨V, hV⟩ : ∃ V0, V0 = (wr.alloc (.cells #[.int .i64 0, .int .i64 0, .string ⟨#[]⟩, .slice none 0 0, .slice none 0 0, .slice none 0 0] 48)).setRow wr.heap.size #[.int .i64 xk, .int .i64 xm, .string (bs xs), .slice xA xn xc', .slice xA1 xn1 xc1, .slice xA2 xn2 xc2] := ⟨_, rfl⟩; rw [← hV]; obtain ⟨hkV, hbV⟩ := put_row hV; have HKV := Lib.hid hkV; have HBV := Lib.hid hbV; clear hV hkV hbV; have v0 : V.cell? ⟨wr.heap.size, 0, none⟩ = some (.int .i64 xk) := HKV.out.cell 0; have v1 : V.cell? ⟨wr.heap.size, 1, none⟩ = some (.int .i64 xm) := HKV.out.cell 1; have v2 : V.cell? ⟨wr.heap.size, 2, none⟩ = some (.string (bs xs)) := HKV.out.cell 2; have v3 : V.cell? ⟨wr.heap.size, 3, none⟩ = some (.slice xA xn xc') := HKV.out.cell 3; have v4 : V.cell? ⟨wr.heap.size, 4, none⟩ = some (.slice xA1 xn1 xc1) := HKV.out.cell 4; have v5 : V.cell? ⟨wr.heap.size, 5, none⟩ = some (.slice xA2 xn2 xc2) := HKV.out.cell 5)
      clear v0 v1 v2 v3 v4 v5
      have HK : Hid (Blk V gs 48 #[.int .i64 xk, .int .i64 xm, .string (bs xs), .slice xA xn xc', .slice xA1 xn1 xc1, .slice xA2 xn2 xc2]) := Lib.hid (by rw [hgs]; exact HKV.out)
      rw [← hgs]
      clear hgs HKV a0 a1 a2 a3 a4 a5
      refine (HSH.out V HBV.out).mono ?_
      rintro f U ⟨rfl, hbu⟩
      have HBV2 : Hid (Below V.heap.size V U) := Lib.hid hbu
      have HBU0 := Lib.hid (HBV.out.trans (HBV2.out.mono HBV.out.size))
      have HBU := Lib.hid (HBR.out.trans (HBU0.out.mono HBR.out.size))
      have HWU := Lib.hid (HBW2.out.trans (HBU0.out.mono HBW2.out.size))
      clear hbu
      go_upto_region 5 with fail
      have kk0 : U.cell? ⟨gs, 0, none⟩ = some (.int .i64 xk) := held_cells HK.out HBV2.out 0
      have kk1 : U.cell? ⟨gs, 1, none⟩ = some (.int .i64 xm) := held_cells HK.out HBV2.out 1
      have kk2 : U.cell? ⟨gs, 2, none⟩ = some (.string (bs xs)) := held_cells HK.out HBV2.out 2
      have kk3 : U.cell? ⟨gs, 3, none⟩ = some (.slice xA xn xc') := held_cells HK.out HBV2.out 3
      have kk4 : U.cell? ⟨gs, 4, none⟩ = some (.slice xA1 xn1 xc1) := held_cells HK.out HBV2.out 4
      have kk5 : U.cell? ⟨gs, 5, none⟩ = some (.slice xA2 xn2 xc2) := held_cells HK.out HBV2.out 5
      go_cut [45] from 24 to 44 (fun v wx => v = .bool bad ∧ Below U.heap.size U wx)
      case first =>
        cases p1 with
        | false =>
          have e1 : bad = true := by rw [HG.out]; simp [Bool.false_and]
          have HE1 := Lib.hid e1
          clear e1
          go_wp2_with fail
          go_meet
          case rel => exact ⟨by rw [HE1.out] <;> rfl, Below.refl _ _⟩
        | true =>
          have HS1 : Hid (xk = 19 → xes.length = 1) := Lib.hid (fun h => shape_call (s := (.mk xk xm xs xA xn xc' xes xA1 xn1 xc1 xbo xA2 xn2 xc2 xel)) (by rw [← HP1.out]) h)
          have u0 : U.cell? ⟨gt, 0, none⟩ = some (.int .i64 t1) := (HKT.out.below HWU.out HKT.out.lt).cell 0
          have u1 : U.cell? ⟨gt, 1, none⟩ = some (.int .i64 t2) := (HKT.out.below HWU.out HKT.out.lt).cell 1
          have u2 : U.cell? ⟨gt, 2, none⟩ = some (.int .i64 t3) := (HKT.out.below HWU.out HKT.out.lt).cell 2
          have u3 : U.cell? ⟨gt, 3, none⟩ = some (.int .i64 t4) := (HKT.out.below HWU.out HKT.out.lt).cell 3
          have u4 : U.cell? ⟨gt, 4, none⟩ = some (.slice S1 m1 k1) := (HKT.out.below HWU.out HKT.out.lt).cell 4
          have u5 : U.cell? ⟨gt, 5, none⟩ = some (.int .i64 fl) := (HKT.out.below HWU.out HKT.out.lt).cell 5
          have u6 : U.cell? ⟨gt, 6, none⟩ = some (.slice S2 m2 k2) := (HKT.out.below HWU.out HKT.out.lt).cell 6
          have u7 : U.cell? ⟨gt, 7, none⟩ = some (.slice S3 m3 k3) := (HKT.out.below HWU.out HKT.out.lt).cell 7
          have u8 : U.cell? ⟨gt, 8, none⟩ = some (.slice S4 m4 k4) := (HKT.out.below HWU.out HKT.out.lt).cell 8
          have u9 : U.cell? ⟨gt, 9, none⟩ = some (.slice S5 m5 k5) := (HKT.out.below HWU.out HKT.out.lt).cell 9
          have u10 : U.cell? ⟨gt, 10, none⟩ = some (.slice S6 m6 k6) := (HKT.out.below HWU.out HKT.out.lt).cell 10
          have u11 : U.cell? ⟨gt, 11, none⟩ = some (.slice S7 m7 k7) := (HKT.out.below HWU.out HKT.out.lt).cell 11
          have u12 : U.cell? ⟨gt, 12, none⟩ = some (.slice S8 m8 k8) := (HKT.out.below HWU.out HKT.out.lt).cell 12
          have u13 : U.cell? ⟨gt, 13, none⟩ = some (.slice S9 m9 k9) := (HKT.out.below HWU.out HKT.out.lt).cell 13
          have u14 : U.cell? ⟨gt, 14, none⟩ = some (.slice S10 m10 k10) := (HKT.out.below HWU.out HKT.out.lt).cell 14
          go_wp2_with fail
          refine (HTH.out U HBU0.out).mono ?_
          rintro f w3 ⟨rfl, hb3⟩
          have HB3 : Hid (Below U.heap.size U w3) := Lib.hid hb3
          clear hb3 kk0 kk1 kk2 kk3 kk4 kk5
          clear u0 u1 u2 u3 u4 u5 u6 u7 u8 u9 u10 u11 u12 u13 u14
          cases q with
          | false =>
            have e1 : bad = true := by rw [HG.out]; simp [Bool.and_false, Bool.false_and]
            have HE1 := Lib.hid e1
            clear e1
            go_wp2_with fail
            go_meet
            case rel => exact ⟨by rw [HE1.out] <;> rfl, HB3.out⟩
          | true =>
            have HV3 := Lib.hid (HBV2.out.trans (HB3.out.mono HBV2.out.size))
            have HU3 := Lib.hid (HBU.out.trans (HB3.out.mono HBU.out.size))
            have l0 : w3.cell? ⟨gs, 0, none⟩ = some (.int .i64 xk) := held_cells HK.out HV3.out 0
            have l3 : w3.cell? ⟨gs, 3, none⟩ = some (.slice xA xn xc') := held_cells HK.out HV3.out 3
            by_cases h19 : xk = 19
            · have t19 : (xk == 19) = true := by rw [beq_iff_eq]; exact h19
              have hx1 := HS1.out h19
              have hx0 : 0 < xn := by have := HXL.out; omega
              obtain ⟨zad, hzA, zab, zc⟩ := row_at (HXR.out.below HU3.out) hx0
              obtain ⟨z, hze⟩ : ∃ z, z = xes[0]?.getD nilE := ⟨_, rfl⟩
              have z0 := (zc z hze).1
              obtain ⟨zk, hzk⟩ : ∃ zk, zk = z.kind := ⟨_, rfl⟩
              rw [← hzk, Nat.zero_mul, addr_zero] at z0
              have hz1 : (xes[0]?.getD nilE).kind = zk := by rw [← hze, hzk]
              have i0 : (0 : Int) < (xn : Int) := by omega
              subst hzA
              by_cases h9 : zk = 18
              · have t9 : (zk != 18) = false := by simpa using h9
                rw [← hz1] at h9
                clear zc hze hzk hz1 hx0 hx1
                have e1 : bad = false := by rw [HG.out]; simp [h19, h9]
                have HE1 := Lib.hid e1
                clear e1 h19 h9
                go_wp2_with fail
                go_meet
                case rel => exact ⟨by rw [HE1.out] <;> rfl, HB3.out⟩
              · have t9 : (zk != 18) = true := by rw [bne_iff_ne]; exact h9
                rw [← hz1] at h9
                clear zc hze hzk hz1 hx0 hx1
                have e1 : bad = true := by rw [HG.out]; simp [h19, h9]
                have HE1 := Lib.hid e1
                clear e1 h19 h9
                go_wp2_with fail
                go_meet
                case rel => exact ⟨by rw [HE1.out] <;> rfl, HB3.out⟩
            · have t19 : (xk == 19) = false := by rw [beq_eq_false_iff_ne]; exact h19
              have e1 : bad = false := by rw [HG.out]; simp [h19]
              have HE1 := Lib.hid e1
              clear e1 h19
              go_wp2_with fail
              go_meet
              case rel => exact ⟨by rw [HE1.out] <;> rfl, HB3.out⟩
      case rest =>
        obtain ⟨rfl, hbc⟩ := hcut
        have HBC := Lib.hid hbc
        have HVC := Lib.hid (HBV2.out.trans (HBC.out.mono HBV2.out.size))
        have HWC := Lib.hid (HBV.out.trans (HVC.out.mono HBV.out.size))
        have HCW := Lib.hid (HBR.out.trans (HWC.out.mono HBR.out.size))
        have HCW2 := Lib.hid (HBW2.out.trans (HWC.out.mono HBW2.out.size))
        clear kk0 kk1 kk2 kk3 kk4 kk5 hbc
        cases bad with
        | true =>
          have HE : Hid (boundBl tb loc ss = false) := Lib.hid (HNO.out (by rw [HRS.out]; rfl))
          go_wp2_with fail
          go_ret
          rw [HE.out]
          exact ⟨rfl, HCW.out⟩
        | false =>
          obtain ⟨said, hsaid⟩ : ∃ b, b = decide (xk = 1) := ⟨_, rfl⟩
          have tsaid : (xk == 1) = said := by rw [hsaid]; rfl
          rw [← hsaid] at HRS
          clear hsaid
          have kk3 : wc.cell? ⟨gs, 3, none⟩ = some (.slice xA xn xc') := held_cells HK.out HVC.out 3
          go_wp2_with fail
          go_loopw [49] (fun vi wr => ∃ i : Nat, i ≤ xn ∧ vi = .int .i64 i ∧ Hid (∀ i', i' < i → boundE tb loc said (xes[i']?.getD nilE) = true) ∧ Hid (Below wc.heap.size wc wr)) (fun vi _ => xn - (intOf vi).toNat)
          case atStart => exact ⟨0, Nat.zero_le _, rfl, Lib.hid (fun i hi => absurd hi (Nat.not_lt_zero _)), Lib.hid (Below.refl _ _)⟩
          case round =>
            obtain ⟨i, hi, rfl, HSI, HBI⟩ := hrel
            have HBI0 := Lib.hid (HCW.out.trans (HBI.out.mono HCW.out.size))
            have HIW := Lib.hid (HCW2.out.trans (HBI.out.mono HCW2.out.size))
            have HVI := Lib.hid (HVC.out.trans (HBI.out.mono HVC.out.size))
            by_cases hlt : i < xn
            · have hil : i < xes.length := by rw [HXL.out]; exact hlt
              have HIL := Lib.hid hil
              clear hil
              have hyjl : i < xes.length := by rw [HXL.out]; exact hlt
              obtain ⟨yad, rfl, yab, yc⟩ := row_at (HXR.out.below HBI0.out) hlt
              have hy := HXI.out.at hyjl
              have hymem : (xes[i]?.getD nilE) ∈ xes := by rw [List.getElem?_eq_getElem hyjl]; exact List.getElem_mem _
              obtain ⟨y, hye⟩ : ∃ x, x = xes[i]?.getD nilE := ⟨_, rfl⟩
              obtain ⟨b0, b1, b2, b3, b4⟩ := yc y hye
              rw [← hye] at hy hymem
              have HXy := Lib.hid hy
              have HEy := Lib.hid hye
              have HMy := Lib.hid hymem
              obtain ⟨yk, yo, ym, ys, yA, yn, yc', yes⟩ := y
              change wr.cell? (yad.add (i * 5)) = some (.int .i64 yk) at b0
              change wr.cell? ⟨(yad.add (i * 5)).block, (yad.add (i * 5)).off + 1, none⟩ = some (.int .i64 yo) at b1
              change wr.cell? ⟨(yad.add (i * 5)).block, (yad.add (i * 5)).off + 2, none⟩ = some (.int .i64 ym) at b2
              change wr.cell? ⟨(yad.add (i * 5)).block, (yad.add (i * 5)).off + 3, none⟩ = some (.string (bs ys)) at b3
              change wr.cell? ⟨(yad.add (i * 5)).block, (yad.add (i * 5)).off + 4, none⟩ = some (.slice yA yn yc') at b4
              clear yc hye hy hymem hyjl
              have hc := HBD.out said (.mk yk yo ym ys yA yn yc' yes)
              obtain ⟨r, hr⟩ : ∃ r, r = boundE tb loc said (.mk yk yo ym ys yA yn yc' yes) := ⟨_, rfl⟩
              rw [← hr] at hc
              have HC := Lib.hid hc
              have HR2 := Lib.hid hr
              clear hc hr
              go_wp2_with (refine wpList_store_row rfl 31 _ _ rfl wr.heap.size #[.int .i64 yk, .int .i64 yo, .int .i64 ym, .string (bs ys), .slice yA yn yc'] rfl rfl _ _ (Blk.new wr _ _) expr_size rfl (expr_one _ _ _ _ _ _ _) ?_; obtain ⟨V9, hV9⟩ : ∃ V0, V0 = (wr.alloc (.cells #[.int .i64 0, .int .i64 0, .int .i64 0, .string ⟨#[]⟩, .slice none 0 0] 31)).setRow wr.heap.size #[.int .i64 yk, .int .i64 yo, .int .i64 ym, .string (bs ys), .slice yA yn yc'] := ⟨_, rfl⟩; rw [← hV9]; obtain ⟨hkV9, hbV9⟩ := put_row hV9; have HKV9 := Lib.hid hkV9; have HBV9 := Lib.hid hbV9; clear hV9 hkV9 hbV9; have g0 : V9.cell? ⟨gs, 0, none⟩ = some (.int .i64 xk) := held_cells HK.out (HVI.out.trans (HBV9.out.mono HVI.out.size)) 0; have vv0 : V9.cell? ⟨wr.heap.size, 0, none⟩ = some (.int .i64 yk) := HKV9.out.cell 0; have vv1 : V9.cell? ⟨wr.heap.size, 1, none⟩ = some (.int .i64 yo) := HKV9.out.cell 1; have vv2 : V9.cell? ⟨wr.heap.size, 2, none⟩ = some (.int .i64 ym) := HKV9.out.cell 2; have vv3 : V9.cell? ⟨wr.heap.size, 3, none⟩ = some (.string (bs ys)) := HKV9.out.cell 3; have vv4 : V9.cell? ⟨wr.heap.size, 4, none⟩ = some (.slice yA yn yc') := HKV9.out.cell 4; have HTV9 := Lib.hid (HKT.out.below (HIW.out.trans (HBV9.out.mono HIW.out.size)) HKT.out.lt); have y0 : V9.cell? ⟨gt, 0, none⟩ = some (.int .i64 t1) := HTV9.out.cell 0; have y1 : V9.cell? ⟨gt, 1, none⟩ = some (.int .i64 t2) := HTV9.out.cell 1; have y2 : V9.cell? ⟨gt, 2, none⟩ = some (.int .i64 t3) := HTV9.out.cell 2; have y3 : V9.cell? ⟨gt, 3, none⟩ = some (.int .i64 t4) := HTV9.out.cell 3; have y4 : V9.cell? ⟨gt, 4, none⟩ = some (.slice S1 m1 k1) := HTV9.out.cell 4; have y5 : V9.cell? ⟨gt, 5, none⟩ = some (.int .i64 fl) := HTV9.out.cell 5; have y6 : V9.cell? ⟨gt, 6, none⟩ = some (.slice S2 m2 k2) := HTV9.out.cell 6; have y7 : V9.cell? ⟨gt, 7, none⟩ = some (.slice S3 m3 k3) := HTV9.out.cell 7; have y8 : V9.cell? ⟨gt, 8, none⟩ = some (.slice S4 m4 k4) := HTV9.out.cell 8; have y9 : V9.cell? ⟨gt, 9, none⟩ = some (.slice S5 m5 k5) := HTV9.out.cell 9; have y10 : V9.cell? ⟨gt, 10, none⟩ = some (.slice S6 m6 k6) := HTV9.out.cell 10; have y11 : V9.cell? ⟨gt, 11, none⟩ = some (.slice S7 m7 k7) := HTV9.out.cell 11; have y12 : V9.cell? ⟨gt, 12, none⟩ = some (.slice S8 m8 k8) := HTV9.out.cell 12; have y13 : V9.cell? ⟨gt, 13, none⟩ = some (.slice S9 m9 k9) := HTV9.out.cell 13; have y14 : V9.cell? ⟨gt, 14, none⟩ = some (.slice S10 m10 k10) := HTV9.out.cell 14)
              clear g0 vv0 vv1 vv2 vv3 vv4 y0 y1 y2 y3 y4 y5 y6 y7 y8 y9 y10 y11 y12 y13 y14
              have HBV9' := Lib.hid (HBI0.out.trans (HBV9.out.mono HBI0.out.size))
              refine (HC.out V9 HBV9'.out (EL.In.more HBV9'.out.size (HXy.out.below HBV9'.out))).mono ?_
              rintro f w2 ⟨rfl, hb2⟩
              have HB2 := Lib.hid (HBI.out.trans ((HBV9.out.trans (hb2.mono HBV9.out.size)).mono HBI.out.size))
              clear hb2
              cases r with
              | false =>
                have HE : Hid (boundBl tb loc ss = false) := Lib.hid (HNO.out (by
                  rw [HRS.out, all_no (d := nilE) (j := i) HIL.out (by rw [← HEy.out]; exact HR2.out.symm)]
                  rfl))
                have HBF := Lib.hid (HCW.out.trans (HB2.out.mono HCW.out.size))
                go_wp2_with fail
                go_ret
                rw [HE.out]
                exact ⟨rfl, HBF.out⟩
              | true =>
                have HN : Hid (∀ i', i' < i + 1 → boundE tb loc said (xes[i']?.getD nilE) = true) := Lib.hid (fun i' hi' => by
                  by_cases e : i' = i
                  · subst e; rw [← HEy.out]; exact HR2.out.symm
                  · exact HSI.out i' (by omega))
                go_wp2_with fail
                go_roundw
                case rel => exact ⟨i + 1, by omega, by go_num, HN, HB2⟩
                case measure => simp [intOf]; omega
            · obtain rfl : i = xn := by omega
              have HALL : Hid (boundS tb loc (.mk xk xm xs xA i xc' xes xA1 xn1 xc1 xbo xA2 xn2 xc2 xel) = (b1 && b2)) := Lib.hid (by
                rw [HRS.out, all_yes (d := nilE) (by rw [HXL.out]; exact HSI.out)]
                rfl)
              have kk4 : wr.cell? ⟨gs, 4, none⟩ = some (.slice xA1 xn1 xc1) := held_cells HK.out HVI.out 4
              have u0 : wr.cell? ⟨gt, 0, none⟩ = some (.int .i64 t1) := (HKT.out.below HIW.out HKT.out.lt).cell 0
              have u1 : wr.cell? ⟨gt, 1, none⟩ = some (.int .i64 t2) := (HKT.out.below HIW.out HKT.out.lt).cell 1
              have u2 : wr.cell? ⟨gt, 2, none⟩ = some (.int .i64 t3) := (HKT.out.below HIW.out HKT.out.lt).cell 2
              have u3 : wr.cell? ⟨gt, 3, none⟩ = some (.int .i64 t4) := (HKT.out.below HIW.out HKT.out.lt).cell 3
              have u4 : wr.cell? ⟨gt, 4, none⟩ = some (.slice S1 m1 k1) := (HKT.out.below HIW.out HKT.out.lt).cell 4
              have u5 : wr.cell? ⟨gt, 5, none⟩ = some (.int .i64 fl) := (HKT.out.below HIW.out HKT.out.lt).cell 5
              have u6 : wr.cell? ⟨gt, 6, none⟩ = some (.slice S2 m2 k2) := (HKT.out.below HIW.out HKT.out.lt).cell 6
              have u7 : wr.cell? ⟨gt, 7, none⟩ = some (.slice S3 m3 k3) := (HKT.out.below HIW.out HKT.out.lt).cell 7
              have u8 : wr.cell? ⟨gt, 8, none⟩ = some (.slice S4 m4 k4) := (HKT.out.below HIW.out HKT.out.lt).cell 8
              have u9 : wr.cell? ⟨gt, 9, none⟩ = some (.slice S5 m5 k5) := (HKT.out.below HIW.out HKT.out.lt).cell 9
              have u10 : wr.cell? ⟨gt, 10, none⟩ = some (.slice S6 m6 k6) := (HKT.out.below HIW.out HKT.out.lt).cell 10
              have u11 : wr.cell? ⟨gt, 11, none⟩ = some (.slice S7 m7 k7) := (HKT.out.below HIW.out HKT.out.lt).cell 11
              have u12 : wr.cell? ⟨gt, 12, none⟩ = some (.slice S8 m8 k8) := (HKT.out.below HIW.out HKT.out.lt).cell 12
              have u13 : wr.cell? ⟨gt, 13, none⟩ = some (.slice S9 m9 k9) := (HKT.out.below HIW.out HKT.out.lt).cell 13
              have u14 : wr.cell? ⟨gt, 14, none⟩ = some (.slice S10 m10 k10) := (HKT.out.below HIW.out HKT.out.lt).cell 14
              go_wp2_with fail
              clear u0 u1 u2 u3 u4 u5 u6 u7 u8 u9 u10 u11 u12 u13 u14
              refine (HCB.out wr (HWC.out.trans (HBI.out.mono HWC.out.size))).mono ?_
              rintro f w4 ⟨rfl, hb4⟩
              have HB4 := Lib.hid (HBI.out.trans (hb4.mono HBI.out.size))
              have HV4 := Lib.hid (HVC.out.trans (HB4.out.mono HVC.out.size))
              have HW4 := Lib.hid (HCW.out.trans (HB4.out.mono HCW.out.size))
              have HT4 := Lib.hid (HCW2.out.trans (HB4.out.mono HCW2.out.size))
              clear hb4
              cases b1 with
              | false =>
                have HE : Hid (boundBl tb loc ss = false) := Lib.hid (HNO.out (by rw [HALL.out]; rfl))
                go_wp2_with fail
                go_ret
                rw [HE.out]
                exact ⟨rfl, HW4.out⟩
              | true =>
                have l5 : w4.cell? ⟨gs, 5, none⟩ = some (.slice xA2 xn2 xc2) := held_cells HK.out HV4.out 5
                have u0 : w4.cell? ⟨gt, 0, none⟩ = some (.int .i64 t1) := (HKT.out.below HT4.out HKT.out.lt).cell 0
                have u1 : w4.cell? ⟨gt, 1, none⟩ = some (.int .i64 t2) := (HKT.out.below HT4.out HKT.out.lt).cell 1
                have u2 : w4.cell? ⟨gt, 2, none⟩ = some (.int .i64 t3) := (HKT.out.below HT4.out HKT.out.lt).cell 2
                have u3 : w4.cell? ⟨gt, 3, none⟩ = some (.int .i64 t4) := (HKT.out.below HT4.out HKT.out.lt).cell 3
                have u4 : w4.cell? ⟨gt, 4, none⟩ = some (.slice S1 m1 k1) := (HKT.out.below HT4.out HKT.out.lt).cell 4
                have u5 : w4.cell? ⟨gt, 5, none⟩ = some (.int .i64 fl) := (HKT.out.below HT4.out HKT.out.lt).cell 5
                have u6 : w4.cell? ⟨gt, 6, none⟩ = some (.slice S2 m2 k2) := (HKT.out.below HT4.out HKT.out.lt).cell 6
                have u7 : w4.cell? ⟨gt, 7, none⟩ = some (.slice S3 m3 k3) := (HKT.out.below HT4.out HKT.out.lt).cell 7
                have u8 : w4.cell? ⟨gt, 8, none⟩ = some (.slice S4 m4 k4) := (HKT.out.below HT4.out HKT.out.lt).cell 8
                have u9 : w4.cell? ⟨gt, 9, none⟩ = some (.slice S5 m5 k5) := (HKT.out.below HT4.out HKT.out.lt).cell 9
                have u10 : w4.cell? ⟨gt, 10, none⟩ = some (.slice S6 m6 k6) := (HKT.out.below HT4.out HKT.out.lt).cell 10
                have u11 : w4.cell? ⟨gt, 11, none⟩ = some (.slice S7 m7 k7) := (HKT.out.below HT4.out HKT.out.lt).cell 11
                have u12 : w4.cell? ⟨gt, 12, none⟩ = some (.slice S8 m8 k8) := (HKT.out.below HT4.out HKT.out.lt).cell 12
                have u13 : w4.cell? ⟨gt, 13, none⟩ = some (.slice S9 m9 k9) := (HKT.out.below HT4.out HKT.out.lt).cell 13
                have u14 : w4.cell? ⟨gt, 14, none⟩ = some (.slice S10 m10 k10) := (HKT.out.below HT4.out HKT.out.lt).cell 14
                go_wp2_with fail
                clear u0 u1 u2 u3 u4 u5 u6 u7 u8 u9 u10 u11 u12 u13 u14
                refine (HCE.out w4 (HWC.out.trans (HB4.out.mono HWC.out.size))).mono ?_
                rintro f w5 ⟨rfl, hb5⟩
                have HW5 := Lib.hid (HW4.out.trans (hb5.mono HW4.out.size))
                have HT5 := Lib.hid (HT4.out.trans (hb5.mono HT4.out.size))
                clear hb5
                cases b2 with
                | false =>
                  have HE : Hid (boundBl tb loc ss = false) := Lib.hid (HNO.out (by rw [HALL.out]; rfl))
                  go_wp2_with fail
                  go_ret
                  rw [HE.out]
                  exact ⟨rfl, HW5.out⟩
                | true =>
                  have HN : Hid (∀ i', i' < j + 1 → boundS tb loc (ss[i']?.getD nilS) = true) := Lib.hid (fun i' hi' => by
                    by_cases e : i' = j
                    · subst e; rw [← HEx.out, HALL.out]; rfl
                    · exact HSO.out i' (by omega))
                  go_wp2_with fail
                  go_roundw
                  case rel => exact ⟨j + 1, by omega, by go_num, HN, HT5⟩
                  case measure => simp [intOf]; omega
    · obtain rfl : j = n := by omega
      have HE : Hid (boundSs tb loc ss = true) := Lib.hid (by rw [boundSs_all]; exact all_yes (d := nilS) (by rw [HL.out]; exact HSO.out))
      have HF : Hid (boundBl tb loc ss = decide ((j : Int) ≤ 256)) := Lib.hid (by unfold boundBl; rw [HE.out, Bool.true_and, HL.out]; exact decide_eq_decide.2 (by omega))
      go_wp2_with fail
      go_ret
      rw [HF.out]
      exact ⟨rfl, HBR.out⟩

theorem boundL_all (T : TV) (loc : Int) (hl : -9223372036854775808 ≤ loc ∧ loc ≤ 9223372036854775807) : ∀ x : SL, BoundL T loc x.body ∧ BoundL T loc x.els := SL.ind fun s h1 h2 => ⟨r10boundBlock_of T loc hl s.body h1, r10boundBlock_of T loc hl s.els h2⟩
theorem r10boundBlock_any (T : TV) (loc : Int) (hl : -9223372036854775808 ≤ loc ∧ loc ≤ 9223372036854775807) (ss : List SL) : BoundL T loc ss := r10boundBlock_of T loc hl ss fun x _ => boundL_all T loc hl x

set_option maxRecDepth 100000 in
set_option maxHeartbeats 6400000 in
theorem r10BoundBlock_any (T : TV) (loc : Int) (hl : -9223372036854775808 ≤ loc ∧ loc ≤ 9223372036854775807) (ss : List SL) (A : Option Addr) (n c : Nat) (w : World) (hT : T.In w w.heap.size) (hrow : RowS6 w w.heap.size A n ss) (hins : SL.Ins w w.heap.size ss) :
    Calls Try.prog 22 #[T.val, .slice A n c, .int .i64 loc] w fun f w' => f = .returned (.bool (boundBs T.tb loc ss)) ∧ Below w.heap.size w w' := by
  have hc : ∀ W : World, Below w.heap.size w W → Calls Try.prog 46 #[.slice A n c] W fun f w' => f = .returned (.int .i64 ((min 65 (depSs ss) : Nat) : Int)) ∧ Below W.heap.size W w' := fun W hb => r10DepthBlock_any ss A n c W ((hrow.below hb).more hb.size) ((hins.below hb).more hb.size)
  have hr : ∀ W : World, Below w.heap.size w W → Calls Try.prog 47 #[T.val, .slice A n c, .int .i64 loc] W fun f w' => f = .returned (.bool (boundBl T.tb loc ss)) ∧ Below W.heap.size W w' := fun W hb => r10boundBlock_any T loc hl ss A n c W ((hT.below hb).more hb.size) ((hrow.below hb).more hb.size) ((hins.below hb).more hb.size)
  unfold boundBs
  obtain ⟨d, hd⟩ : ∃ d, d = min 65 (depSs ss) := ⟨_, rfl⟩
  have he : decide (depSs ss ≤ 32) = decide (d ≤ 32) := decide_eq_decide.2 (by omega)
  rw [he]
  obtain ⟨q, hq⟩ : ∃ q, q = boundBl T.tb loc ss := ⟨_, rfl⟩
  rw [← hq]
  rw [← hd] at hc
  rw [← hq] at hr
  clear he hd hq hrow hins hT hl
  obtain ⟨t1, t2, t3, t4, S1, m1, k1, fl, S2, m2, k2, S3, m3, k3, S4, m4, k4, S5, m5, k5, S6, m6, k6, S7, m7, k7, S8, m8, k8, S9, m9, k9, S10, m10, k10, fs, ps⟩ := T
  have hr' : ∀ W : World, Below w.heap.size w W → Calls Try.prog 47 #[.agg #[.int .i64 t1, .int .i64 t2, .int .i64 t3, .int .i64 t4, .slice S1 m1 k1, .int .i64 fl, .slice S2 m2 k2, .slice S3 m3 k3, .slice S4 m4 k4, .slice S5 m5 k5, .slice S6 m6 k6, .slice S7 m7 k7, .slice S8 m8 k8, .slice S9 m9 k9, .slice S10 m10 k10], .slice A n c, .int .i64 loc] W fun f w' => f = .returned (.bool q) ∧ Below W.heap.size W w' := hr
  have HC := Lib.hid hc
  have HR := Lib.hid hr'
  obtain ⟨W, hW⟩ : ∃ W, W = w.alloc (.cells #[.int .i64 t1, .int .i64 t2, .int .i64 t3, .int .i64 t4, .slice S1 m1 k1, .int .i64 fl, .slice S2 m2 k2, .slice S3 m3 k3, .slice S4 m4 k4, .slice S5 m5 k5, .slice S6 m6 k6, .slice S7 m7 k7, .slice S8 m8 k8, .slice S9 m9 k9, .slice S10 m10 k10] 28) := ⟨_, rfl⟩
  have HBW : Hid (Below w.heap.size w W) := Lib.hid (by rw [hW]; exact (Below.refl _ _).alloc (Nat.le_refl _) _)
  have HKT : Hid (Blk W w.heap.size 28 #[.int .i64 t1, .int .i64 t2, .int .i64 t3, .int .i64 t4, .slice S1 m1 k1, .int .i64 fl, .slice S2 m2 k2, .slice S3 m3 k3, .slice S4 m4 k4, .slice S5 m5 k5, .slice S6 m6 k6, .slice S7 m7 k7, .slice S8 m8 k8, .slice S9 m9 k9, .slice S10 m10 k10]) := Lib.hid (by rw [hW]; exact Blk.new _ _ _)
  show Calls Try.prog _ #[.agg #[.int .i64 t1, .int .i64 t2, .int .i64 t3, .int .i64 t4, .slice S1 m1 k1, .int .i64 fl, .slice S2 m2 k2, .slice S3 m3 k3, .slice S4 m4 k4, .slice S5 m5 k5, .slice S6 m6 k6, .slice S7 m7 k7, .slice S8 m8 k8, .slice S9 m9 k9, .slice S10 m10 k10], .slice A n c, .int .i64 loc] w _
  clear hc hr hr'
  go_enter Try.func22, Try.ntmps22
  go_wp2_with fail
  rw [← hW]
  clear hW
  refine (HC.out W HBW.out).mono ?_
  rintro f w2 ⟨rfl, hb2⟩
  have HB2 := Lib.hid hb2
  clear hb2
  have HBF := Lib.hid (HBW.out.trans (HB2.out.mono HBW.out.size))
  by_cases h32 : d ≤ 32
  · have t1e : (d : Int) ≤ 32 := by omega
    have E1 : Hid ((decide (d ≤ 32) && q) = q) := Lib.hid (by rw [decide_eq_true h32, Bool.true_and])
    clear h32
    have uu0 : w2.cell? ⟨w.heap.size, 0, none⟩ = some (.int .i64 t1) := (HKT.out.below HB2.out HKT.out.lt).cell 0
    have uu1 : w2.cell? ⟨w.heap.size, 1, none⟩ = some (.int .i64 t2) := (HKT.out.below HB2.out HKT.out.lt).cell 1
    have uu2 : w2.cell? ⟨w.heap.size, 2, none⟩ = some (.int .i64 t3) := (HKT.out.below HB2.out HKT.out.lt).cell 2
    have uu3 : w2.cell? ⟨w.heap.size, 3, none⟩ = some (.int .i64 t4) := (HKT.out.below HB2.out HKT.out.lt).cell 3
    have uu4 : w2.cell? ⟨w.heap.size, 4, none⟩ = some (.slice S1 m1 k1) := (HKT.out.below HB2.out HKT.out.lt).cell 4
    have uu5 : w2.cell? ⟨w.heap.size, 5, none⟩ = some (.int .i64 fl) := (HKT.out.below HB2.out HKT.out.lt).cell 5
    have uu6 : w2.cell? ⟨w.heap.size, 6, none⟩ = some (.slice S2 m2 k2) := (HKT.out.below HB2.out HKT.out.lt).cell 6
    have uu7 : w2.cell? ⟨w.heap.size, 7, none⟩ = some (.slice S3 m3 k3) := (HKT.out.below HB2.out HKT.out.lt).cell 7
    have uu8 : w2.cell? ⟨w.heap.size, 8, none⟩ = some (.slice S4 m4 k4) := (HKT.out.below HB2.out HKT.out.lt).cell 8
    have uu9 : w2.cell? ⟨w.heap.size, 9, none⟩ = some (.slice S5 m5 k5) := (HKT.out.below HB2.out HKT.out.lt).cell 9
    have uu10 : w2.cell? ⟨w.heap.size, 10, none⟩ = some (.slice S6 m6 k6) := (HKT.out.below HB2.out HKT.out.lt).cell 10
    have uu11 : w2.cell? ⟨w.heap.size, 11, none⟩ = some (.slice S7 m7 k7) := (HKT.out.below HB2.out HKT.out.lt).cell 11
    have uu12 : w2.cell? ⟨w.heap.size, 12, none⟩ = some (.slice S8 m8 k8) := (HKT.out.below HB2.out HKT.out.lt).cell 12
    have uu13 : w2.cell? ⟨w.heap.size, 13, none⟩ = some (.slice S9 m9 k9) := (HKT.out.below HB2.out HKT.out.lt).cell 13
    have uu14 : w2.cell? ⟨w.heap.size, 14, none⟩ = some (.slice S10 m10 k10) := (HKT.out.below HB2.out HKT.out.lt).cell 14
    go_wp2_with fail
    refine (HR.out w2 HBF.out).mono ?_
    rintro f w3 ⟨rfl, hb3⟩
    go_wp2_with fail
    go_ret
    rw [E1.out]
    exact ⟨rfl, HBF.out.trans (hb3.mono HBF.out.size)⟩
  · have t1e : ¬ (d : Int) ≤ 32 := by omega
    have E1 : Hid ((decide (d ≤ 32) && q) = false) := Lib.hid (by rw [decide_eq_false h32, Bool.false_and])
    clear h32
    go_wp2_with fail
    go_ret
    rw [E1.out]
    exact ⟨rfl, HBF.out⟩

end

section
open Go.RowKit
set_option linter.unusedVariables false
set_option linter.unusedSimpArgs false

theorem wrap64_addF (a b : Int) : wrap64 (wrap64 a + wrap64 b) = wrap64 (a + b) := by unfold wrap64; omega
theorem wrap64_addR (a b : Int) : wrap64 (a + wrap64 b) = wrap64 (a + b) := by unfold wrap64; omega
theorem wrap64_fourF (T Y Z : Int) : wrap64 (wrap64 T + wrap64 (wrap64 (1 + wrap64 Y) + wrap64 Z)) = wrap64 (T + (1 + Y + Z)) := by rw [wrap64_addR 1 Y, wrap64_addF (1 + Y) Z, wrap64_addF T (1 + Y + Z)]

set_option maxRecDepth 100000 in
set_option maxHeartbeats 6400000 in
theorem r10Size_w : ∀ (e : EL), ∀ w : World, e.In w w.heap.size →
    Calls Try.prog 19 #[eVal e] w fun f w' => f = .returned (.int .i64 (wrap64 ((sizeE e : Nat) : Int))) ∧ Below w.heap.size w w' := by
  refine EL.ind fun e ih w hin => ?_
  have hrow := hin.row
  have hargs := hin.args
  rw [sizeE_eq]
  obtain ⟨k, o, m, s, A, n, c, es⟩ := e
  have hn : es.length = n := hrow.1
  have hn9 : (n : Int) ≤ 9223372036854775807 := hrow.2.1
  have HR : Hid (RowE w w.heap.size A n es) := Lib.hid hrow
  have HA : Hid (EL.Ins w w.heap.size es) := Lib.hid hargs
  have HL := Lib.hid hn
  have ih' : ∀ x ∈ es, ∀ w : World, x.In w w.heap.size → Calls Try.prog 19 #[eVal x] w fun f w' => f = .returned (.int .i64 (wrap64 ((sizeE x : Nat) : Int))) ∧ Below w.heap.size w w' := ih
  have IH := Lib.hid ih'
  show Calls Try.prog _ #[.agg #[.int .i64 k, .int .i64 o, .int .i64 m, .string (bs s), .slice A n c]] w fun f w' => f = .returned (.int .i64 (wrap64 ((1 + sizeEs es : Nat) : Int))) ∧ Below w.heap.size w w'
  clear ih ih' hrow hargs hin hn
  obtain ⟨W, hW⟩ : ∃ W, W = w.alloc (.cells #[.int .i64 k, .int .i64 o, .int .i64 m, .string (bs s), .slice A n c] 31) := ⟨_, rfl⟩
  have HBW : Hid (Below w.heap.size w W) := Lib.hid (by rw [hW]; exact (Below.refl _ _).alloc (Nat.le_refl _) _)
  go_enter Try.func19, Try.ntmps19
  go_wp2_with fail
  rw [← hW]
  clear hW
  go_loopw [3, 9] (fun vn vi wr => ∃ j : Nat, j ≤ n ∧ vi = .int .i64 j ∧ vn = .int .i64 (wrap64 ((1 + sizeEs (es.take j) : Nat) : Int)) ∧ Hid (Below W.heap.size W wr)) (fun _ vi _ => n - (intOf vi).toNat)
  case atStart => exact ⟨0, Nat.zero_le _, rfl, by rw [List.take_zero]; unfold sizeEs; rw [show wrap64 ((1 + 0 : Nat) : Int) = 1 from by unfold wrap64; omega], Lib.hid (Below.refl _ _)⟩
  case round =>
    obtain ⟨j, hj, rfl, rfl, HB⟩ := hrel
    have HBR := Lib.hid (HBW.out.trans (HB.out.mono HBW.out.size))
    by_cases hlt : j < n
    · have hjl : j < es.length := by rw [HL.out]; exact hlt
      obtain ⟨ad, rfl, hab, hc⟩ := row_at (HR.out.below HBR.out) hlt
      have hx := HA.out.at hjl
      have hxs := sizeE_at hjl
      have hst := sizeEs_take hjl
      have htk : sizeEs (es.take (j + 1)) ≤ sizeEs es := by
        have := sizeEs_app (es.take (j + 1)) (es.drop (j + 1))
        rw [List.take_append_drop] at this
        omega
      have hmem : (es[j]?.getD nilE) ∈ es := by rw [List.getElem?_eq_getElem hjl]; exact List.getElem_mem _
      have HC := Lib.hid (IH.out _ hmem)
      obtain ⟨x, hxe⟩ : ∃ x, x = es[j]?.getD nilE := ⟨_, rfl⟩
      obtain ⟨a0, a1, a2, a3, a4⟩ := hc x hxe
      rw [← hxe] at hx hxs hst HC
      have HX := Lib.hid hx
      obtain ⟨t, ht⟩ : ∃ t, t = wrap64 ((1 + sizeEs (es.take j) : Nat) : Int) := ⟨_, rfl⟩
      rw [← ht]
      obtain ⟨z, hz⟩ : ∃ z, z = wrap64 ((sizeE x : Nat) : Int) := ⟨_, rfl⟩
      have HZ := Lib.hid hz
      have HFIN : Hid (wrap64 (t + z) = wrap64 ((1 + sizeEs (es.take (j + 1)) : Nat) : Int)) := Lib.hid (by rw [ht, hz, wrap64_addF, hst]; congr 1; omega)
      obtain ⟨xk, xo, xm, xs, xA, xn, xc, xas⟩ := x
      change wr.cell? (ad.add (j * 5)) = some (.int .i64 xk) at a0
      change wr.cell? ⟨(ad.add (j * 5)).block, (ad.add (j * 5)).off + 1, none⟩ = some (.int .i64 xo) at a1
      change wr.cell? ⟨(ad.add (j * 5)).block, (ad.add (j * 5)).off + 2, none⟩ = some (.int .i64 xm) at a2
      change wr.cell? ⟨(ad.add (j * 5)).block, (ad.add (j * 5)).off + 3, none⟩ = some (.string (bs xs)) at a3
      change wr.cell? ⟨(ad.add (j * 5)).block, (ad.add (j * 5)).off + 4, none⟩ = some (.slice xA xn xc) at a4
      clear hc hxe hst hxs htk hmem hx hz ht hjl
      go_wp2_with (first | (refine wpList_store_row rfl 31 _ _ rfl wr.heap.size #[.int .i64 xk, .int .i64 xo, .int .i64 xm, .string (bs xs), .slice xA xn xc] rfl rfl _ _ (Blk.new wr _ _) expr_size rfl (expr_one _ _ _ _ _ _ _) ?_; obtain ⟨V, hV⟩ : ∃ V, V = (wr.alloc (.cells #[.int .i64 0, .int .i64 0, .int .i64 0, .string ⟨#[]⟩, .slice none 0 0] 31)).setRow wr.heap.size #[.int .i64 xk, .int .i64 xo, .int .i64 xm, .string (bs xs), .slice xA xn xc] := ⟨_, rfl⟩; rw [← hV]; obtain ⟨hkV, hbV⟩ := put_row hV; have HKV := Lib.hid hkV; have HBV := Lib.hid hbV; clear hV hkV hbV) | (refine wpList_load_row rfl 31 _ rfl wr.heap.size rfl 31 #[.int .i64 xk, .int .i64 xo, .int .i64 xm, .string (bs xs), .slice xA xn xc] (0, 0) _ HKV.out Try.underlying31 rfl expr_size ?_))
      have HBV2 := Lib.hid (HBR.out.trans (HBV.out.mono HBR.out.size))
      refine (HC.out V (EL.In.more HBV2.out.size (HX.out.below HBV2.out))).mono ?_
      rintro f w2 ⟨rfl, hb2⟩
      rw [← HZ.out]
      have HB2 := Lib.hid (HB.out.trans ((HBV.out.trans (hb2.mono HBV.out.size)).mono HB.out.size))
      clear hb2
      go_wp2_with fail
      go_roundw
      case rel => exact ⟨j + 1, by omega, by go_num, by rw [HFIN.out], HB2⟩
      case measure => simp [intOf]; omega
    · obtain rfl : j = n := by omega
      have HE : Hid (es.take j = es) := Lib.hid (List.take_of_length_le (by rw [HL.out]; exact Nat.le_refl _))
      go_wp2_with fail
      go_ret
      rw [HE.out]
      exact ⟨rfl, HBR.out⟩

set_option maxRecDepth 100000 in
set_option maxHeartbeats 6400000 in
theorem r10SizeBlock_w : ∀ (q : Nat), ∀ (ss : List SL) (A : Option Addr) (n c : Nat) (w : World), sizeSs ss ≤ q → RowS6 w w.heap.size A n ss → SL.Ins w w.heap.size ss →
    Calls Try.prog 20 #[.slice A n c] w fun f w' => f = .returned (.int .i64 (wrap64 ((sizeSs ss : Nat) : Int))) ∧ Below w.heap.size w w' := by
  intro q
  induction q with
  | zero =>
    intro ss A n c w hz hrow _
    cases ss with
    | nil =>
      obtain rfl : 0 = n := hrow.1
      rw [show sizeSs [] = 0 by unfold sizeSs; rfl, show wrap64 ((0 : Nat) : Int) = 0 from by unfold wrap64; omega]
      go_enter Try.func20, Try.ntmps20
      go_wp2_with fail
      go_loopw [3, 8] (fun vn vi wr => vn = .int .i64 0 ∧ vi = .int .i64 0 ∧ Hid (w = wr)) (fun _ _ _ => 0)
      case atStart => exact ⟨rfl, rfl, Lib.hid rfl⟩
      case round =>
        obtain ⟨rfl, rfl, HW⟩ := hrel
        go_wp2_with fail
        go_ret
        exact ⟨rfl, by rw [HW.out]; exact Below.refl _ _⟩
    | cons x r => rw [sizeSs_cons, sizeS_eq] at hz; omega
  | succ q ih =>
    intro ss A n c w hz hrow hins
    have IH := Lib.hid ih
    have hn : ss.length = n := hrow.1
    have hn9 : (n : Int) ≤ 9223372036854775807 := hrow.2.1
    have HR := Lib.hid hrow
    have HA := Lib.hid hins
    have HL := Lib.hid hn
    have HZ := Lib.hid hz
    clear ih hrow hins hn hz
    go_enter Try.func20, Try.ntmps20
    go_wp2_with fail
    go_loopw [3, 8] (fun vn vi wr => ∃ j : Nat, j ≤ n ∧ vi = .int .i64 j ∧ vn = .int .i64 (wrap64 ((sizeSs (ss.take j) : Nat) : Int)) ∧ Hid (Below w.heap.size w wr)) (fun _ vi _ => n - (intOf vi).toNat)
    case atStart => exact ⟨0, Nat.zero_le _, rfl, by rw [List.take_zero]; unfold sizeSs; rw [show wrap64 ((0 : Nat) : Int) = 0 from by unfold wrap64; omega], Lib.hid (Below.refl _ _)⟩
    case round =>
      obtain ⟨j, hj, rfl, rfl, HBR⟩ := hrel
      by_cases hlt : j < n
      · have hst := sizeSs_take (l := ss) (j := j) (by rw [HL.out]; exact hlt)
        have htk : sizeSs (ss.take (j + 1)) ≤ sizeSs ss := by
          have := sizeSs_app (ss.take (j + 1)) (ss.drop (j + 1))
          rw [List.take_append_drop] at this
          omega
        have hxjl : j < ss.length := by rw [HL.out]; exact hlt
        obtain ⟨xad, rfl, xab, xc⟩ := rowS_at (HR.out.below HBR.out) hlt
        have hx := HA.out.at hxjl
        have hxmem : (ss[j]?.getD nilS) ∈ ss := by rw [List.getElem?_eq_getElem hxjl]; exact List.getElem_mem _
        obtain ⟨x, hxe⟩ : ∃ x, x = ss[j]?.getD nilS := ⟨_, rfl⟩
        obtain ⟨a0, a1, a2, a3, a4, a5⟩ := xc x hxe
        rw [← hxe] at hx hxmem
        have HXx := Lib.hid hx
        have HEx := Lib.hid hxe
        have HMx := Lib.hid hxmem
        rw [← hxe, sizeS_eq] at hst
        obtain ⟨hxp, hxq1, hxq2⟩ := hx.parts
        have hxr1 := hxp.2.2.2.1
        have hxr2 := hxp.2.2.2.2
        clear hxp
        obtain ⟨xk, xm, xs, xA, xn, xc', xes, xA1, xn1, xc1, xbo, xA2, xn2, xc2, xel⟩ := x
        change wr.cell? (xad.add (j * 6)) = some (.int .i64 xk) at a0
        change wr.cell? ⟨(xad.add (j * 6)).block, (xad.add (j * 6)).off + 1, none⟩ = some (.int .i64 xm) at a1
        change wr.cell? ⟨(xad.add (j * 6)).block, (xad.add (j * 6)).off + 2, none⟩ = some (.string (bs xs)) at a2
        change wr.cell? ⟨(xad.add (j * 6)).block, (xad.add (j * 6)).off + 3, none⟩ = some (.slice xA xn xc') at a3
        change wr.cell? ⟨(xad.add (j * 6)).block, (xad.add (j * 6)).off + 4, none⟩ = some (.slice xA1 xn1 xc1) at a4
        change wr.cell? ⟨(xad.add (j * 6)).block, (xad.add (j * 6)).off + 5, none⟩ = some (.slice xA2 xn2 xc2) at a5
        clear xc hxe hx hxmem hxjl
        obtain ⟨t, ht⟩ : ∃ t, t = wrap64 ((sizeSs (ss.take j) : Nat) : Int) := ⟨_, rfl⟩
        have hst' : sizeSs (ss.take (j + 1)) = sizeSs (ss.take j) + (1 + sizeSs xbo + sizeSs xel) := hst
        obtain ⟨y, hy⟩ : ∃ y, y = wrap64 ((sizeSs xbo : Nat) : Int) := ⟨_, rfl⟩
        obtain ⟨z, hz⟩ : ∃ z, z = wrap64 ((sizeSs xel : Nat) : Int) := ⟨_, rfl⟩
        rw [← ht]
        have hsn : sizeSs xbo + sizeSs xel + 1 ≤ sizeSs ss := by omega
        have hzz := HZ.out
        have hcb : ∀ W : World, Below wr.heap.size wr W → Calls Try.prog 20 #[.slice xA1 xn1 xc1] W fun f w' => f = .returned (.int .i64 y) ∧ Below W.heap.size W w' := fun W hb => by
          have h1 := HBR.out.trans (hb.mono HBR.out.size)
          rw [hy]
          exact IH.out xbo xA1 xn1 xc1 W (by omega) ((RowS6.below hxr1 h1).more h1.size) ((SL.Ins.below hxq1 h1).more h1.size)
        have hce : ∀ W : World, Below wr.heap.size wr W → Calls Try.prog 20 #[.slice xA2 xn2 xc2] W fun f w' => f = .returned (.int .i64 z) ∧ Below W.heap.size W w' := fun W hb => by
          have h1 := HBR.out.trans (hb.mono HBR.out.size)
          rw [hz]
          exact IH.out xel xA2 xn2 xc2 W (by omega) ((RowS6.below hxr2 h1).more h1.size) ((SL.Ins.below hxq2 h1).more h1.size)
        have HCB := Lib.hid hcb
        have HCE := Lib.hid hce
        obtain ⟨u1, hu1⟩ : ∃ u, u = wrap64 (1 + y) := ⟨_, rfl⟩
        obtain ⟨u2, hu2⟩ : ∃ u, u = wrap64 (u1 + z) := ⟨_, rfl⟩
        obtain ⟨u3, hu3⟩ : ∃ u, u = wrap64 (t + u2) := ⟨_, rfl⟩
        have HFIN : Hid (u3 = wrap64 ((sizeSs (ss.take (j + 1)) : Nat) : Int)) := Lib.hid (by rw [hu3, hu2, hu1, ht, hy, hz, hst', wrap64_fourF]; rfl)
        have w1 : IntKind.i64.wrap (1 + y) = u1 := by rw [hu1, IntKind.wrap_i64]; unfold wrap64; first | rfl | omega
        have w2 : IntKind.i64.wrap (u1 + z) = u2 := by rw [hu2, IntKind.wrap_i64]; unfold wrap64; first | rfl | omega
        have w3 : IntKind.i64.wrap (t + u2) = u3 := by rw [hu3, IntKind.wrap_i64]; unfold wrap64; first | rfl | omega
        have HW1 := Lib.hid w1
        have HW2 := Lib.hid w2
        have HW3 := Lib.hid w3
        clear hu1 hu2 hu3 hsn
        clear hst hst' htk ht hy hz hzz hcb hce hxr1 hxr2 hxq1 hxq2
        go_wp2_with (refine wpList_store_row rfl 48 _ _ rfl wr.heap.size #[.int .i64 xk, .int .i64 xm, .string (bs xs), .slice xA xn xc', .slice xA1 xn1 xc1, .slice xA2 xn2 xc2] rfl rfl _ _ (Blk.new wr _ _) stmt_size rfl (stmt_one _ _ _ _ _ _ _ _ _ _ _ _) ?_; obtain ⟨V, hV⟩ : ∃ V, V = (wr.alloc (.cells #[.int .i64 0, .int .i64 0, .string ⟨#[]⟩, .slice none 0 0, .slice none 0 0, .slice none 0 0] 48)).setRow wr.heap.size #[.int .i64 xk, .int .i64 xm, .string (bs xs), .slice xA xn xc', .slice xA1 xn1 xc1, .slice xA2 xn2 xc2] := ⟨_, rfl⟩; rw [← hV]; obtain ⟨hkV, hbV⟩ := put_row hV; have HKV := Lib.hid hkV; have HBV := Lib.hid hbV; clear hV hkV hbV; have v4 : V.cell? ⟨wr.heap.size, 4, none⟩ = some (.slice xA1 xn1 xc1) := HKV.out.cell 4; have v5 : V.cell? ⟨wr.heap.size, 5, none⟩ = some (.slice xA2 xn2 xc2) := HKV.out.cell 5)
        have START : Hid (Below V.heap.size V V.drew ∧ V.drew.cell? ⟨wr.heap.size, 4, none⟩ = some (.slice xA1 xn1 xc1) ∧ V.drew.cell? ⟨wr.heap.size, 5, none⟩ = some (.slice xA2 xn2 xc2)) := Lib.hid ⟨(Below.refl _ _).drew, v4, v5⟩
        have STEP : Hid (∀ u1 u2 : World, Below u1.heap.size u1 u2 → (Below V.heap.size V u1 ∧ u1.cell? ⟨wr.heap.size, 4, none⟩ = some (.slice xA1 xn1 xc1) ∧ u1.cell? ⟨wr.heap.size, 5, none⟩ = some (.slice xA2 xn2 xc2)) → (Below V.heap.size V u2 ∧ u2.cell? ⟨wr.heap.size, 4, none⟩ = some (.slice xA1 xn1 xc1) ∧ u2.cell? ⟨wr.heap.size, 5, none⟩ = some (.slice xA2 xn2 xc2))) := Lib.hid (fun u1 u2 hb hs => by
          have hb2 := hs.1.trans (hb.mono hs.1.size)
          exact ⟨hb2, held_cells HKV.out hb2 4, held_cells HKV.out hb2 5⟩)
        have PRE : Hid (∀ u : World, (Below V.heap.size V u ∧ u.cell? ⟨wr.heap.size, 4, none⟩ = some (.slice xA1 xn1 xc1) ∧ u.cell? ⟨wr.heap.size, 5, none⟩ = some (.slice xA2 xn2 xc2)) → Below wr.heap.size wr u) := Lib.hid (fun u hs => HBV.out.trans (hs.1.mono HBV.out.size))
        clear v4 v5
        go_region_held3 (fun u => (Below V.heap.size V u ∧ u.cell? ⟨wr.heap.size, 4, none⟩ = some (.slice xA1 xn1 xc1) ∧ u.cell? ⟨wr.heap.size, 5, none⟩ = some (.slice xA2 xn2 xc2))) (first | exact START.out | exact STEP.out _ _ (by assumption) (by assumption))
          (first
            | (go_at_call_of 20 xA1; refine (HCB.out _ ?_).mono ?_; exact PRE.out _ (by assumption); rintro f wz ⟨rfl, hbb⟩)
            | (go_at_call_of 20 xA2; refine (HCE.out _ ?_).mono ?_; exact PRE.out _ (by assumption); rintro f wz ⟨rfl, hbb⟩))
        have HBF : Hid (Below w.heap.size w wz) := Lib.hid (HBR.out.trans ((PRE.out _ (by assumption)).mono HBR.out.size))
        go_wp2_with fail
        go_roundw
        case rel => exact ⟨j + 1, by omega, by go_num, by rw [HFIN.out], HBF⟩
        case measure => simp [intOf]; omega
      · obtain rfl : j = n := by omega
        have HE : Hid (ss.take j = ss) := Lib.hid (List.take_of_length_le (by rw [HL.out]; exact Nat.le_refl _))
        go_wp2_with fail
        go_ret
        rw [HE.out]
        exact ⟨rfl, HBR.out⟩

end

section
open Go.RowKit
set_option linter.unusedVariables false
set_option linter.unusedSimpArgs false

set_option maxRecDepth 100000 in
set_option maxHeartbeats 6400000 in
theorem right18_any (T : TV) (e : EL) (A : Option Addr) (n c : Nat) (ss : List SL) (loc : Int) (hloc : -9223372036854775808 ≤ loc ∧ loc ≤ 9223372036854775807) (w : World) (hT : T.In w w.heap.size) (hE : e.In w w.heap.size) (hrow : RowS6 w w.heap.size A n ss) (hins : ∀ x ∈ ss, x.In w w.heap.size) :
    Calls Try.prog 6 #[.agg (T.cells ++ eCells e ++ #[.slice A n c, .int .i64 loc])] w fun f w' => ∃ b : Bool, f = .returned (.bool b) ∧ (b = true → boundB T.tb loc e = true ∧ boundBs T.tb loc ss = true) ∧ Below w.heap.size w w' := by
  have HS1 : Hid (∀ W : World, Below w.heap.size w W → Calls Try.prog 19 #[eVal e] W fun f w' => f = .returned (.int .i64 (wrap64 ((sizeE e : Nat) : Int))) ∧ Below W.heap.size W w') := Lib.hid (fun W hb => r10Size_w e W ((hE.below hb).more hb.size))
  have HS2 : Hid (∀ W : World, Below w.heap.size w W → Calls Try.prog 20 #[.slice A n c] W fun f w' => f = .returned (.int .i64 (wrap64 ((sizeSs ss : Nat) : Int))) ∧ Below W.heap.size W w') := Lib.hid (fun W hb => r10SizeBlock_w (sizeSs ss) ss A n c W (Nat.le_refl _) ((hrow.below hb).more hb.size) (((SL.Ins.of hins).below hb).more hb.size))
  have HB1 : Hid (∀ W : World, Below w.heap.size w W → Calls Try.prog 21 #[T.val, eVal e, .int .i64 loc] W fun f w' => f = .returned (.bool (boundB T.tb loc e)) ∧ Below W.heap.size W w') := Lib.hid (fun W hb => r10Bound_any T loc e W ((hT.below hb).more hb.size) ((hE.below hb).more hb.size))
  have HB2 : Hid (∀ W : World, Below w.heap.size w W → Calls Try.prog 22 #[T.val, .slice A n c, .int .i64 loc] W fun f w' => f = .returned (.bool (boundBs T.tb loc ss)) ∧ Below W.heap.size W w') := Lib.hid (fun W hb => r10BoundBlock_any T loc hloc ss A n c W ((hT.below hb).more hb.size) ((hrow.below hb).more hb.size) (((SL.Ins.of hins).below hb).more hb.size))
  obtain ⟨z1, hz1⟩ : ∃ z, z = wrap64 ((sizeE e : Nat) : Int) := ⟨_, rfl⟩
  obtain ⟨z2, hz2⟩ : ∃ z, z = wrap64 ((sizeSs ss : Nat) : Int) := ⟨_, rfl⟩
  obtain ⟨b1, hb1⟩ : ∃ b, b = boundB T.tb loc e := ⟨_, rfl⟩
  obtain ⟨b2, hb2⟩ : ∃ b, b = boundBs T.tb loc ss := ⟨_, rfl⟩
  rw [← hz1] at HS1
  rw [← hz2] at HS2
  rw [← hb1] at HB1
  rw [← hb2] at HB2
  rw [← hb1, ← hb2]
  obtain ⟨Q, hQ⟩ : ∃ Q : Bool → Prop, Q = fun b => (b = true → b1 = true ∧ b2 = true) := ⟨_, rfl⟩
  have HQ := Lib.hid hQ
  suffices h : Calls Try.prog 6 #[.agg (T.cells ++ eCells e ++ #[.slice A n c, .int .i64 loc])] w (fun f w' => ∃ b : Bool, f = .returned (.bool b) ∧ Q b ∧ Below w.heap.size w w') from h.mono fun f w' ⟨b, h1, h2, h3⟩ => ⟨b, h1, by rw [hQ] at h2; exact h2, h3⟩
  clear hQ
  clear hz1 hz2 hb1 hb2 hT hE hrow hins hloc
  obtain ⟨t1, t2, t3, t4, S1, m1, k1, fl, S2, m2, k2, S3, m3, k3, S4, m4, k4, S5, m5, k5, S6, m6, k6, S7, m7, k7, S8, m8, k8, S9, m9, k9, S10, m10, k10, fs, ps⟩ := T
  obtain ⟨k, o, m, s, B, bn, bc, es⟩ := e
  simp only [TV.val, TV.cells, eVal, eCells, EL.kind, EL.op, EL.num, EL.name, EL.A, EL.n, EL.c] at HS1 HS2 HB1 HB2 ⊢
  show Calls Try.prog _ #[.agg #[.int .i64 t1, .int .i64 t2, .int .i64 t3, .int .i64 t4, .slice S1 m1 k1, .int .i64 fl, .slice S2 m2 k2, .slice S3 m3 k3, .slice S4 m4 k4, .slice S5 m5 k5, .slice S6 m6 k6, .slice S7 m7 k7, .slice S8 m8 k8, .slice S9 m9 k9, .slice S10 m10 k10, .int .i64 k, .int .i64 o, .int .i64 m, .string (bs s), .slice B bn bc, .slice A n c, .int .i64 loc]] w _
  obtain ⟨W, hW⟩ : ∃ W, W = w.alloc (.cells #[.int .i64 t1, .int .i64 t2, .int .i64 t3, .int .i64 t4, .slice S1 m1 k1, .int .i64 fl, .slice S2 m2 k2, .slice S3 m3 k3, .slice S4 m4 k4, .slice S5 m5 k5, .slice S6 m6 k6, .slice S7 m7 k7, .slice S8 m8 k8, .slice S9 m9 k9, .slice S10 m10 k10, .int .i64 k, .int .i64 o, .int .i64 m, .string (bs s), .slice B bn bc, .slice A n c, .int .i64 loc] 34) := ⟨_, rfl⟩
  have HBW : Hid (Below w.heap.size w W) := Lib.hid (by rw [hW]; exact (Below.refl _ _).alloc (Nat.le_refl _) _)
  have HK : Hid (Blk W w.heap.size 34 #[.int .i64 t1, .int .i64 t2, .int .i64 t3, .int .i64 t4, .slice S1 m1 k1, .int .i64 fl, .slice S2 m2 k2, .slice S3 m3 k3, .slice S4 m4 k4, .slice S5 m5 k5, .slice S6 m6 k6, .slice S7 m7 k7, .slice S8 m8 k8, .slice S9 m9 k9, .slice S10 m10 k10, .int .i64 k, .int .i64 o, .int .i64 m, .string (bs s), .slice B bn bc, .slice A n c, .int .i64 loc]) := Lib.hid (by rw [hW]; exact Blk.new w _ _)
  go_enter Try.func6, Try.ntmps6
  go_wp2_with fail
  rw [← hW]
  clear hW
  refine (HS1.out W HBW.out).mono ?_
  rintro f w1 ⟨rfl, hb⟩
  have HX1 := Lib.hid (HBW.out.trans (hb.mono HBW.out.size))
  have HK1 := Lib.hid (HK.out.below hb HK.out.lt)
  clear hb
  have d0 : w1.cell? ⟨w.heap.size, 0, none⟩ = some (.int .i64 t1) := HK1.out.cell 0
  have d1 : w1.cell? ⟨w.heap.size, 1, none⟩ = some (.int .i64 t2) := HK1.out.cell 1
  have d2 : w1.cell? ⟨w.heap.size, 2, none⟩ = some (.int .i64 t3) := HK1.out.cell 2
  have d3 : w1.cell? ⟨w.heap.size, 3, none⟩ = some (.int .i64 t4) := HK1.out.cell 3
  have d4 : w1.cell? ⟨w.heap.size, 4, none⟩ = some (.slice S1 m1 k1) := HK1.out.cell 4
  have d5 : w1.cell? ⟨w.heap.size, 5, none⟩ = some (.int .i64 fl) := HK1.out.cell 5
  have d6 : w1.cell? ⟨w.heap.size, 6, none⟩ = some (.slice S2 m2 k2) := HK1.out.cell 6
  have d7 : w1.cell? ⟨w.heap.size, 7, none⟩ = some (.slice S3 m3 k3) := HK1.out.cell 7
  have d8 : w1.cell? ⟨w.heap.size, 8, none⟩ = some (.slice S4 m4 k4) := HK1.out.cell 8
  have d9 : w1.cell? ⟨w.heap.size, 9, none⟩ = some (.slice S5 m5 k5) := HK1.out.cell 9
  have d10 : w1.cell? ⟨w.heap.size, 10, none⟩ = some (.slice S6 m6 k6) := HK1.out.cell 10
  have d11 : w1.cell? ⟨w.heap.size, 11, none⟩ = some (.slice S7 m7 k7) := HK1.out.cell 11
  have d12 : w1.cell? ⟨w.heap.size, 12, none⟩ = some (.slice S8 m8 k8) := HK1.out.cell 12
  have d13 : w1.cell? ⟨w.heap.size, 13, none⟩ = some (.slice S9 m9 k9) := HK1.out.cell 13
  have d14 : w1.cell? ⟨w.heap.size, 14, none⟩ = some (.slice S10 m10 k10) := HK1.out.cell 14
  have d15 : w1.cell? ⟨w.heap.size, 15, none⟩ = some (.int .i64 k) := HK1.out.cell 15
  have d16 : w1.cell? ⟨w.heap.size, 16, none⟩ = some (.int .i64 o) := HK1.out.cell 16
  have d17 : w1.cell? ⟨w.heap.size, 17, none⟩ = some (.int .i64 m) := HK1.out.cell 17
  have d18 : w1.cell? ⟨w.heap.size, 18, none⟩ = some (.string (bs s)) := HK1.out.cell 18
  have d19 : w1.cell? ⟨w.heap.size, 19, none⟩ = some (.slice B bn bc) := HK1.out.cell 19
  have d20 : w1.cell? ⟨w.heap.size, 20, none⟩ = some (.slice A n c) := HK1.out.cell 20
  have d21 : w1.cell? ⟨w.heap.size, 21, none⟩ = some (.int .i64 loc) := HK1.out.cell 21
  by_cases h1 : 300 < z1
  · go_wp2_with fail
    go_ret
    exact ⟨false, rfl, (by rw [HQ.out]; exact fun h => (by cases h)), HX1.out⟩
  · go_wp2_with fail
    refine (HS2.out w1 HX1.out).mono ?_
    rintro f w2 ⟨rfl, hb⟩
    have HX2 := Lib.hid (HX1.out.trans (hb.mono HX1.out.size))
    have HK2 := Lib.hid (HK1.out.below hb HK1.out.lt)
    clear hb
    clear d0 d1 d2 d3 d4 d5 d6 d7 d8 d9 d10 d11 d12 d13 d14 d15 d16 d17 d18 d19 d20 d21
    have d0 : w2.cell? ⟨w.heap.size, 0, none⟩ = some (.int .i64 t1) := HK2.out.cell 0
    have d1 : w2.cell? ⟨w.heap.size, 1, none⟩ = some (.int .i64 t2) := HK2.out.cell 1
    have d2 : w2.cell? ⟨w.heap.size, 2, none⟩ = some (.int .i64 t3) := HK2.out.cell 2
    have d3 : w2.cell? ⟨w.heap.size, 3, none⟩ = some (.int .i64 t4) := HK2.out.cell 3
    have d4 : w2.cell? ⟨w.heap.size, 4, none⟩ = some (.slice S1 m1 k1) := HK2.out.cell 4
    have d5 : w2.cell? ⟨w.heap.size, 5, none⟩ = some (.int .i64 fl) := HK2.out.cell 5
    have d6 : w2.cell? ⟨w.heap.size, 6, none⟩ = some (.slice S2 m2 k2) := HK2.out.cell 6
    have d7 : w2.cell? ⟨w.heap.size, 7, none⟩ = some (.slice S3 m3 k3) := HK2.out.cell 7
    have d8 : w2.cell? ⟨w.heap.size, 8, none⟩ = some (.slice S4 m4 k4) := HK2.out.cell 8
    have d9 : w2.cell? ⟨w.heap.size, 9, none⟩ = some (.slice S5 m5 k5) := HK2.out.cell 9
    have d10 : w2.cell? ⟨w.heap.size, 10, none⟩ = some (.slice S6 m6 k6) := HK2.out.cell 10
    have d11 : w2.cell? ⟨w.heap.size, 11, none⟩ = some (.slice S7 m7 k7) := HK2.out.cell 11
    have d12 : w2.cell? ⟨w.heap.size, 12, none⟩ = some (.slice S8 m8 k8) := HK2.out.cell 12
    have d13 : w2.cell? ⟨w.heap.size, 13, none⟩ = some (.slice S9 m9 k9) := HK2.out.cell 13
    have d14 : w2.cell? ⟨w.heap.size, 14, none⟩ = some (.slice S10 m10 k10) := HK2.out.cell 14
    have d15 : w2.cell? ⟨w.heap.size, 15, none⟩ = some (.int .i64 k) := HK2.out.cell 15
    have d16 : w2.cell? ⟨w.heap.size, 16, none⟩ = some (.int .i64 o) := HK2.out.cell 16
    have d17 : w2.cell? ⟨w.heap.size, 17, none⟩ = some (.int .i64 m) := HK2.out.cell 17
    have d18 : w2.cell? ⟨w.heap.size, 18, none⟩ = some (.string (bs s)) := HK2.out.cell 18
    have d19 : w2.cell? ⟨w.heap.size, 19, none⟩ = some (.slice B bn bc) := HK2.out.cell 19
    have d20 : w2.cell? ⟨w.heap.size, 20, none⟩ = some (.slice A n c) := HK2.out.cell 20
    have d21 : w2.cell? ⟨w.heap.size, 21, none⟩ = some (.int .i64 loc) := HK2.out.cell 21
    by_cases h2 : 600 < z2
    · go_wp2_with fail
      go_ret
      exact ⟨false, rfl, (by rw [HQ.out]; exact fun h => (by cases h)), HX2.out⟩
    · by_cases h3 : 24 < loc
      · go_wp2_with fail
        go_ret
        exact ⟨false, rfl, (by rw [HQ.out]; exact fun h => (by cases h)), HX2.out⟩
      · go_wp2_with fail
        refine (HB1.out w2 HX2.out).mono ?_
        rintro f w3 ⟨rfl, hb⟩
        have HX3 := Lib.hid (HX2.out.trans (hb.mono HX2.out.size))
        have HK3 := Lib.hid (HK2.out.below hb HK2.out.lt)
        clear hb
        clear d0 d1 d2 d3 d4 d5 d6 d7 d8 d9 d10 d11 d12 d13 d14 d15 d16 d17 d18 d19 d20 d21
        have d0 : w3.cell? ⟨w.heap.size, 0, none⟩ = some (.int .i64 t1) := HK3.out.cell 0
        have d1 : w3.cell? ⟨w.heap.size, 1, none⟩ = some (.int .i64 t2) := HK3.out.cell 1
        have d2 : w3.cell? ⟨w.heap.size, 2, none⟩ = some (.int .i64 t3) := HK3.out.cell 2
        have d3 : w3.cell? ⟨w.heap.size, 3, none⟩ = some (.int .i64 t4) := HK3.out.cell 3
        have d4 : w3.cell? ⟨w.heap.size, 4, none⟩ = some (.slice S1 m1 k1) := HK3.out.cell 4
        have d5 : w3.cell? ⟨w.heap.size, 5, none⟩ = some (.int .i64 fl) := HK3.out.cell 5
        have d6 : w3.cell? ⟨w.heap.size, 6, none⟩ = some (.slice S2 m2 k2) := HK3.out.cell 6
        have d7 : w3.cell? ⟨w.heap.size, 7, none⟩ = some (.slice S3 m3 k3) := HK3.out.cell 7
        have d8 : w3.cell? ⟨w.heap.size, 8, none⟩ = some (.slice S4 m4 k4) := HK3.out.cell 8
        have d9 : w3.cell? ⟨w.heap.size, 9, none⟩ = some (.slice S5 m5 k5) := HK3.out.cell 9
        have d10 : w3.cell? ⟨w.heap.size, 10, none⟩ = some (.slice S6 m6 k6) := HK3.out.cell 10
        have d11 : w3.cell? ⟨w.heap.size, 11, none⟩ = some (.slice S7 m7 k7) := HK3.out.cell 11
        have d12 : w3.cell? ⟨w.heap.size, 12, none⟩ = some (.slice S8 m8 k8) := HK3.out.cell 12
        have d13 : w3.cell? ⟨w.heap.size, 13, none⟩ = some (.slice S9 m9 k9) := HK3.out.cell 13
        have d14 : w3.cell? ⟨w.heap.size, 14, none⟩ = some (.slice S10 m10 k10) := HK3.out.cell 14
        have d15 : w3.cell? ⟨w.heap.size, 15, none⟩ = some (.int .i64 k) := HK3.out.cell 15
        have d16 : w3.cell? ⟨w.heap.size, 16, none⟩ = some (.int .i64 o) := HK3.out.cell 16
        have d17 : w3.cell? ⟨w.heap.size, 17, none⟩ = some (.int .i64 m) := HK3.out.cell 17
        have d18 : w3.cell? ⟨w.heap.size, 18, none⟩ = some (.string (bs s)) := HK3.out.cell 18
        have d19 : w3.cell? ⟨w.heap.size, 19, none⟩ = some (.slice B bn bc) := HK3.out.cell 19
        have d20 : w3.cell? ⟨w.heap.size, 20, none⟩ = some (.slice A n c) := HK3.out.cell 20
        have d21 : w3.cell? ⟨w.heap.size, 21, none⟩ = some (.int .i64 loc) := HK3.out.cell 21
        cases b1 with
        | false =>
          go_wp2_with fail
          go_ret
          exact ⟨false, rfl, (by rw [HQ.out]; exact fun h => (by cases h)), HX3.out⟩
        | true =>
          go_wp2_with fail
          refine (HB2.out w3 HX3.out).mono ?_
          rintro f w4 ⟨rfl, hb⟩
          have HX4 := Lib.hid (HX3.out.trans (hb.mono HX3.out.size))
          clear hb
          go_wp2_with fail
          go_ret
          exact ⟨b2, rfl, (by rw [HQ.out]; exact fun h => ⟨by first | rfl | trivial, h⟩), HX4.out⟩

end

section
open Go.RowKit
set_option linter.unusedVariables false
set_option linter.unusedSimpArgs false

/-- induction over plain expressions -/
theorem PE.ind {p : PE → Prop} (h : ∀ e, (∀ x ∈ e.args, p x) → p e) : ∀ e, p e := by
  have key : ∀ (k : Nat) (e : PE), SizeOf.sizeOf e ≤ k → p e := by
    intro k
    induction k with
    | zero => intro e hs; cases e; simp at hs
    | succ k ih =>
      intro e hs
      refine h e fun x hx => ih x ?_
      cases e with
      | mk a b c d l =>
        have h1 : SizeOf.sizeOf x < SizeOf.sizeOf l := List.sizeOf_lt_of_mem hx
        simp at hs
        omega
  exact fun e => key (SizeOf.sizeOf e) e (Nat.le_refl _)
/-- induction over plain statements -/
theorem PS.ind {p : PS → Prop} (h : ∀ s, (∀ x ∈ s.body, p x) → (∀ x ∈ s.els, p x) → p s) : ∀ s, p s := by
  have key : ∀ (k : Nat) (s : PS), SizeOf.sizeOf s ≤ k → p s := by
    intro k
    induction k with
    | zero => intro s hs; cases s; simp at hs
    | succ k ih =>
      intro s hs
      refine h s (fun x hx => ih x ?_) (fun x hx => ih x ?_)
      · cases s with
        | mk a b c d l m =>
          have h1 : SizeOf.sizeOf x < SizeOf.sizeOf l := List.sizeOf_lt_of_mem hx
          simp at hs
          omega
      · cases s with
        | mk a b c d l m =>
          have h1 : SizeOf.sizeOf x < SizeOf.sizeOf m := List.sizeOf_lt_of_mem hx
          simp at hs
          omega
  exact fun s => key (SizeOf.sizeOf s) s (Nat.le_refl _)

theorem stepF_cases (p : PE) : stepF p = p ∨ ∃ n, stepF p = numP n := by
  unfold stepF
  repeat' split
  all_goals first | exact .inl rfl | exact .inr ⟨_, rfl⟩
theorem foldP_num (n : Int) : foldP (numP n) = numP n := by
  rw [foldP_eq]
  unfold numP
  rfl
theorem map_fix {α : Type} {f : α → α} {l : List α} (h : ∀ x ∈ l, f (f x) = f x) : (l.map f).map f = l.map f := by
  rw [List.map_map]
  exact List.map_congr_left fun x hx => h x hx
/-- what is folded is folded no further -/
theorem foldP_idem : ∀ p : PE, foldP (foldP p) = foldP p := by
  refine PE.ind fun p ih => ?_
  rw [foldP_eq p]
  rcases stepF_cases (.mk p.kind p.op p.num p.name (p.args.map foldP)) with h | ⟨n, h⟩
  · rw [h, foldP_eq]
    show stepF (.mk p.kind p.op p.num p.name ((p.args.map foldP).map foldP)) = _
    rw [map_fix ih, h]
  · rw [h, foldP_num]

/- an if whose condition is a number -/
def knownIf (s : PS) : Prop := s.kind = 9 ∧ s.args.length = 1 ∧ (s.args[0]?.getD nilP).kind = 1
mutual
def staysP : PS → Prop
  | .mk k m s a b e => knownIf (.mk k m s a b e) ∨ staysPs b ∨ staysPs e
def staysPs : List PS → Prop
  | [] => False
  | x :: r => staysP x ∨ staysPs r
end
theorem staysPs_iff : ∀ {l : List PS}, staysPs l ↔ ∃ x ∈ l, staysP x := by
  intro l
  induction l with
  | nil => unfold staysPs; simp
  | cons x r ih => unfold staysPs; rw [ih]; simp
theorem staysP_eq (s : PS) : staysP s ↔ knownIf s ∨ staysPs s.body ∨ staysPs s.els := by
  cases s
  conv => lhs; unfold staysP
  rfl
/-- a statement that folding leaves where it is -/
def keptS (s : PS) : Prop := ¬ (s.args.length = 1 ∧ (s.args[0]?.getD nilP).kind = 1 ∧ s.kind = 10 ∧ wrapV (s.args[0]?.getD nilP).num = 0)
def fixS (s : PS) : Prop := (¬ staysP s → foldS s = s) ∧ keptS s
theorem stepB_kept {s : PS} (h : keptS s) (hk : ¬ knownIf s) (out : List PS) (rest : Nat) : stepB out rest s = out ++ [s] := by
  unfold stepB
  exact (if_neg h).trans (if_neg (fun g => hk ⟨g.2.2, g.1, g.2.1⟩))
theorem foldGo_fix : ∀ (l out : List PS), (∀ s ∈ l, fixS s) → (∀ s ∈ l, ¬ staysP s) → foldGo out l = out ++ l := by
  intro l
  induction l with
  | nil => intro out _ _; rw [foldGo_nil, List.append_nil]
  | cons x r ih =>
    intro out h1 h2
    have hx := h1 x (by simp)
    have hn := h2 x (by simp)
    rw [foldGo_cons, hx.1 hn, stepB_kept hx.2 (fun g => hn ((staysP_eq x).2 (.inl g))), ih _ (fun s hs => h1 s (by simp [hs])) (fun s hs => h2 s (by simp [hs]))]
    simp
/-- what a step leaves -/
theorem stepB_mem {out : List PS} {rest : Nat} {s t : PS} (h : t ∈ stepB out rest s) : t ∈ out ∨ (t = s ∧ keptS s) ∨ (t ∈ s.body ∨ t ∈ s.els) := by
  by_cases h1 : s.args.length = 1 ∧ (s.args[0]?.getD nilP).kind = 1 ∧ s.kind = 10 ∧ wrapV (s.args[0]?.getD nilP).num = 0
  · unfold stepB at h
    rw [if_pos h1] at h
    exact .inl h
  · have one : t ∈ out ++ [s] → t ∈ out ∨ (t = s ∧ keptS s) ∨ (t ∈ s.body ∨ t ∈ s.els) := fun h => by
      rcases List.mem_append.1 h with h | h
      · exact .inl h
      · exact .inr (.inl ⟨by simpa using h, h1⟩)
    unfold stepB at h
    rw [if_neg h1] at h
    by_cases h2 : s.args.length = 1 ∧ (s.args[0]?.getD nilP).kind = 1 ∧ s.kind = 9
    · rw [if_pos h2] at h
      by_cases h0 : wrapV (s.args[0]?.getD nilP).num ≠ 0
      · rw [if_pos h0] at h
        by_cases h3 : 256 < out.length + s.body.length + rest
        · rw [if_pos h3] at h
          exact one h
        · rw [if_neg h3] at h
          rcases List.mem_append.1 h with h | h
          · exact .inl h
          · exact .inr (.inr (.inl h))
      · rw [if_neg h0] at h
        by_cases h3 : 256 < out.length + s.els.length + rest
        · rw [if_pos h3] at h
          exact one h
        · rw [if_neg h3] at h
          rcases List.mem_append.1 h with h | h
          · exact .inl h
          · exact .inr (.inr (.inr h))
    · rw [if_neg h2] at h
      exact one h
theorem foldGo_all : ∀ (l out : List PS), (∀ x ∈ l, (∀ t ∈ foldGo [] x.body, fixS t) ∧ (∀ t ∈ foldGo [] x.els, fixS t)) → (∀ t ∈ out, fixS t) → ∀ t ∈ foldGo out l, fixS t := by
  intro l
  induction l with
  | nil => intro out _ h t ht; rw [foldGo_nil] at ht; exact h t ht
  | cons x r ih =>
    intro out hl ho t ht
    rw [foldGo_cons] at ht
    refine ih _ (fun y hy => hl y (by simp [hy])) (fun u hu => ?_) t ht
    obtain ⟨hb, he⟩ := hl x (by simp)
    have hE := foldS_eq x
    rcases stepB_mem hu with h | ⟨h, hk⟩ | h | h
    · exact ho u h
    · subst h
      refine ⟨fun hn => ?_, hk⟩
      rw [hE] at hn ⊢
      rw [staysP_eq] at hn
      have n1 : ¬ staysPs (foldGo [] x.body) := fun g => hn (.inr (.inl g))
      have n2 : ¬ staysPs (foldGo [] x.els) := fun g => hn (.inr (.inr g))
      rw [staysPs_iff] at n1 n2
      rw [foldS_eq]
      show PS.mk x.kind x.num x.name ((x.args.map foldP).map foldP) (foldGo [] (foldGo [] x.body)) (foldGo [] (foldGo [] x.els)) = _
      rw [map_fix (fun p _ => foldP_idem p), foldGo_fix _ [] hb (fun s hs g => n1 ⟨s, hs, g⟩), foldGo_fix _ [] he (fun s hs g => n2 ⟨s, hs, g⟩), List.nil_append, List.nil_append]
    · rw [hE] at h
      exact hb u h
    · rw [hE] at h
      exact he u h
theorem foldGo_fixes : ∀ s : PS, (∀ t ∈ foldGo [] s.body, fixS t) ∧ (∀ t ∈ foldGo [] s.els, fixS t) :=
  PS.ind fun s i1 i2 => ⟨foldGo_all s.body [] i1 (fun t h => absurd h List.not_mem_nil), foldGo_all s.els [] i2 (fun t h => absurd h List.not_mem_nil)⟩
/-- statements folded are folded no further, but where an if has stayed -/
theorem foldGo_idem (l : List PS) (h : ¬ staysPs (foldGo [] l)) : foldGo [] (foldGo [] l) = foldGo [] l := by
  rw [staysPs_iff] at h
  rw [foldGo_fix _ [] (foldGo_all l [] (fun x _ => foldGo_fixes x) (fun t h => absurd h List.not_mem_nil)) (fun s hs g => h ⟨s, hs, g⟩), List.nil_append]

end

section
open Go.RowKit
set_option linter.unusedVariables false
set_option linter.unusedSimpArgs false

theorem litP_fold : ∀ p : PE, litP p → litP (foldP p) := by
  refine PE.ind fun p ih hp => ?_
  rw [litP_eq] at hp
  rw [foldP_eq]
  rcases stepF_cases (.mk p.kind p.op p.num p.name (p.args.map foldP)) with h | ⟨n, h⟩
  · rw [h, litP_eq]
    refine ⟨?_, fun x hx => ?_⟩
    · show (p.args.map foldP).length * 64 ≤ _
      rw [List.length_map]
      exact hp.1
    · obtain ⟨y, hy, rfl⟩ := List.mem_map.1 hx
      exact ih y hy (hp.2 y hy)
  · rw [h, litP_eq]
    exact ⟨show 0 * 64 ≤ 140737488355328 from by decide, fun x hx => absurd hx List.not_mem_nil⟩

theorem foldGo_len {M : Nat} (hM : 256 ≤ M) : ∀ (l out : List PS), out.length + l.length ≤ M → (foldGo out l).length ≤ M := by
  intro l
  induction l with
  | nil => intro out h; rw [foldGo_nil]; simpa using h
  | cons x r ih =>
    intro out h
    rw [foldGo_cons]
    refine ih _ ?_
    rw [List.length_cons] at h
    rcases stepB_len out r.length (foldS x) with g | g <;> omega

theorem litS_go : ∀ (l out : List PS), (∀ x ∈ l, litS (foldS x)) → (∀ t ∈ out, litS t) → ∀ t ∈ foldGo out l, litS t := by
  intro l
  induction l with
  | nil => intro out _ h; rw [foldGo_nil]; exact h
  | cons x r ih =>
    intro out h ho
    rw [foldGo_cons]
    refine ih _ (fun y hy => h y (List.mem_cons_of_mem _ hy)) fun t ht => ?_
    have hx := (litS_eq (foldS x)).1 (h x List.mem_cons_self)
    rcases stepB_mem ht with g | ⟨rfl, _⟩ | g | g
    · exact ho t g
    · exact h x List.mem_cons_self
    · exact hx.2.1 t g
    · exact hx.2.2 t g

theorem litS_foldS : ∀ s : PS, litS s → litS (foldS s) := by
  refine PS.ind fun s i1 i2 hs => ?_
  have hs' := (litS_eq s).1 hs
  rw [foldS_eq, litS_eq]
  refine ⟨⟨?_, fun x hx => ?_, ?_, ?_⟩, fun t ht => ?_, fun t ht => ?_⟩
  · show (s.args.map foldP).length * 64 ≤ _
    rw [List.length_map]
    exact hs'.1.1
  · obtain ⟨y, hy, rfl⟩ := List.mem_map.1 hx
    exact litP_fold _ (hs'.1.2.1 y hy)
  · have := foldGo_len (M := max 256 s.body.length) (by omega) s.body [] (by simp; omega)
    have := hs'.1.2.2.1
    show (foldGo [] s.body).length * 104 ≤ _
    omega
  · have := foldGo_len (M := max 256 s.els.length) (by omega) s.els [] (by simp; omega)
    have := hs'.1.2.2.2
    show (foldGo [] s.els).length * 104 ≤ _
    omega
  · exact litS_go s.body [] (fun x hx => i1 x hx (hs'.2.1 x hx)) (fun t ht => absurd ht List.not_mem_nil) t ht
  · exact litS_go s.els [] (fun x hx => i2 x hx (hs'.2.2 x hx)) (fun t ht => absurd ht List.not_mem_nil) t ht

theorem litS_foldGo (l : List PS) (h : ∀ z ∈ l, litS z) : ∀ z ∈ foldGo [] l, litS z :=
  litS_go l [] (fun x hx => litS_foldS x (h x hx)) (fun t ht => absurd ht List.not_mem_nil)

end

section
open Go.RowKit
set_option linter.unusedVariables false

open Go.ChangeShapes Go.WideShapes Go.RowKit

section
variable {H : Type} {enc : TypeId × Value → H} {w : World} {base : Nat} {sp : Nat → Bool} {held : Bool}

theorem add_zero9 (a : Addr) : a.add 0 = a := by unfold Addr.add; rw [if_pos rfl]
theorem cellsE : Try.prog.cellsOf 31 = 5 := by kernel_rfl
theorem cellsI : Try.prog.cellsOf 3 = 1 := by kernel_rfl
theorem cellsT : Try.prog.cellsOf 9 = 1 := by kernel_rfl
theorem cellsEs : Try.prog.cellsOf 29 = 1 := by kernel_rfl

theorem wf_int64 {m : Int} (h : (Lit.int .i64 m).wf = true) : -9223372036854775808 ≤ m ∧ m ≤ 9223372036854775807 := by
  simp [Lit.wf, IntKind.min, IntKind.max, IntKind.signed, IntKind.bits] at h
  omega

set_option maxRecDepth 100000 in
theorem open_trees : ∀ (fuel : Nat), (∀ (cs : List Value) (x : DataW H × List MemPlace), DataW.trod enc Try.prog w base sp held fuel 31 cs = some x → ∃ e : EL, cs = (eCells e).toList ∧ e.In w w.heap.size) ∧
    (∀ (cs : List Value) (x : DataW H × List MemPlace), DataW.trod enc Try.prog w base sp held fuel 29 cs = some x → ∃ (A : Option Addr) (n c : Nat) (es : List EL), cs = [.slice A n c] ∧ RowE w w.heap.size A n es ∧ EL.Ins w w.heap.size es) := by
  intro fuel
  induction fuel using Nat.strongRecOn with
  | _ fuel ih =>
    have hes : ∀ (cs : List Value) (x : DataW H × List MemPlace), DataW.trod enc Try.prog w base sp held fuel 29 cs = some x → ∃ (A : Option Addr) (n c : Nat) (es : List EL), cs = [.slice A n c] ∧ RowE w w.heap.size A n es ∧ EL.Ins w w.heap.size es := by
      intro cs x h
      rcases DataW.trod_slice Try.underlying29 h with ⟨rfl, _⟩ | ⟨a, len, cap, elems, rest, m, hm, rfl, _, _, hlc, hcm, hlen, hel, _, _⟩
      · exact ⟨none, 0, 0, [], rfl, ⟨rfl, by omega, fun h => absurd h (Nat.lt_irrefl _)⟩, EL.Ins.of fun x hx => absurd hx List.not_mem_nil⟩
      · have each : ∀ i, i < len → ∃ e : EL, e.In w w.heap.size ∧ ∃ cs', w.cells? base (a.add (i * 5)) 5 = some cs' ∧ cs' = (eCells e).toList := by
          intro i hi
          have h1 := hel i hi
          rw [cellsE, List.getElem?_eq_getElem (by omega)] at h1
          obtain ⟨cs', h2, h3⟩ := Option.bind_eq_some_iff.1 h1
          obtain ⟨e, he, hin⟩ := (ih m (by omega)).1 cs' _ h3
          exact ⟨e, hin, cs', h2, he⟩
        have : Inhabited EL := ⟨nilE⟩
        obtain ⟨f, hf⟩ := Go.Deep.choose_lt each
        have hg : ∀ j, j < len → (((List.range len).map f)[j]?.getD nilE) = f j := fun j hj => by simp [hj]
        refine ⟨some a, len, cap, (List.range len).map f, rfl, ⟨by simp, by unfold maxLen at hcm; omega, fun h0 => ⟨a, rfl, ?_, fun j hj => ?_⟩⟩, EL.Ins.of fun x hx => ?_⟩
        · obtain ⟨_, cs', h2, h3⟩ := hf 0 h0
          obtain ⟨_, hl, hc⟩ := World.cells?_some h2
          have h4 := hc 0 (by omega)
          rw [h3] at h4
          have := World.block_lt_of_cell? w _ h4
          rw [blk_add, blk_add] at this
          exact this
        · have hj2 : j < len := by simpa using hj
          rw [hg j hj2]
          obtain ⟨_, cs', h2, h3⟩ := hf j hj2
          obtain ⟨_, hl, hc⟩ := World.cells?_some h2
          rw [h3] at hc hl
          have k0 := hc 0 (by decide)
          have k1 := hc 1 (by decide)
          have k2 := hc 2 (by decide)
          have k3 := hc 3 (by decide)
          have k4 := hc 4 (by decide)
          rw [add_pos _ 1 (by decide)] at k1
          rw [add_pos _ 2 (by decide)] at k2
          rw [add_pos _ 3 (by decide)] at k3
          rw [add_pos _ 4 (by decide)] at k4
          rw [add_zero9] at k0
          exact ⟨k0, k1, k2, k3, k4⟩
        · obtain ⟨i, hi, rfl⟩ := List.mem_map.mp hx
          exact (hf i (List.mem_range.mp hi)).1
    refine ⟨?_, hes⟩
    intro cs x h
    obtain ⟨xs, m, hm, hx, hlen, hxl, hf⟩ := DataW.trod_struct Try.underlying31 h
    rw [cellsE] at hlen
    match cs, hlen, xs, hxl with
    | [v0, v1, v2, v3, v4], _, [y0, y1, y2, y3, y4], _ =>
      have g0 := hf 0 _ rfl
      have g1 := hf 1 _ rfl
      have g2 := hf 2 _ rfl
      have g3 := hf 3 _ rfl
      have g4 := hf 4 _ rfl
      simp [cellsI, cellsT, cellsEs] at g0 g1 g2 g3 g4
      obtain ⟨z0, e0, _, q0⟩ := DataW.trod_int Try.underlying3 g0
      obtain ⟨z1, e1, _, q1⟩ := DataW.trod_int Try.underlying3 g1
      obtain ⟨z2, e2, _, q2⟩ := DataW.trod_int Try.underlying3 g2
      obtain ⟨s, e3, _, q3⟩ := DataW.trod_string Try.underlying9 g3
      obtain ⟨A, n, c, es, e4, hr, hi⟩ := (ih m (by omega)).2 [v4] _ g4
      simp at e0 e1 e2 e3 e4
      refine ⟨.mk z0 z1 z2 s.data.toList A n c es, ?_, ?_⟩
      · rw [e0, e1, e2, e3, e4]
        show _ = [_, _, _, Value.string (bs s.data.toList), _]
        rw [bs_data]
        rfl
      · unfold EL.In
        refine ⟨⟨?_, ?_, hr⟩, hi⟩
        · exact wf_int64 q2
        · rw [Array.length_toList]
          show (s.size : Int) ≤ _
          unfold maxLen at q3
          omega

theorem cellsS : Try.prog.cellsOf 48 = 6 := by kernel_rfl
theorem cellsSs : Try.prog.cellsOf 32 = 1 := by kernel_rfl

set_option maxRecDepth 100000 in
theorem open_stmts : ∀ (fuel : Nat) (cs : List Value) (x : DataW H × List MemPlace), DataW.trod enc Try.prog w base sp held fuel 32 cs = some x → ∃ (A : Option Addr) (n c : Nat) (ss : List SL), cs = [.slice A n c] ∧ RowS6 w w.heap.size A n ss ∧ SL.Ins w w.heap.size ss := by
  intro fuel
  induction fuel using Nat.strongRecOn with
  | _ fuel ih =>
    intro cs x h
    rcases DataW.trod_slice Try.underlying32 h with ⟨rfl, _⟩ | ⟨a, len, cap, elems, rest, m, hm, rfl, _, _, hlc, hcm, hlen, hel, _, _⟩
    · exact ⟨none, 0, 0, [], rfl, ⟨rfl, by omega, fun h => absurd h (Nat.lt_irrefl _)⟩, SL.Ins.of fun x hx => absurd hx List.not_mem_nil⟩
    · have one : ∀ (cs : List Value) (x : DataW H × List MemPlace), DataW.trod enc Try.prog w base sp held m 48 cs = some x → ∃ s : SL, cs = (sCells s).toList ∧ s.In w w.heap.size := by
        intro cs x h
        obtain ⟨xs, m2, hm2, hx, hlen, hxl, hf⟩ := DataW.trod_struct Try.underlying48 h
        rw [cellsS] at hlen
        match cs, hlen, xs, hxl with
        | [v0, v1, v2, v3, v4, v5], _, [y0, y1, y2, y3, y4, y5], _ =>
          have g0 := hf 0 _ rfl
          have g1 := hf 1 _ rfl
          have g2 := hf 2 _ rfl
          have g3 := hf 3 _ rfl
          have g4 := hf 4 _ rfl
          have g5 := hf 5 _ rfl
          simp [cellsI, cellsT, cellsEs, cellsSs] at g0 g1 g2 g3 g4 g5
          obtain ⟨z0, e0, _, q0⟩ := DataW.trod_int Try.underlying3 g0
          obtain ⟨z1, e1, _, q1⟩ := DataW.trod_int Try.underlying3 g1
          obtain ⟨s, e2, _, q2⟩ := DataW.trod_string Try.underlying9 g2
          obtain ⟨A, n, c, es, e3, hr, hi⟩ := (open_trees m2).2 [v3] _ g3
          obtain ⟨A1, n1, c1, bo, e4, hr1, hi1⟩ := ih m2 (by omega) [v4] _ g4
          obtain ⟨A2, n2, c2, el, e5, hr2, hi2⟩ := ih m2 (by omega) [v5] _ g5
          simp at e0 e1 e2 e3 e4 e5
          refine ⟨.mk z0 z1 s.data.toList A n c es A1 n1 c1 bo A2 n2 c2 el, ?_, ?_⟩
          · rw [e0, e1, e2, e3, e4, e5]
            show _ = [_, _, Value.string (bs s.data.toList), _, _, _]
            rw [bs_data]
            rfl
          · refine SL.In.mk ⟨⟨wf_int64 q1, ?_, ⟨hr, hi⟩, hr1, hr2⟩, hi1, hi2⟩
            show ((s.data.toList.length : Nat) : Int) ≤ _
            rw [Array.length_toList]
            show (s.size : Int) ≤ _
            unfold maxLen at q2
            omega
      have each : ∀ i, i < len → ∃ s : SL, s.In w w.heap.size ∧ ∃ cs', w.cells? base (a.add (i * 6)) 6 = some cs' ∧ cs' = (sCells s).toList := by
        intro i hi
        have h1 := hel i hi
        rw [cellsS, List.getElem?_eq_getElem (by omega)] at h1
        obtain ⟨cs', h2, h3⟩ := Option.bind_eq_some_iff.1 h1
        obtain ⟨s, he, hin⟩ := one cs' _ h3
        exact ⟨s, hin, cs', h2, he⟩
      have : Inhabited SL := ⟨nilS⟩
      obtain ⟨f, hf⟩ := Go.Deep.choose_lt each
      have hg : ∀ j, j < len → (((List.range len).map f)[j]?.getD nilS) = f j := fun j hj => by simp [hj]
      refine ⟨some a, len, cap, (List.range len).map f, rfl, ⟨by simp, by unfold maxLen at hcm; omega, fun h0 => ⟨a, rfl, ?_, fun j hj => ?_⟩⟩, SL.Ins.of fun x hx => ?_⟩
      · obtain ⟨_, cs', h2, h3⟩ := hf 0 h0
        obtain ⟨_, hl, hc⟩ := World.cells?_some h2
        have h4 := hc 0 (by omega)
        rw [h3] at h4
        have := World.block_lt_of_cell? w _ h4
        rw [blk_add, blk_add] at this
        exact this
      · have hj2 : j < len := by simpa using hj
        rw [hg j hj2]
        obtain ⟨_, cs', h2, h3⟩ := hf j hj2
        obtain ⟨_, hl, hc⟩ := World.cells?_some h2
        rw [h3] at hc hl
        have k0 := hc 0 (by decide)
        have k1 := hc 1 (by decide)
        have k2 := hc 2 (by decide)
        have k3 := hc 3 (by decide)
        have k4 := hc 4 (by decide)
        have k5 := hc 5 (by decide)
        rw [add_pos _ 1 (by decide)] at k1
        rw [add_pos _ 2 (by decide)] at k2
        rw [add_pos _ 3 (by decide)] at k3
        rw [add_pos _ 4 (by decide)] at k4
        rw [add_pos _ 5 (by decide)] at k5
        rw [add_zero9] at k0
        exact ⟨k0, k1, k2, k3, k4, k5⟩
      · obtain ⟨i, hi, rfl⟩ := List.mem_map.mp hx
        exact (hf i (List.mem_range.mp hi)).1
end

open Go.ChangeShapes Go.WideShapes Go.RowKit

section
variable {H : Type} {enc : TypeId × Value → H} {w : World} {base : Nat} {sp : Nat → Bool} {held : Bool}

theorem open_slice_any {t e : TypeId} (ht : Try.prog.underlying t = some (.slice e)) {fuel : Nat} {v : Value} {x : DataW H × List MemPlace} (h : DataW.trod enc Try.prog w base sp held fuel t [v] = some x) : ∃ (A : Option Addr) (n c : Nat), v = .slice A n c ∧ (n : Int) ≤ 9223372036854775807 := by
  rcases DataW.trod_slice ht h with ⟨hc, _⟩ | ⟨a, len, cap, elems, rest, m, _, hc, _, _, hlc, hcm, _⟩
  · simp at hc
    exact ⟨none, 0, 0, hc, by decide⟩
  · simp at hc
    exact ⟨some a, len, cap, hc, by unfold maxLen at hcm; omega⟩

theorem open_slice_ints {fuel : Nat} {v : Value} {x : DataW H × List MemPlace} (h : DataW.trod enc Try.prog w base sp held fuel 23 [v] = some x) : ∃ (A : Option Addr) (n c : Nat) (zs : List Int), v = .slice A n c ∧ (n : Int) ≤ 9223372036854775807 ∧ RdI w w.heap.size A n zs := by
  rcases open_ints Try.underlying23 Try.underlying3 (by kernel_rfl) h with ⟨hc, _⟩ | ⟨a, len, cap, zs, hc, _, hlc, hcm, hlen, _, hcell, hwz⟩
  · simp at hc
    exact ⟨none, 0, 0, [], hc, by decide, RdI.none_ _ _⟩
  · simp at hc
    have hl : len ≤ zs.length := by rw [hlen]; split <;> omega
    refine ⟨some a, len, cap, zs.take len, hc, by unfold maxLen at hcm; omega, by simp; omega, fun hn => ⟨a, rfl, ?_, fun j hj => ?_⟩, fun j => ?_⟩
    · have := World.block_lt_of_cell? w _ (hcell 0 (by omega))
      rw [blk_add] at this
      exact this
    · have hj2 : j < len := by simp at hj; omega
      rw [hcell j (by omega)]
      simp [List.getD, hj2]
    · by_cases hj : j < len
      · have e : (zs.take len).getD j 0 = zs.getD j 0 := by simp [List.getD, hj]
        rw [e]
        exact wf_i64 (hwz _ (by simp [List.getD, show j < zs.length from by omega]))
      · have e : (zs.take len).getD j 0 = 0 := by rw [List.getD, List.getElem?_take, if_neg hj]; rfl
        rw [e]
        omega

theorem cellsL0 : Try.prog.cellsOf 22 = 1 := by kernel_rfl
theorem cellsL1 : Try.prog.cellsOf 23 = 1 := by kernel_rfl
theorem cellsL2 : Try.prog.cellsOf 24 = 1 := by kernel_rfl
theorem cellsL3 : Try.prog.cellsOf 25 = 1 := by kernel_rfl
theorem cellsL4 : Try.prog.cellsOf 26 = 1 := by kernel_rfl
theorem cellsTb : Try.prog.cellsOf 28 = 15 := by kernel_rfl

set_option maxRecDepth 100000 in
set_option maxHeartbeats 1600000 in
theorem open_tables (fuel : Nat) (cs : List Value) (x : DataW H × List MemPlace) (h : DataW.trod enc Try.prog w base sp held fuel 28 cs = some x) : ∃ T : TV, cs = T.cells.toList ∧ T.In w w.heap.size := by
  obtain ⟨xs, m, hm, hx, hlen, hxl, hf⟩ := DataW.trod_struct Try.underlying28 h
  rw [cellsTb] at hlen
  match cs, hlen, xs, hxl with
  | [v0, v1, v2, v3, v4, v5, v6, v7, v8, v9, v10, v11, v12, v13, v14], _, [y0, y1, y2, y3, y4, y5, y6, y7, y8, y9, y10, y11, y12, y13, y14], _ =>
    have g0 := hf 0 _ rfl
    have g1 := hf 1 _ rfl
    have g2 := hf 2 _ rfl
    have g3 := hf 3 _ rfl
    have g4 := hf 4 _ rfl
    have g5 := hf 5 _ rfl
    have g6 := hf 6 _ rfl
    have g7 := hf 7 _ rfl
    have g8 := hf 8 _ rfl
    have g9 := hf 9 _ rfl
    have g10 := hf 10 _ rfl
    have g11 := hf 11 _ rfl
    have g12 := hf 12 _ rfl
    have g13 := hf 13 _ rfl
    have g14 := hf 14 _ rfl
    simp [cellsI, cellsL0, cellsL1, cellsL2, cellsL3, cellsL4] at g0 g1 g2 g3 g4 g5 g6 g7 g8 g9 g10 g11 g12 g13 g14
    obtain ⟨z0, e0, _, q0⟩ := DataW.trod_int Try.underlying3 g0
    simp at e0
    obtain ⟨z1, e1, _, q1⟩ := DataW.trod_int Try.underlying3 g1
    simp at e1
    obtain ⟨z2, e2, _, q2⟩ := DataW.trod_int Try.underlying3 g2
    simp at e2
    obtain ⟨z3, e3, _, q3⟩ := DataW.trod_int Try.underlying3 g3
    simp at e3
    obtain ⟨A4, n4, c4, e4, b4⟩ := open_slice_any Try.underlying22 g4
    obtain ⟨z5, e5, _, q5⟩ := DataW.trod_int Try.underlying3 g5
    simp at e5
    obtain ⟨A6, n6, c6, e6, b6⟩ := open_slice_any Try.underlying23 g6
    obtain ⟨A7, n7, c7, e7, b7⟩ := open_slice_any Try.underlying23 g7
    obtain ⟨A8, n8, c8, e8, b8⟩ := open_slice_any Try.underlying24 g8
    obtain ⟨A9, n9, c9, e9, b9⟩ := open_slice_any Try.underlying25 g9
    obtain ⟨A10, n10, c10, e10, b10⟩ := open_slice_any Try.underlying26 g10
    obtain ⟨A11, n11, c11, zs11, e11, b11, r11⟩ := open_slice_ints g11
    obtain ⟨A12, n12, c12, e12, b12⟩ := open_slice_any Try.underlying23 g12
    obtain ⟨A13, n13, c13, zs13, e13, b13, r13⟩ := open_slice_ints g13
    obtain ⟨A14, n14, c14, e14, b14⟩ := open_slice_any Try.underlying23 g14
    refine ⟨TV.mk z0 z1 z2 z3 A4 n4 c4 z5 A6 n6 c6 A7 n7 c7 A8 n8 c8 A9 n9 c9 A10 n10 c10 A11 n11 c11 A12 n12 c12 A13 n13 c13 A14 n14 c14 zs11 zs13, ?_, ⟨⟨b4, b6, b7, b11, b12, b13⟩, r11, r13⟩⟩
    rw [e0, e1, e2, e3, e4, e5, e6, e7, e8, e9, e10, e11, e12, e13, e14]
    rfl
end

end

section
open Go.RowKit
set_option linter.unusedVariables false
set_option linter.unusedSimpArgs false

open Go.ChangeShapes Go.WideShapes Go.RowKit

theorem bytesEF : Try.prog.bytesOf 31 = 64 := by kernel_rfl
theorem bytesSF : Try.prog.bytesOf 48 = 104 := by kernel_rfl

theorem weightsAll_atF {H : Type} {P : Program} {e : TypeId} : ∀ (l : List (DataW H)) (d : DataW H), d ∈ l → ∀ b ∈ d.weights P e, b ∈ DataW.weightsAll P e l := by
  intro l
  induction l with
  | nil => intro d h; cases h
  | cons y r ih =>
    intro d h b hb
    unfold DataW.weightsAll
    rcases List.mem_cons.mp h with rfl | h
    · exact List.mem_append_left _ hb
    · exact List.mem_append_right _ (ih d h b hb)
/-- an element's weights are its row's -/
theorem row_weights {H : Type} {P : Program} {t e : TypeId} (ht : P.underlying t = some (.slice e)) {l r : List (DataW H)} {d : DataW H} (hd : d ∈ l) {b : Nat} (hb : b ∈ d.weights P e) : b ∈ (DataW.slice l r).weights P t := by
  unfold DataW.weights
  rw [ht]
  exact List.mem_cons_of_mem _ (List.mem_append_left _ (weightsAll_atF l d hd b hb))
/-- a row's own weight -/
theorem row_weight_ {H : Type} {P : Program} {t e : TypeId} (ht : P.underlying t = some (.slice e)) (l r : List (DataW H)) (hw : ∀ b ∈ (DataW.slice l r).weights P t, b ≤ reachBytes) : l.length * P.bytesOf e ≤ 140737488355328 := by
  have := hw ((l.length + r.length) * P.bytesOf e) (by unfold DataW.weights; rw [ht]; exact List.mem_cons_self)
  unfold reachBytes at this
  rw [Nat.add_mul] at this
  omega

end

section
set_option linter.unusedVariables false
set_option linter.unusedSimpArgs false

theorem wrapV_i16 (n : Int) : IntKind.i16.wrap n = wrapV n := by
  have h1 := Int.tmod_lt_of_pos n (show (0 : Int) < 65536 by decide)
  have h2 := Int.mul_tdiv_add_tmod n 65536
  have h3 := Int.emod_emod_of_dvd n (show (65536 : Int) ∣ 65536 by decide)
  have h4 : -65536 < n.tmod 65536 := by
    rcases Int.le_total 0 n with h | h
    · have := Int.tmod_nonneg 65536 h
      omega
    · have h3 := Int.tmod_lt_of_pos (-n) (show (0 : Int) < 65536 by decide)
      rw [Int.neg_tmod] at h3
      omega
  have hw : IntKind.i16.wrap n = if 32768 ≤ n % 65536 then n % 65536 - 65536 else n % 65536 := by
    show (if (true && decide (n % (2 ^ 16 : Int) ≥ (2 ^ 15 : Int))) = true then n % (2 ^ 16 : Int) - (2 ^ 16 : Int) else n % (2 ^ 16 : Int)) = _
    simp only [Bool.true_and, decide_eq_true_eq, show (2 : Int) ^ 16 = 65536 from by decide, show (2 : Int) ^ 15 = 32768 from by decide, ge_iff_le]
  rw [hw]
  unfold wrapV
  generalize n.tmod 65536 = t at *
  generalize n.tdiv 65536 = q at *
  split <;> split <;> (first | (split <;> omega) | omega)

theorem wrapV_id (n : Int) (h1 : -32768 ≤ n) (h2 : n ≤ 32767) : wrapV n = n := by
  rw [← wrapV_i16]
  show (if (true && decide (n % (2 ^ 16 : Int) ≥ (2 ^ 15 : Int))) = true then n % (2 ^ 16 : Int) - (2 ^ 16 : Int) else n % (2 ^ 16 : Int)) = _
  simp only [Bool.true_and, decide_eq_true_eq, show (2 : Int) ^ 16 = 65536 from by decide, show (2 : Int) ^ 15 = 32768 from by decide]
  split <;> omega
theorem wrapV_wrapV (n : Int) : wrapV (wrapV n) = wrapV n := wrapV_id _ (wrapV_range n).1 (wrapV_range n).2

def cmpV (op x y : Int) : Bool :=
  if op = 3 ∨ op = 4 then decide (x = y) == decide (op = 3)
  else if op = 5 ∨ op = 8 then decide (x < y) == decide (op = 5)
  else decide (x > y) == decide (op = 7)
def calcV (op a b : Int) : Int × Int :=
  if op = 10 then (addV a b, 0)
  else if op = 11 then (subV a b, 0)
  else if op = 12 then (mulV a b, 0)
  else if op = 13 then divV a b
  else modV a b
def connV (op l rk rm : Int) : Int × Bool :=
  if (decide (wrapV l ≠ 0) == decide (op = 1)) = true then (truthV (decide (op = 1)), true) else (truthV (decide (wrapV rm ≠ 0)), decide (rk = 1))
/-- what the program's binary hands back -/
def binE (op l rk rm : Int) : Int × Bool :=
  if op = 1 ∨ op = 2 then connV op l rk rm
  else if op = 3 ∨ op = 4 ∨ op = 5 ∨ op = 6 ∨ op = 7 ∨ op = 8 then (truthV (cmpV op (wrapV l) (wrapV rm)), decide (rk = 1))
  else if op = 10 ∨ op = 11 ∨ op = 12 ∨ op = 13 ∨ op = 14 then ((calcV op l rm).1, decide ((calcV op l rm).2 = 0) && decide (rk = 1))
  else (0, false)
/-- what the program's evaluate hands back -/
def evalE (p : PE) : Int × Bool :=
  if p.args.length = 0 ∨ (p.args[0]?.getD nilP).kind ≠ 1 then (0, false)
  else if p.kind = 6 ∧ p.args.length = 2 then binE p.op (p.args[0]?.getD nilP).num (p.args[1]?.getD nilP).kind (p.args[1]?.getD nilP).num
  else if p.kind = 5 ∧ p.args.length = 1 then (truthV (decide (wrapV (p.args[0]?.getD nilP).num = 0)), true)
  else if p.kind = 4 ∧ p.args.length = 1 then (negV (p.args[0]?.getD nilP).num, true)
  else (0, false)

theorem binE_step (p : PE) (op l rk rm : Int) : (if op = 2 ∧ wrapV l = 0 then numP 0 else if op = 1 ∧ wrapV l ≠ 0 then numP 1 else if rk ≠ 1 then p else if (binV op (wrapV l) rm).2 = true then numP (binV op (wrapV l) rm).1 else p) = if (binE op l rk rm).2 = true then numP (binE op l rk rm).1 else p := by
  have hw := wrapV_wrapV l
  have ha : addV (wrapV l) rm = addV l rm := by unfold addV; rw [hw]
  have hs : subV (wrapV l) rm = subV l rm := by unfold subV; rw [hw]
  have hm : mulV (wrapV l) rm = mulV l rm := by unfold mulV; rw [hw]
  have hd : divV (wrapV l) rm = divV l rm := by unfold divV; rw [hw]
  have ho : modV (wrapV l) rm = modV l rm := by unfold modV; rw [hw]
  unfold binE
  by_cases h1 : op = 1
  · subst h1
    unfold connV binV holdsV truthV
    rw [hw]
    generalize wrapV l = x
    generalize wrapV rm = y
    by_cases hx : x = 0 <;> by_cases hy : y = 0 <;> by_cases hk : rk = 1 <;> simp [hx, hy, hk]
  by_cases h2 : op = 2
  · subst h2
    unfold connV binV holdsV truthV
    rw [hw]
    generalize wrapV l = x
    generalize wrapV rm = y
    by_cases hx : x = 0 <;> by_cases hy : y = 0 <;> by_cases hk : rk = 1 <;> simp [hx, hy, hk]
  rw [if_neg (show ¬ (op = 2 ∧ wrapV l = 0) from fun h => h2 h.1), if_neg (show ¬ (op = 1 ∧ wrapV l ≠ 0) from fun h => h1 h.1), show (if op = 1 ∨ op = 2 then connV op l rk rm else if op = 3 ∨ op = 4 ∨ op = 5 ∨ op = 6 ∨ op = 7 ∨ op = 8 then (truthV (cmpV op (wrapV l) (wrapV rm)), decide (rk = 1)) else if op = 10 ∨ op = 11 ∨ op = 12 ∨ op = 13 ∨ op = 14 then ((calcV op l rm).1, decide ((calcV op l rm).2 = 0) && decide (rk = 1)) else (0, false)) = (if op = 3 ∨ op = 4 ∨ op = 5 ∨ op = 6 ∨ op = 7 ∨ op = 8 then (truthV (cmpV op (wrapV l) (wrapV rm)), decide (rk = 1)) else if op = 10 ∨ op = 11 ∨ op = 12 ∨ op = 13 ∨ op = 14 then ((calcV op l rm).1, decide ((calcV op l rm).2 = 0) && decide (rk = 1)) else (0, false)) from if_neg (fun h => h.elim h1 h2)]
  by_cases hc : op = 3 ∨ op = 4 ∨ op = 5 ∨ op = 6 ∨ op = 7 ∨ op = 8
  · rw [if_pos hc]
    have hb : binV op (wrapV l) rm = (truthV (cmpV op (wrapV l) (wrapV rm)), true) := by
      unfold binV holdsV cmpV
      rw [hw]
      generalize wrapV l = x
      generalize wrapV rm = y
      rcases hc with rfl | rfl | rfl | rfl | rfl | rfl <;> simp <;> congr 1 <;> (first | rfl | (by_cases hxy : x = y <;> simp [hxy]; done) | (by_cases hxy : x < y <;> simp [hxy] <;> omega) | (by_cases hxy : y < x <;> simp [hxy] <;> omega))
    rw [hb]
    by_cases hk : rk = 1 <;> simp [hk]
  rw [if_neg hc]
  by_cases hb : op = 10 ∨ op = 11 ∨ op = 12 ∨ op = 13 ∨ op = 14
  · rw [if_pos hb]
    have hh : holdsV op (wrapV l) rm = (false, false) := by
      unfold holdsV
      rcases hb with rfl | rfl | rfl | rfl | rfl <;> rfl
    have hv : binV op (wrapV l) rm = ((calcV op l rm).1, decide ((calcV op l rm).2 = 0)) := by
      unfold binV calcV
      rw [hh, ha, hs, hm, hd, ho]
      rcases hb with rfl | rfl | rfl | rfl | rfl <;> simp [modV] <;> (split <;> simp_all)
    rw [hv]
    by_cases hk : rk = 1 <;> simp [hk]
  · rw [if_neg hb]
    have hv : (binV op (wrapV l) rm).2 = false := by
      have hh : holdsV op (wrapV l) rm = (false, false) := by
        unfold holdsV
        simp only [not_or] at hc
        simp [h1, h2, hc]
      unfold binV
      rw [hh]
      simp only [not_or] at hb
      simp [hb]
    rw [hv]
    simp

theorem evalE_step (p : PE) : stepF p = if (evalE p).2 = true then numP (evalE p).1 else p := by
  unfold stepF evalE
  obtain ⟨k, o, m, s, as1⟩ := p
  have ea : (PE.mk k o m s as1).args = as1 := rfl
  have ek : (PE.mk k o m s as1).kind = k := rfl
  have eo : (PE.mk k o m s as1).op = o := rfl
  rw [ea, ek, eo]
  clear ea ek eo
  match as1 with
  | [] => simp
  | [x] =>
    by_cases hx : x.kind = 1
    · by_cases h4 : k = 4
      · subst h4; simp [hx]
      · by_cases h5 : k = 5
        · subst h5; simp [hx]
        · simp [hx, h4, h5]
    · simp [hx]
  | [x, y] =>
    by_cases hx : x.kind = 1
    · by_cases h6 : k = 6
      · subst h6
        have := binE_step (.mk 6 o m s [x, y]) o x.num y.kind y.num
        simp [hx]
        simpa using this
      · simp [hx, h6]
    · simp [hx]
  | x :: y :: z :: r => simp

theorem modV_range (a b : Int) : -32768 ≤ (modV a b).1 ∧ (modV a b).1 ≤ 32767 := by
  have ha := wrapV_range a
  have hb := wrapV_range b
  unfold modV
  split
  · exact ⟨by show (-32768 : Int) ≤ 0; omega, by show (0 : Int) ≤ 32767; omega⟩
  · rename_i hy
    show -32768 ≤ wrapV a - (wrapV a).tdiv (wrapV b) * wrapV b ∧ wrapV a - (wrapV a).tdiv (wrapV b) * wrapV b ≤ 32767
    rw [Int.mul_comm, ← Int.tmod_def]
    have h1 := Int.natAbs_tmod (wrapV a) (wrapV b)
    have h2 : (wrapV a).natAbs % (wrapV b).natAbs < (wrapV b).natAbs := Nat.mod_lt _ (by omega)
    omega
theorem divV_range (a b : Int) : -32768 ≤ (divV a b).1 ∧ (divV a b).1 ≤ 32767 := by
  unfold divV
  split
  · exact ⟨by show (-32768 : Int) ≤ 0; omega, by show (0 : Int) ≤ 32767; omega⟩
  · exact wrapV_range _
theorem truthV_range (b : Bool) : -32768 ≤ truthV b ∧ truthV b ≤ 32767 := by cases b <;> (unfold truthV; decide)
theorem evalE_range (p : PE) : -9223372036854775808 ≤ (evalE p).1 ∧ (evalE p).1 ≤ 9223372036854775807 := by
  have h : -32768 ≤ (evalE p).1 ∧ (evalE p).1 ≤ 32767 := by
    have h0 : (-32768 : Int) ≤ 0 ∧ (0 : Int) ≤ 32767 := by decide
    unfold evalE
    split
    · exact h0
    split
    · unfold binE
      split
      · unfold connV
        split
        · exact truthV_range _
        · exact truthV_range _
      split
      · exact truthV_range _
      split
      · show -32768 ≤ (calcV p.op (p.args[0]?.getD nilP).num (p.args[1]?.getD nilP).num).1 ∧ (calcV p.op (p.args[0]?.getD nilP).num (p.args[1]?.getD nilP).num).1 ≤ 32767
        unfold calcV
        split
        · exact wrapV_range _
        split
        · exact wrapV_range _
        split
        · exact wrapV_range _
        split
        · exact divV_range _ _
        · exact modV_range _ _
      · exact h0
    split
    · exact truthV_range _
    split
    · exact wrapV_range _
    · exact h0
  omega

end

section
open Go.RowKit
set_option linter.unusedVariables false
set_option linter.unusedSimpArgs false

set_option maxHeartbeats 1000000 in
theorem pWrap_any (n : Int) (w : World) : Calls Try.prog 79 #[.int .i64 n] w fun e w' => e = .returned (.int .i64 (wrapV n)) ∧ w' = w := by
  have h1 := wrapV_i16 n
  have h2 := wrapV_range n
  obtain ⟨v, hv⟩ : ∃ v, v = wrapV n := ⟨_, rfl⟩
  rw [← hv] at h1 h2 ⊢
  clear hv
  have wq : IntKind.i64.wrap v = v := by rw [IntKind.wrap_i64]; omega
  have wq2 : wrap64 v = v := IntWalk.wrap64_in _ (by omega)
  have H1 := Lib.hid h1
  go_enter Try.func79, Try.ntmps79
  go_wp2_with fail
  go_ret
  exact ⟨by first | rfl | rw [h1, wq], rfl⟩

set_option maxHeartbeats 1000000 in
theorem pAdd_any (a b : Int) (w : World) : Calls Try.prog 92 #[.int .i64 a, .int .i64 b] w fun e w' => e = .returned (.int .i64 (addV a b)) ∧ w' = w := by
  have ha := wrapV_range a
  have hb := wrapV_range b
  have H1 := Lib.hid (pWrap_any a w)
  have H2 := Lib.hid (pWrap_any b w)
  have H3 := Lib.hid (pWrap_any (wrapV a + wrapV b) w)
  have HV : Hid (addV a b = wrapV (wrapV a + wrapV b)) := Lib.hid rfl
  generalize wrapV a = x at ha H1 H3 HV
  generalize wrapV b = y at hb H2 H3 HV
  have wq : IntKind.i64.wrap (x + y) = x + y := by rw [IntKind.wrap_i64]; omega
  have wq2 : wrap64 (x + y) = x + y := IntWalk.wrap64_in _ (by omega)
  go_enter Try.func92, Try.ntmps92
  go_wp2_with fail
  refine H1.out.mono ?_
  rintro e w1 ⟨rfl, rfl⟩
  go_wp2_with fail
  refine H2.out.mono ?_
  rintro e w2 ⟨rfl, rfl⟩
  go_wp2_with fail
  refine H3.out.mono ?_
  rintro e w3 ⟨rfl, rfl⟩
  go_wp2_with fail
  go_ret
  exact ⟨by rw [HV.out]; rfl, rfl⟩

set_option maxHeartbeats 1000000 in
theorem pSub_any (a b : Int) (w : World) : Calls Try.prog 93 #[.int .i64 a, .int .i64 b] w fun e w' => e = .returned (.int .i64 (subV a b)) ∧ w' = w := by
  have ha := wrapV_range a
  have hb := wrapV_range b
  have H1 := Lib.hid (pWrap_any a w)
  have H2 := Lib.hid (pWrap_any b w)
  have H3 := Lib.hid (pWrap_any (wrapV a - wrapV b) w)
  have HV : Hid (subV a b = wrapV (wrapV a - wrapV b)) := Lib.hid rfl
  generalize wrapV a = x at ha H1 H3 HV
  generalize wrapV b = y at hb H2 H3 HV
  have wq : IntKind.i64.wrap (x - y) = x - y := by rw [IntKind.wrap_i64]; omega
  have wq2 : wrap64 (x - y) = x - y := IntWalk.wrap64_in _ (by omega)
  go_enter Try.func93, Try.ntmps93
  go_wp2_with fail
  refine H1.out.mono ?_
  rintro e w1 ⟨rfl, rfl⟩
  go_wp2_with fail
  refine H2.out.mono ?_
  rintro e w2 ⟨rfl, rfl⟩
  go_wp2_with fail
  refine H3.out.mono ?_
  rintro e w3 ⟨rfl, rfl⟩
  go_wp2_with fail
  go_ret
  exact ⟨by rw [HV.out]; rfl, rfl⟩

set_option maxHeartbeats 1000000 in
theorem pMul_any (a b : Int) (w : World) : Calls Try.prog 94 #[.int .i64 a, .int .i64 b] w fun e w' => e = .returned (.int .i64 (mulV a b)) ∧ w' = w := by
  have ha := wrapV_range a
  have hb := wrapV_range b
  have H1 := Lib.hid (pWrap_any a w)
  have H2 := Lib.hid (pWrap_any b w)
  have H3 := Lib.hid (pWrap_any (wrapV a * wrapV b) w)
  have HV : Hid (mulV a b = wrapV (wrapV a * wrapV b)) := Lib.hid rfl
  generalize wrapV a = x at ha H1 H3 HV
  generalize wrapV b = y at hb H2 H3 HV
  have hxy : -1073741824 ≤ x * y ∧ x * y ≤ 1073741824 := by
    obtain ⟨a1, a2⟩ := ha
    obtain ⟨b1, b2⟩ := hb
    have h1 : 0 ≤ (32768 - x) * (32768 + y) := Int.mul_nonneg (by omega) (by omega)
    have h2 : 0 ≤ (32768 + x) * (32768 - y) := Int.mul_nonneg (by omega) (by omega)
    have h3 : 0 ≤ (32768 + x) * (32768 + y) := Int.mul_nonneg (by omega) (by omega)
    have h4 : 0 ≤ (32768 - x) * (32768 - y) := Int.mul_nonneg (by omega) (by omega)
    rw [Int.sub_mul, Int.mul_add, Int.mul_add] at h1
    rw [Int.add_mul, Int.mul_sub, Int.mul_sub] at h2
    rw [Int.add_mul, Int.mul_add, Int.mul_add] at h3
    rw [Int.sub_mul, Int.mul_sub, Int.mul_sub] at h4
    omega
  have wq : IntKind.i64.wrap (x * y) = x * y := by rw [IntKind.wrap_i64]; omega
  have wq2 : wrap64 (x * y) = x * y := IntWalk.wrap64_in _ (by omega)
  go_enter Try.func94, Try.ntmps94
  go_wp2_with fail
  refine H1.out.mono ?_
  rintro e w1 ⟨rfl, rfl⟩
  go_wp2_with fail
  refine H2.out.mono ?_
  rintro e w2 ⟨rfl, rfl⟩
  go_wp2_with fail
  refine H3.out.mono ?_
  rintro e w3 ⟨rfl, rfl⟩
  go_wp2_with fail
  go_ret
  exact ⟨by rw [HV.out]; rfl, rfl⟩

set_option maxHeartbeats 1000000 in
theorem pNeg_any (a : Int) (w : World) : Calls Try.prog 52 #[.int .i64 a] w fun e w' => e = .returned (.int .i64 (negV a)) ∧ w' = w := by
  have ha := wrapV_range a
  have H1 := Lib.hid (pWrap_any a w)
  have H3 := Lib.hid (pWrap_any (0 - wrapV a) w)
  have HV : Hid (negV a = wrapV (0 - wrapV a)) := Lib.hid rfl
  generalize wrapV a = x at ha H1 H3 HV
  rw [show (0 : Int) - x = -x by omega] at H3 HV
  have wq : IntKind.i64.wrap (-x) = -x := by rw [IntKind.wrap_i64]; omega
  have wq2 : wrap64 (-x) = -x := IntWalk.wrap64_in _ (by omega)
  have wq3 : IntKind.i64.wrap (0 - x) = -x := by rw [IntKind.wrap_i64]; omega
  have wq4 : wrap64 (0 - x) = -x := by rw [IntWalk.wrap64_in _ (by omega)]; omega
  go_enter Try.func52, Try.ntmps52
  go_wp2_with fail
  refine H1.out.mono ?_
  rintro e w1 ⟨rfl, rfl⟩
  go_wp2_with fail
  refine H3.out.mono ?_
  rintro e w3 ⟨rfl, rfl⟩
  go_wp2_with fail
  go_ret
  exact ⟨by rw [HV.out]; rfl, rfl⟩

set_option maxHeartbeats 1000000 in
theorem pDiv_any (a b : Int) (w : World) : Calls Try.prog 95 #[.int .i64 a, .int .i64 b] w fun e w' => e = .returned (.tuple #[.int .i64 (divV a b).1, .int .i64 (divV a b).2]) ∧ w' = w := by
  have ha := wrapV_range a
  have hb := wrapV_range b
  have H1 := Lib.hid (pWrap_any a w)
  have H2 := Lib.hid (pWrap_any b w)
  have HV : Hid (divV a b = if wrapV b = 0 then (0, 1) else (wrapV ((wrapV a).tdiv (wrapV b)), 0)) := Lib.hid rfl
  generalize wrapV a = x at ha H1 HV
  generalize wrapV b = y at hb H2 HV
  have hq := tdiv_bound x y ha.1 ha.2
  obtain ⟨q, hq0⟩ : ∃ q, q = x.tdiv y := ⟨_, rfl⟩
  rw [← hq0] at hq HV
  have wq : IntKind.i64.wrap (x.tdiv y) = q := by rw [← hq0, IntKind.wrap_i64]; omega
  have wq2 : wrap64 (x.tdiv y) = q := by rw [← hq0]; exact IntWalk.wrap64_in _ (by omega)
  clear hq0
  go_enter Try.func95, Try.ntmps95
  go_wp2_with fail
  refine H2.out.mono ?_
  rintro e w1 ⟨rfl, rfl⟩
  by_cases hy : y = 0
  · have HR := Lib.hid (HV.out.trans (if_pos hy))
    subst hy
    go_wp2_with fail
    go_ret2
    exact ⟨by rw [HR.out]; rfl, rfl⟩
  · have HR := Lib.hid (HV.out.trans (if_neg hy))
    go_wp2_with fail
    refine H1.out.mono ?_
    rintro e w2 ⟨rfl, rfl⟩
    go_wp2_with fail
    refine (pWrap_any _ _).mono ?_
    rintro e w4 ⟨rfl, rfl⟩
    go_wp2_with fail
    go_ret2
    exact ⟨by rw [HR.out]; rfl, rfl⟩

set_option maxHeartbeats 1000000 in
theorem pMod_any (a b : Int) (w : World) : Calls Try.prog 96 #[.int .i64 a, .int .i64 b] w fun e w' => e = .returned (.tuple #[.int .i64 (modV a b).1, .int .i64 (modV a b).2]) ∧ w' = w := by
  have ha := wrapV_range a
  have hb := wrapV_range b
  have H1 := Lib.hid (pWrap_any a w)
  have H2 := Lib.hid (pWrap_any b w)
  have HV : Hid (modV a b = if wrapV b = 0 then (0, 1) else ((wrapV a).tmod (wrapV b), 0)) := Lib.hid (by unfold modV; rw [Int.tmod_def, Int.mul_comm])
  generalize wrapV a = x at ha H1 HV
  generalize wrapV b = y at hb H2 HV
  go_enter Try.func96, Try.ntmps96
  go_wp2_with fail
  refine H2.out.mono ?_
  rintro e w1 ⟨rfl, rfl⟩
  by_cases hy : y = 0
  · have HR := Lib.hid (HV.out.trans (if_pos hy))
    subst hy
    go_wp2_with fail
    go_ret2
    exact ⟨by rw [HR.out]; rfl, rfl⟩
  · have HR := Lib.hid (HV.out.trans (if_neg hy))
    go_wp2_with fail
    refine H1.out.mono ?_
    rintro e w2 ⟨rfl, rfl⟩
    go_wp2_with fail
    go_ret2
    exact ⟨by rw [HR.out]; rfl, rfl⟩

set_option maxHeartbeats 1000000 in
theorem ftrue_any (n : Int) (w : World) : Calls Try.prog 51 #[.int .i64 n] w fun e w' => e = .returned (.bool (decide (wrapV n ≠ 0))) ∧ w' = w := by
  have H1 := Lib.hid (pWrap_any n w)
  generalize wrapV n = x at H1
  go_enter Try.func51, Try.ntmps51
  go_wp2_with fail
  refine H1.out.mono ?_
  rintro e w1 ⟨rfl, rfl⟩
  go_wp2_with fail
  go_ret
  refine ⟨?_, rfl⟩
  by_cases h : x = 0 <;> simp [h]

set_option maxHeartbeats 1000000 in
theorem ftruth_any (b : Bool) (w : World) : Calls Try.prog 50 #[.bool b] w fun e w' => e = .returned (.int .i64 (truthV b)) ∧ w' = w := by
  cases b with
  | true =>
    go_enter Try.func50, Try.ntmps50
    go_wp2_with fail
    go_ret
    exact ⟨rfl, rfl⟩
  | false =>
    go_enter Try.func50, Try.ntmps50
    go_wp2_with fail
    go_ret
    exact ⟨rfl, rfl⟩

set_option maxHeartbeats 1000000 in
theorem fisnum_any (e : EL) (w : World) : Calls Try.prog 48 #[eVal e] w fun f w' => f = .returned (.bool (decide (e.kind = 1))) ∧ Below w.heap.size w w' := by
  obtain ⟨k, o, m, s, A, n, c, es⟩ := e
  show Calls Try.prog _ #[.agg #[.int .i64 k, .int .i64 o, .int .i64 m, .string (bs s), .slice A n c]] w fun f w' => f = .returned (.bool (decide (k = 1))) ∧ Below w.heap.size w w'
  have qk : (k == 1) = decide (k = 1) := beq_dec18 k 1
  go_enter Try.func48, Try.ntmps48
  go_wp2_with fail
  go_ret
  refine ⟨?_, (Below.refl _ w).alloc (Nat.le_refl _) _⟩
  first | rfl | (rw [← qk]; rfl)

set_option maxHeartbeats 1000000 in
theorem fnumber_any (m : Int) (w : World) : Calls Try.prog 28 #[.int .i64 m] w fun f w' => f = .returned (.agg #[.int .i64 1, .int .i64 0, .int .i64 m, .string ⟨#[]⟩, .slice none 0 0]) ∧ Below w.heap.size w w' := by
  obtain ⟨W, hW⟩ : ∃ W, W = w.alloc (.cells #[.int .i64 0, .int .i64 0, .int .i64 0, .string ⟨#[]⟩, .slice none 0 0] 31) := ⟨_, rfl⟩
  have HB : Hid (Below w.heap.size w W) := Lib.hid (by rw [hW]; exact (Below.refl _ _).alloc (Nat.le_refl _) _)
  have HK : Hid (Blk W w.heap.size 31 #[.int .i64 0, .int .i64 0, .int .i64 0, .string ⟨#[]⟩, .slice none 0 0]) := Lib.hid (by rw [hW]; exact Blk.new _ _ _)
  go_enter Try.func28, Try.ntmps28
  go_wp2_with (refine wpList_store_row rfl 31 _ _ rfl w.heap.size #[.int .i64 1, .int .i64 0, .int .i64 m, .string ⟨#[]⟩, .slice none 0 0] rfl rfl _ _ (Blk.new w _ _) expr_size rfl (expr_one _ _ _ _ _ _ _) ?_)
  rw [← hW]
  (try simp only [Exit.inBlock, Exit.then]); refine bodyPost_ret (results_cell_row rfl _ _ _ _ _ _ _ rfl (setRow_heap _ _ _ _ _ _ HK.out) Try.underlying31 rfl (by kernel_rfl)) rfl ?_
  exact ⟨rfl, below_setRow HB.out (Nat.le_refl _) _⟩

set_option maxHeartbeats 2000000 in
theorem fcompared_any (o x y : Int) (w : World) : Calls Try.prog 78 #[.int .i64 o, .int .i64 x, .int .i64 y] w fun e w' => e = .returned (.bool (cmpV o x y)) ∧ w' = w := by
  obtain ⟨R, hR⟩ : ∃ R, R = cmpV o x y := ⟨_, rfl⟩
  rw [← hR]
  unfold cmpV at hR
  have HR := Lib.hid hR
  clear hR
  have qx : (x == y) = decide (x = y) := beq_dec18 x y
  have q3' : (o == 3) = decide (o = 3) := beq_dec18 o 3
  have q5' : (o == 5) = decide (o = 5) := beq_dec18 o 5
  have q7' : (o == 7) = decide (o = 7) := beq_dec18 o 7
  by_cases h34 : o = 3 ∨ o = 4
  · have HE := Lib.hid (HR.out.trans (if_pos h34))
    rcases h34 with rfl | rfl
    all_goals
      clear q3' q5' q7'
      go_enter Try.func78, Try.ntmps78
      go_wp2_with fail
      go_ret
      refine ⟨?_, rfl⟩
      rw [HE.out]
      by_cases h : x = y <;> simp [h]
  have HN := Lib.hid (HR.out.trans (if_neg h34))
  by_cases h58 : o = 5 ∨ o = 8
  · have HE := Lib.hid (HN.out.trans (if_pos h58))
    rcases h58 with rfl | rfl
    all_goals
      clear q3' q5' q7'
      go_enter Try.func78, Try.ntmps78
      go_wp2_with fail
      go_ret
      refine ⟨?_, rfl⟩
      rw [HE.out]
      by_cases h : x < y <;> simp [h]
  have HE := Lib.hid (HN.out.trans (if_neg h58))
  have q3 : (o == 3) = false := by simp; omega
  have q4 : (o == 4) = false := by simp; omega
  have q5 : (o == 5) = false := by simp; omega
  have q8 : (o == 8) = false := by simp; omega
  clear q3' q5'
  go_enter Try.func78, Try.ntmps78
  go_wp2_with fail
  go_ret
  refine ⟨?_, rfl⟩
  rw [HE.out]
  by_cases h : y < x <;> by_cases h7 : o = 7 <;> simp [h, h7]

set_option maxHeartbeats 2000000 in
theorem fcalc_any (o a b : Int) (w : World) : Calls Try.prog 80 #[.int .i64 o, .int .i64 a, .int .i64 b] w fun e w' => e = .returned (.tuple #[.int .i64 (calcV o a b).1, .int .i64 (calcV o a b).2]) ∧ w' = w := by
  obtain ⟨R, hR⟩ : ∃ R, R = calcV o a b := ⟨_, rfl⟩
  rw [← hR]
  unfold calcV at hR
  have HR := Lib.hid hR
  clear hR
  by_cases h10 : o = 10
  · have HE := Lib.hid (HR.out.trans (by rw [if_pos h10]))
    subst h10
    go_enter Try.func80, Try.ntmps80
    go_wp2_with fail
    refine (pAdd_any a b _).mono ?_
    rintro e w2 ⟨rfl, rfl⟩
    go_wp2_with fail
    go_ret2
    exact ⟨by rw [HE.out]; rfl, rfl⟩
  have q10 : (o == 10) = false := by simp [h10]
  by_cases h11 : o = 11
  · have HE := Lib.hid (HR.out.trans (by rw [if_neg h10, if_pos h11]))
    subst h11
    go_enter Try.func80, Try.ntmps80
    go_wp2_with fail
    refine (pSub_any a b _).mono ?_
    rintro e w2 ⟨rfl, rfl⟩
    go_wp2_with fail
    go_ret2
    exact ⟨by rw [HE.out]; rfl, rfl⟩
  have q11 : (o == 11) = false := by simp [h11]
  by_cases h12 : o = 12
  · have HE := Lib.hid (HR.out.trans (by rw [if_neg h10, if_neg h11, if_pos h12]))
    subst h12
    go_enter Try.func80, Try.ntmps80
    go_wp2_with fail
    refine (pMul_any a b _).mono ?_
    rintro e w2 ⟨rfl, rfl⟩
    go_wp2_with fail
    go_ret2
    exact ⟨by rw [HE.out]; rfl, rfl⟩
  have q12 : (o == 12) = false := by simp [h12]
  by_cases h13 : o = 13
  · have HE := Lib.hid (HR.out.trans (by rw [if_neg h10, if_neg h11, if_neg h12, if_pos h13]))
    subst h13
    go_enter Try.func80, Try.ntmps80
    go_wp2_with fail
    refine (pDiv_any a b _).mono ?_
    rintro e w2 ⟨rfl, rfl⟩
    go_wp2_with fail
    go_ret2
    exact ⟨by rw [HE.out]; rfl, rfl⟩
  have q13 : (o == 13) = false := by simp [h13]
  have HE := Lib.hid (HR.out.trans (by rw [if_neg h10, if_neg h11, if_neg h12, if_neg h13]))
  go_enter Try.func80, Try.ntmps80
  go_wp2_with fail
  refine (pMod_any a b _).mono ?_
  rintro e w2 ⟨rfl, rfl⟩
  go_wp2_with fail
  go_ret2
  exact ⟨by rw [HE.out]; rfl, rfl⟩

end

end Go.Proofs.Ytiioffjjlcfhgaa
