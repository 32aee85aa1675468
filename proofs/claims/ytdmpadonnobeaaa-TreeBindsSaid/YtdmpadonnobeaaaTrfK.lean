/- Contracts of the program's hasStmt, bookLanguage, Bound, BoundBlock. -/
import Derived.Test.YtdmpadonnobeaaaTrfJ
import Derived.Test.YtdmpadonnobeaaaTrfI
namespace Go.Proofs.Ytdmpadonnobeaaa
open Go.RowKit
set_option linter.unusedVariables false

set_option maxRecDepth 100000 in
set_option maxHeartbeats 1600000 in
theorem bkS_1 (t1 t2 t3 t4 : Int) (S1 : Option Addr) (m1 k1 : Nat) (fl : Int) (S2 : Option Addr) (m2 k2 : Nat) (S3 : Option Addr) (m3 k3 : Nat) (S4 : Option Addr) (m4 k4 : Nat) (S5 : Option Addr) (m5 k5 : Nat) (S6 : Option Addr) (m6 k6 : Nat) (S7 : Option Addr) (m7 k7 : Nat) (S8 : Option Addr) (m8 k8 : Nat) (S9 : Option Addr) (m9 k9 : Nat) (S10 : Option Addr) (m10 k10 : Nat) (loc : Int) (m : Int) (s : List UInt8) (A : Option Addr) (n c : Nat) (A1 : Option Addr) (n1 c1 : Nat) (A2 : Option Addr) (n2 c2 : Nat) (hm1 : (m1 : Int) ≤ 9223372036854775807) (hm2 : (m2 : Int) ≤ 9223372036854775807) (hm3 : (m3 : Int) ≤ 9223372036854775807) (hm8 : (m8 : Int) ≤ 9223372036854775807) (w : World) : Calls Try.prog 64 #[.agg #[.int .i64 t1, .int .i64 t2, .int .i64 t3, .int .i64 t4, .slice S1 m1 k1, .int .i64 fl, .slice S2 m2 k2, .slice S3 m3 k3, .slice S4 m4 k4, .slice S5 m5 k5, .slice S6 m6 k6, .slice S7 m7 k7, .slice S8 m8 k8, .slice S9 m9 k9, .slice S10 m10 k10, .int .i64 loc], .agg #[.int .i64 1, .int .i64 m, .string (bs s), .slice A n c, .slice A1 n1 c1, .slice A2 n2 c2]] w fun f w' => f = .returned (.bool (true)) ∧ Below w.heap.size w w' := by
  go_enter Try.func64, Try.ntmps64
  go_wp2_with fail
  go_ret
  exact ⟨rfl, ((Below.refl _ _).alloc (Nat.le_refl _) _).alloc (by simp) _⟩

set_option maxRecDepth 100000 in
set_option maxHeartbeats 1600000 in
theorem bkS_2 (t1 t2 t3 t4 : Int) (S1 : Option Addr) (m1 k1 : Nat) (fl : Int) (S2 : Option Addr) (m2 k2 : Nat) (S3 : Option Addr) (m3 k3 : Nat) (S4 : Option Addr) (m4 k4 : Nat) (S5 : Option Addr) (m5 k5 : Nat) (S6 : Option Addr) (m6 k6 : Nat) (S7 : Option Addr) (m7 k7 : Nat) (S8 : Option Addr) (m8 k8 : Nat) (S9 : Option Addr) (m9 k9 : Nat) (S10 : Option Addr) (m10 k10 : Nat) (loc : Int) (m : Int) (s : List UInt8) (A : Option Addr) (n c : Nat) (A1 : Option Addr) (n1 c1 : Nat) (A2 : Option Addr) (n2 c2 : Nat) (hm1 : (m1 : Int) ≤ 9223372036854775807) (hm2 : (m2 : Int) ≤ 9223372036854775807) (hm3 : (m3 : Int) ≤ 9223372036854775807) (hm8 : (m8 : Int) ≤ 9223372036854775807) (w : World) : Calls Try.prog 64 #[.agg #[.int .i64 t1, .int .i64 t2, .int .i64 t3, .int .i64 t4, .slice S1 m1 k1, .int .i64 fl, .slice S2 m2 k2, .slice S3 m3 k3, .slice S4 m4 k4, .slice S5 m5 k5, .slice S6 m6 k6, .slice S7 m7 k7, .slice S8 m8 k8, .slice S9 m9 k9, .slice S10 m10 k10, .int .i64 loc], .agg #[.int .i64 2, .int .i64 m, .string (bs s), .slice A n c, .slice A1 n1 c1, .slice A2 n2 c2]] w fun f w' => f = .returned (.bool (idxB m loc)) ∧ Below w.heap.size w w' := by
  go_enter Try.func64, Try.ntmps64
  go_wp2_with fail
  refine (tisIndex_any _ _ _).mono ?_
  rintro f w2 ⟨rfl, rfl⟩
  go_wp2_with fail
  go_ret
  exact ⟨rfl, ((Below.refl _ _).alloc (Nat.le_refl _) _).alloc (by simp) _⟩

set_option maxRecDepth 100000 in
set_option maxHeartbeats 1600000 in
theorem bkS_3 (t1 t2 t3 t4 : Int) (S1 : Option Addr) (m1 k1 : Nat) (fl : Int) (S2 : Option Addr) (m2 k2 : Nat) (S3 : Option Addr) (m3 k3 : Nat) (S4 : Option Addr) (m4 k4 : Nat) (S5 : Option Addr) (m5 k5 : Nat) (S6 : Option Addr) (m6 k6 : Nat) (S7 : Option Addr) (m7 k7 : Nat) (S8 : Option Addr) (m8 k8 : Nat) (S9 : Option Addr) (m9 k9 : Nat) (S10 : Option Addr) (m10 k10 : Nat) (loc : Int) (m : Int) (s : List UInt8) (A : Option Addr) (n c : Nat) (A1 : Option Addr) (n1 c1 : Nat) (A2 : Option Addr) (n2 c2 : Nat) (hm1 : (m1 : Int) ≤ 9223372036854775807) (hm2 : (m2 : Int) ≤ 9223372036854775807) (hm3 : (m3 : Int) ≤ 9223372036854775807) (hm8 : (m8 : Int) ≤ 9223372036854775807) (w : World) : Calls Try.prog 64 #[.agg #[.int .i64 t1, .int .i64 t2, .int .i64 t3, .int .i64 t4, .slice S1 m1 k1, .int .i64 fl, .slice S2 m2 k2, .slice S3 m3 k3, .slice S4 m4 k4, .slice S5 m5 k5, .slice S6 m6 k6, .slice S7 m7 k7, .slice S8 m8 k8, .slice S9 m9 k9, .slice S10 m10 k10, .int .i64 loc], .agg #[.int .i64 3, .int .i64 m, .string (bs s), .slice A n c, .slice A1 n1 c1, .slice A2 n2 c2]] w fun f w' => f = .returned (.bool (idxB m loc)) ∧ Below w.heap.size w w' := by
  go_enter Try.func64, Try.ntmps64
  go_wp2_with fail
  refine (tisIndex_any _ _ _).mono ?_
  rintro f w2 ⟨rfl, rfl⟩
  go_wp2_with fail
  go_ret
  exact ⟨rfl, ((Below.refl _ _).alloc (Nat.le_refl _) _).alloc (by simp) _⟩

set_option maxRecDepth 100000 in
set_option maxHeartbeats 1600000 in
theorem bkS_4 (t1 t2 t3 t4 : Int) (S1 : Option Addr) (m1 k1 : Nat) (fl : Int) (S2 : Option Addr) (m2 k2 : Nat) (S3 : Option Addr) (m3 k3 : Nat) (S4 : Option Addr) (m4 k4 : Nat) (S5 : Option Addr) (m5 k5 : Nat) (S6 : Option Addr) (m6 k6 : Nat) (S7 : Option Addr) (m7 k7 : Nat) (S8 : Option Addr) (m8 k8 : Nat) (S9 : Option Addr) (m9 k9 : Nat) (S10 : Option Addr) (m10 k10 : Nat) (loc : Int) (m : Int) (s : List UInt8) (A : Option Addr) (n c : Nat) (A1 : Option Addr) (n1 c1 : Nat) (A2 : Option Addr) (n2 c2 : Nat) (hm1 : (m1 : Int) ≤ 9223372036854775807) (hm2 : (m2 : Int) ≤ 9223372036854775807) (hm3 : (m3 : Int) ≤ 9223372036854775807) (hm8 : (m8 : Int) ≤ 9223372036854775807) (w : World) : Calls Try.prog 64 #[.agg #[.int .i64 t1, .int .i64 t2, .int .i64 t3, .int .i64 t4, .slice S1 m1 k1, .int .i64 fl, .slice S2 m2 k2, .slice S3 m3 k3, .slice S4 m4 k4, .slice S5 m5 k5, .slice S6 m6 k6, .slice S7 m7 k7, .slice S8 m8 k8, .slice S9 m9 k9, .slice S10 m10 k10, .int .i64 loc], .agg #[.int .i64 4, .int .i64 m, .string (bs s), .slice A n c, .slice A1 n1 c1, .slice A2 n2 c2]] w fun f w' => f = .returned (.bool (idxB m m2)) ∧ Below w.heap.size w w' := by
  go_enter Try.func64, Try.ntmps64
  go_wp2_with fail
  refine (tisIndex_any _ _ _).mono ?_
  rintro f w2 ⟨rfl, rfl⟩
  go_wp2_with fail
  go_ret
  exact ⟨rfl, ((Below.refl _ _).alloc (Nat.le_refl _) _).alloc (by simp) _⟩

set_option maxRecDepth 100000 in
set_option maxHeartbeats 1600000 in
theorem bkS_5 (t1 t2 t3 t4 : Int) (S1 : Option Addr) (m1 k1 : Nat) (fl : Int) (S2 : Option Addr) (m2 k2 : Nat) (S3 : Option Addr) (m3 k3 : Nat) (S4 : Option Addr) (m4 k4 : Nat) (S5 : Option Addr) (m5 k5 : Nat) (S6 : Option Addr) (m6 k6 : Nat) (S7 : Option Addr) (m7 k7 : Nat) (S8 : Option Addr) (m8 k8 : Nat) (S9 : Option Addr) (m9 k9 : Nat) (S10 : Option Addr) (m10 k10 : Nat) (loc : Int) (m : Int) (s : List UInt8) (A : Option Addr) (n c : Nat) (A1 : Option Addr) (n1 c1 : Nat) (A2 : Option Addr) (n2 c2 : Nat) (hm1 : (m1 : Int) ≤ 9223372036854775807) (hm2 : (m2 : Int) ≤ 9223372036854775807) (hm3 : (m3 : Int) ≤ 9223372036854775807) (hm8 : (m8 : Int) ≤ 9223372036854775807) (w : World) : Calls Try.prog 64 #[.agg #[.int .i64 t1, .int .i64 t2, .int .i64 t3, .int .i64 t4, .slice S1 m1 k1, .int .i64 fl, .slice S2 m2 k2, .slice S3 m3 k3, .slice S4 m4 k4, .slice S5 m5 k5, .slice S6 m6 k6, .slice S7 m7 k7, .slice S8 m8 k8, .slice S9 m9 k9, .slice S10 m10 k10, .int .i64 loc], .agg #[.int .i64 5, .int .i64 m, .string (bs s), .slice A n c, .slice A1 n1 c1, .slice A2 n2 c2]] w fun f w' => f = .returned (.bool (idxB m fl)) ∧ Below w.heap.size w w' := by
  go_enter Try.func64, Try.ntmps64
  go_wp2_with fail
  refine (tisIndex_any _ _ _).mono ?_
  rintro f w2 ⟨rfl, rfl⟩
  go_wp2_with fail
  go_ret
  exact ⟨rfl, ((Below.refl _ _).alloc (Nat.le_refl _) _).alloc (by simp) _⟩

set_option maxRecDepth 100000 in
set_option maxHeartbeats 1600000 in
theorem bkS_6 (t1 t2 t3 t4 : Int) (S1 : Option Addr) (m1 k1 : Nat) (fl : Int) (S2 : Option Addr) (m2 k2 : Nat) (S3 : Option Addr) (m3 k3 : Nat) (S4 : Option Addr) (m4 k4 : Nat) (S5 : Option Addr) (m5 k5 : Nat) (S6 : Option Addr) (m6 k6 : Nat) (S7 : Option Addr) (m7 k7 : Nat) (S8 : Option Addr) (m8 k8 : Nat) (S9 : Option Addr) (m9 k9 : Nat) (S10 : Option Addr) (m10 k10 : Nat) (loc : Int) (m : Int) (s : List UInt8) (A : Option Addr) (n c : Nat) (A1 : Option Addr) (n1 c1 : Nat) (A2 : Option Addr) (n2 c2 : Nat) (hm1 : (m1 : Int) ≤ 9223372036854775807) (hm2 : (m2 : Int) ≤ 9223372036854775807) (hm3 : (m3 : Int) ≤ 9223372036854775807) (hm8 : (m8 : Int) ≤ 9223372036854775807) (w : World) : Calls Try.prog 64 #[.agg #[.int .i64 t1, .int .i64 t2, .int .i64 t3, .int .i64 t4, .slice S1 m1 k1, .int .i64 fl, .slice S2 m2 k2, .slice S3 m3 k3, .slice S4 m4 k4, .slice S5 m5 k5, .slice S6 m6 k6, .slice S7 m7 k7, .slice S8 m8 k8, .slice S9 m9 k9, .slice S10 m10 k10, .int .i64 loc], .agg #[.int .i64 6, .int .i64 m, .string (bs s), .slice A n c, .slice A1 n1 c1, .slice A2 n2 c2]] w fun f w' => f = .returned (.bool (idxB m fl)) ∧ Below w.heap.size w w' := by
  go_enter Try.func64, Try.ntmps64
  go_wp2_with fail
  refine (tisIndex_any _ _ _).mono ?_
  rintro f w2 ⟨rfl, rfl⟩
  go_wp2_with fail
  go_ret
  exact ⟨rfl, ((Below.refl _ _).alloc (Nat.le_refl _) _).alloc (by simp) _⟩

set_option maxRecDepth 100000 in
set_option maxHeartbeats 1600000 in
theorem bkS_7 (t1 t2 t3 t4 : Int) (S1 : Option Addr) (m1 k1 : Nat) (fl : Int) (S2 : Option Addr) (m2 k2 : Nat) (S3 : Option Addr) (m3 k3 : Nat) (S4 : Option Addr) (m4 k4 : Nat) (S5 : Option Addr) (m5 k5 : Nat) (S6 : Option Addr) (m6 k6 : Nat) (S7 : Option Addr) (m7 k7 : Nat) (S8 : Option Addr) (m8 k8 : Nat) (S9 : Option Addr) (m9 k9 : Nat) (S10 : Option Addr) (m10 k10 : Nat) (loc : Int) (m : Int) (s : List UInt8) (A : Option Addr) (n c : Nat) (A1 : Option Addr) (n1 c1 : Nat) (A2 : Option Addr) (n2 c2 : Nat) (hm1 : (m1 : Int) ≤ 9223372036854775807) (hm2 : (m2 : Int) ≤ 9223372036854775807) (hm3 : (m3 : Int) ≤ 9223372036854775807) (hm8 : (m8 : Int) ≤ 9223372036854775807) (w : World) : Calls Try.prog 64 #[.agg #[.int .i64 t1, .int .i64 t2, .int .i64 t3, .int .i64 t4, .slice S1 m1 k1, .int .i64 fl, .slice S2 m2 k2, .slice S3 m3 k3, .slice S4 m4 k4, .slice S5 m5 k5, .slice S6 m6 k6, .slice S7 m7 k7, .slice S8 m8 k8, .slice S9 m9 k9, .slice S10 m10 k10, .int .i64 loc], .agg #[.int .i64 7, .int .i64 m, .string (bs s), .slice A n c, .slice A1 n1 c1, .slice A2 n2 c2]] w fun f w' => f = .returned (.bool (true)) ∧ Below w.heap.size w w' := by
  go_enter Try.func64, Try.ntmps64
  go_wp2_with fail
  go_ret
  exact ⟨rfl, ((Below.refl _ _).alloc (Nat.le_refl _) _).alloc (by simp) _⟩

set_option maxRecDepth 100000 in
set_option maxHeartbeats 1600000 in
theorem bkS_8 (t1 t2 t3 t4 : Int) (S1 : Option Addr) (m1 k1 : Nat) (fl : Int) (S2 : Option Addr) (m2 k2 : Nat) (S3 : Option Addr) (m3 k3 : Nat) (S4 : Option Addr) (m4 k4 : Nat) (S5 : Option Addr) (m5 k5 : Nat) (S6 : Option Addr) (m6 k6 : Nat) (S7 : Option Addr) (m7 k7 : Nat) (S8 : Option Addr) (m8 k8 : Nat) (S9 : Option Addr) (m9 k9 : Nat) (S10 : Option Addr) (m10 k10 : Nat) (loc : Int) (m : Int) (s : List UInt8) (A : Option Addr) (n c : Nat) (A1 : Option Addr) (n1 c1 : Nat) (A2 : Option Addr) (n2 c2 : Nat) (hm1 : (m1 : Int) ≤ 9223372036854775807) (hm2 : (m2 : Int) ≤ 9223372036854775807) (hm3 : (m3 : Int) ≤ 9223372036854775807) (hm8 : (m8 : Int) ≤ 9223372036854775807) (w : World) : Calls Try.prog 64 #[.agg #[.int .i64 t1, .int .i64 t2, .int .i64 t3, .int .i64 t4, .slice S1 m1 k1, .int .i64 fl, .slice S2 m2 k2, .slice S3 m3 k3, .slice S4 m4 k4, .slice S5 m5 k5, .slice S6 m6 k6, .slice S7 m7 k7, .slice S8 m8 k8, .slice S9 m9 k9, .slice S10 m10 k10, .int .i64 loc], .agg #[.int .i64 8, .int .i64 m, .string (bs s), .slice A n c, .slice A1 n1 c1, .slice A2 n2 c2]] w fun f w' => f = .returned (.bool (true)) ∧ Below w.heap.size w w' := by
  go_enter Try.func64, Try.ntmps64
  go_wp2_with fail
  go_ret
  exact ⟨rfl, ((Below.refl _ _).alloc (Nat.le_refl _) _).alloc (by simp) _⟩

set_option maxRecDepth 100000 in
set_option maxHeartbeats 1600000 in
theorem bkS_9 (t1 t2 t3 t4 : Int) (S1 : Option Addr) (m1 k1 : Nat) (fl : Int) (S2 : Option Addr) (m2 k2 : Nat) (S3 : Option Addr) (m3 k3 : Nat) (S4 : Option Addr) (m4 k4 : Nat) (S5 : Option Addr) (m5 k5 : Nat) (S6 : Option Addr) (m6 k6 : Nat) (S7 : Option Addr) (m7 k7 : Nat) (S8 : Option Addr) (m8 k8 : Nat) (S9 : Option Addr) (m9 k9 : Nat) (S10 : Option Addr) (m10 k10 : Nat) (loc : Int) (m : Int) (s : List UInt8) (A : Option Addr) (n c : Nat) (A1 : Option Addr) (n1 c1 : Nat) (A2 : Option Addr) (n2 c2 : Nat) (hm1 : (m1 : Int) ≤ 9223372036854775807) (hm2 : (m2 : Int) ≤ 9223372036854775807) (hm3 : (m3 : Int) ≤ 9223372036854775807) (hm8 : (m8 : Int) ≤ 9223372036854775807) (w : World) : Calls Try.prog 64 #[.agg #[.int .i64 t1, .int .i64 t2, .int .i64 t3, .int .i64 t4, .slice S1 m1 k1, .int .i64 fl, .slice S2 m2 k2, .slice S3 m3 k3, .slice S4 m4 k4, .slice S5 m5 k5, .slice S6 m6 k6, .slice S7 m7 k7, .slice S8 m8 k8, .slice S9 m9 k9, .slice S10 m10 k10, .int .i64 loc], .agg #[.int .i64 9, .int .i64 m, .string (bs s), .slice A n c, .slice A1 n1 c1, .slice A2 n2 c2]] w fun f w' => f = .returned (.bool (true)) ∧ Below w.heap.size w w' := by
  go_enter Try.func64, Try.ntmps64
  go_wp2_with fail
  go_ret
  exact ⟨rfl, ((Below.refl _ _).alloc (Nat.le_refl _) _).alloc (by simp) _⟩

set_option maxRecDepth 100000 in
set_option maxHeartbeats 1600000 in
theorem bkS_10 (t1 t2 t3 t4 : Int) (S1 : Option Addr) (m1 k1 : Nat) (fl : Int) (S2 : Option Addr) (m2 k2 : Nat) (S3 : Option Addr) (m3 k3 : Nat) (S4 : Option Addr) (m4 k4 : Nat) (S5 : Option Addr) (m5 k5 : Nat) (S6 : Option Addr) (m6 k6 : Nat) (S7 : Option Addr) (m7 k7 : Nat) (S8 : Option Addr) (m8 k8 : Nat) (S9 : Option Addr) (m9 k9 : Nat) (S10 : Option Addr) (m10 k10 : Nat) (loc : Int) (m : Int) (s : List UInt8) (A : Option Addr) (n c : Nat) (A1 : Option Addr) (n1 c1 : Nat) (A2 : Option Addr) (n2 c2 : Nat) (hm1 : (m1 : Int) ≤ 9223372036854775807) (hm2 : (m2 : Int) ≤ 9223372036854775807) (hm3 : (m3 : Int) ≤ 9223372036854775807) (hm8 : (m8 : Int) ≤ 9223372036854775807) (w : World) : Calls Try.prog 64 #[.agg #[.int .i64 t1, .int .i64 t2, .int .i64 t3, .int .i64 t4, .slice S1 m1 k1, .int .i64 fl, .slice S2 m2 k2, .slice S3 m3 k3, .slice S4 m4 k4, .slice S5 m5 k5, .slice S6 m6 k6, .slice S7 m7 k7, .slice S8 m8 k8, .slice S9 m9 k9, .slice S10 m10 k10, .int .i64 loc], .agg #[.int .i64 10, .int .i64 m, .string (bs s), .slice A n c, .slice A1 n1 c1, .slice A2 n2 c2]] w fun f w' => f = .returned (.bool (true)) ∧ Below w.heap.size w w' := by
  go_enter Try.func64, Try.ntmps64
  go_wp2_with fail
  go_ret
  exact ⟨rfl, ((Below.refl _ _).alloc (Nat.le_refl _) _).alloc (by simp) _⟩

set_option maxRecDepth 100000 in
set_option maxHeartbeats 1600000 in
theorem bkS_11 (t1 t2 t3 t4 : Int) (S1 : Option Addr) (m1 k1 : Nat) (fl : Int) (S2 : Option Addr) (m2 k2 : Nat) (S3 : Option Addr) (m3 k3 : Nat) (S4 : Option Addr) (m4 k4 : Nat) (S5 : Option Addr) (m5 k5 : Nat) (S6 : Option Addr) (m6 k6 : Nat) (S7 : Option Addr) (m7 k7 : Nat) (S8 : Option Addr) (m8 k8 : Nat) (S9 : Option Addr) (m9 k9 : Nat) (S10 : Option Addr) (m10 k10 : Nat) (loc : Int) (m : Int) (s : List UInt8) (A : Option Addr) (n c : Nat) (A1 : Option Addr) (n1 c1 : Nat) (A2 : Option Addr) (n2 c2 : Nat) (hm1 : (m1 : Int) ≤ 9223372036854775807) (hm2 : (m2 : Int) ≤ 9223372036854775807) (hm3 : (m3 : Int) ≤ 9223372036854775807) (hm8 : (m8 : Int) ≤ 9223372036854775807) (hloc : loc ≤ 9223372036854775807) (w : World) : Calls Try.prog 64 #[.agg #[.int .i64 t1, .int .i64 t2, .int .i64 t3, .int .i64 t4, .slice S1 m1 k1, .int .i64 fl, .slice S2 m2 k2, .slice S3 m3 k3, .slice S4 m4 k4, .slice S5 m5 k5, .slice S6 m6 k6, .slice S7 m7 k7, .slice S8 m8 k8, .slice S9 m9 k9, .slice S10 m10 k10, .int .i64 loc], .agg #[.int .i64 11, .int .i64 m, .string (bs s), .slice A n c, .slice A1 n1 c1, .slice A2 n2 c2]] w fun f w' => f = .returned (.bool (idxB m loc && idxB (m + 1) loc)) ∧ Below w.heap.size w w' := by
  by_cases h : 0 ≤ m ∧ m < loc
  · have h1 : 0 ≤ m + 1 := by omega
    have h2 : m + 1 ≤ 9223372036854775807 := by omega
    have HI1 : Hid (idxB m loc = true) := Lib.hid (idx_yes h)
    have wq : IntKind.i64.wrap (m + 1) = m + 1 := by rw [IntKind.wrap_i64]; omega
    rw [HI1.out, Bool.true_and]
    clear h
    go_enter Try.func64, Try.ntmps64
    go_wp2_with fail
    refine (tisIndex_any _ _ _).mono ?_
    rintro f w2 ⟨rfl, rfl⟩
    rw [HI1.out]
    go_wp2_with fail
    refine (tisIndex_any _ _ _).mono ?_
    rintro f w2 ⟨rfl, rfl⟩
    go_wp2_with fail
    go_ret
    exact ⟨rfl, ((Below.refl _ _).alloc (Nat.le_refl _) _).alloc (by simp) _⟩
  · have HI1 : Hid (idxB m loc = false) := Lib.hid (idx_no h)
    rw [HI1.out, Bool.false_and]
    clear h
    go_enter Try.func64, Try.ntmps64
    go_wp2_with fail
    refine (tisIndex_any _ _ _).mono ?_
    rintro f w2 ⟨rfl, rfl⟩
    rw [HI1.out]
    go_wp2_with fail
    go_ret
    exact ⟨rfl, ((Below.refl _ _).alloc (Nat.le_refl _) _).alloc (by simp) _⟩

set_option maxRecDepth 100000 in
set_option maxHeartbeats 1600000 in
theorem bkS_12 (t1 t2 t3 t4 : Int) (S1 : Option Addr) (m1 k1 : Nat) (fl : Int) (S2 : Option Addr) (m2 k2 : Nat) (S3 : Option Addr) (m3 k3 : Nat) (S4 : Option Addr) (m4 k4 : Nat) (S5 : Option Addr) (m5 k5 : Nat) (S6 : Option Addr) (m6 k6 : Nat) (S7 : Option Addr) (m7 k7 : Nat) (S8 : Option Addr) (m8 k8 : Nat) (S9 : Option Addr) (m9 k9 : Nat) (S10 : Option Addr) (m10 k10 : Nat) (loc : Int) (m : Int) (s : List UInt8) (A : Option Addr) (n c : Nat) (A1 : Option Addr) (n1 c1 : Nat) (A2 : Option Addr) (n2 c2 : Nat) (hm1 : (m1 : Int) ≤ 9223372036854775807) (hm2 : (m2 : Int) ≤ 9223372036854775807) (hm3 : (m3 : Int) ≤ 9223372036854775807) (hm8 : (m8 : Int) ≤ 9223372036854775807) (w : World) : Calls Try.prog 64 #[.agg #[.int .i64 t1, .int .i64 t2, .int .i64 t3, .int .i64 t4, .slice S1 m1 k1, .int .i64 fl, .slice S2 m2 k2, .slice S3 m3 k3, .slice S4 m4 k4, .slice S5 m5 k5, .slice S6 m6 k6, .slice S7 m7 k7, .slice S8 m8 k8, .slice S9 m9 k9, .slice S10 m10 k10, .int .i64 loc], .agg #[.int .i64 12, .int .i64 m, .string (bs s), .slice A n c, .slice A1 n1 c1, .slice A2 n2 c2]] w fun f w' => f = .returned (.bool (true)) ∧ Below w.heap.size w w' := by
  go_enter Try.func64, Try.ntmps64
  go_wp2_with fail
  go_ret
  exact ⟨rfl, ((Below.refl _ _).alloc (Nat.le_refl _) _).alloc (by simp) _⟩

set_option maxRecDepth 100000 in
set_option maxHeartbeats 1600000 in
theorem bkS_13 (t1 t2 t3 t4 : Int) (S1 : Option Addr) (m1 k1 : Nat) (fl : Int) (S2 : Option Addr) (m2 k2 : Nat) (S3 : Option Addr) (m3 k3 : Nat) (S4 : Option Addr) (m4 k4 : Nat) (S5 : Option Addr) (m5 k5 : Nat) (S6 : Option Addr) (m6 k6 : Nat) (S7 : Option Addr) (m7 k7 : Nat) (S8 : Option Addr) (m8 k8 : Nat) (S9 : Option Addr) (m9 k9 : Nat) (S10 : Option Addr) (m10 k10 : Nat) (loc : Int) (m : Int) (s : List UInt8) (A : Option Addr) (n c : Nat) (A1 : Option Addr) (n1 c1 : Nat) (A2 : Option Addr) (n2 c2 : Nat) (hm1 : (m1 : Int) ≤ 9223372036854775807) (hm2 : (m2 : Int) ≤ 9223372036854775807) (hm3 : (m3 : Int) ≤ 9223372036854775807) (hm8 : (m8 : Int) ≤ 9223372036854775807) (w : World) : Calls Try.prog 64 #[.agg #[.int .i64 t1, .int .i64 t2, .int .i64 t3, .int .i64 t4, .slice S1 m1 k1, .int .i64 fl, .slice S2 m2 k2, .slice S3 m3 k3, .slice S4 m4 k4, .slice S5 m5 k5, .slice S6 m6 k6, .slice S7 m7 k7, .slice S8 m8 k8, .slice S9 m9 k9, .slice S10 m10 k10, .int .i64 loc], .agg #[.int .i64 13, .int .i64 m, .string (bs s), .slice A n c, .slice A1 n1 c1, .slice A2 n2 c2]] w fun f w' => f = .returned (.bool (true)) ∧ Below w.heap.size w w' := by
  go_enter Try.func64, Try.ntmps64
  go_wp2_with fail
  go_ret
  exact ⟨rfl, ((Below.refl _ _).alloc (Nat.le_refl _) _).alloc (by simp) _⟩

set_option maxRecDepth 100000 in
set_option maxHeartbeats 1600000 in
theorem bkS_14 (t1 t2 t3 t4 : Int) (S1 : Option Addr) (m1 k1 : Nat) (fl : Int) (S2 : Option Addr) (m2 k2 : Nat) (S3 : Option Addr) (m3 k3 : Nat) (S4 : Option Addr) (m4 k4 : Nat) (S5 : Option Addr) (m5 k5 : Nat) (S6 : Option Addr) (m6 k6 : Nat) (S7 : Option Addr) (m7 k7 : Nat) (S8 : Option Addr) (m8 k8 : Nat) (S9 : Option Addr) (m9 k9 : Nat) (S10 : Option Addr) (m10 k10 : Nat) (loc : Int) (m : Int) (s : List UInt8) (A : Option Addr) (n c : Nat) (A1 : Option Addr) (n1 c1 : Nat) (A2 : Option Addr) (n2 c2 : Nat) (hm1 : (m1 : Int) ≤ 9223372036854775807) (hm2 : (m2 : Int) ≤ 9223372036854775807) (hm3 : (m3 : Int) ≤ 9223372036854775807) (hm8 : (m8 : Int) ≤ 9223372036854775807) (w : World) : Calls Try.prog 64 #[.agg #[.int .i64 t1, .int .i64 t2, .int .i64 t3, .int .i64 t4, .slice S1 m1 k1, .int .i64 fl, .slice S2 m2 k2, .slice S3 m3 k3, .slice S4 m4 k4, .slice S5 m5 k5, .slice S6 m6 k6, .slice S7 m7 k7, .slice S8 m8 k8, .slice S9 m9 k9, .slice S10 m10 k10, .int .i64 loc], .agg #[.int .i64 14, .int .i64 m, .string (bs s), .slice A n c, .slice A1 n1 c1, .slice A2 n2 c2]] w fun f w' => f = .returned (.bool (true)) ∧ Below w.heap.size w w' := by
  go_enter Try.func64, Try.ntmps64
  go_wp2_with fail
  go_ret
  exact ⟨rfl, ((Below.refl _ _).alloc (Nat.le_refl _) _).alloc (by simp) _⟩

set_option maxRecDepth 100000 in
set_option maxHeartbeats 1600000 in
theorem bkS_15 (t1 t2 t3 t4 : Int) (S1 : Option Addr) (m1 k1 : Nat) (fl : Int) (S2 : Option Addr) (m2 k2 : Nat) (S3 : Option Addr) (m3 k3 : Nat) (S4 : Option Addr) (m4 k4 : Nat) (S5 : Option Addr) (m5 k5 : Nat) (S6 : Option Addr) (m6 k6 : Nat) (S7 : Option Addr) (m7 k7 : Nat) (S8 : Option Addr) (m8 k8 : Nat) (S9 : Option Addr) (m9 k9 : Nat) (S10 : Option Addr) (m10 k10 : Nat) (loc : Int) (m : Int) (s : List UInt8) (A : Option Addr) (n c : Nat) (A1 : Option Addr) (n1 c1 : Nat) (A2 : Option Addr) (n2 c2 : Nat) (hm1 : (m1 : Int) ≤ 9223372036854775807) (hm2 : (m2 : Int) ≤ 9223372036854775807) (hm3 : (m3 : Int) ≤ 9223372036854775807) (hm8 : (m8 : Int) ≤ 9223372036854775807) (w : World) : Calls Try.prog 64 #[.agg #[.int .i64 t1, .int .i64 t2, .int .i64 t3, .int .i64 t4, .slice S1 m1 k1, .int .i64 fl, .slice S2 m2 k2, .slice S3 m3 k3, .slice S4 m4 k4, .slice S5 m5 k5, .slice S6 m6 k6, .slice S7 m7 k7, .slice S8 m8 k8, .slice S9 m9 k9, .slice S10 m10 k10, .int .i64 loc], .agg #[.int .i64 15, .int .i64 m, .string (bs s), .slice A n c, .slice A1 n1 c1, .slice A2 n2 c2]] w fun f w' => f = .returned (.bool (true)) ∧ Below w.heap.size w w' := by
  go_enter Try.func64, Try.ntmps64
  go_wp2_with fail
  go_ret
  exact ⟨rfl, ((Below.refl _ _).alloc (Nat.le_refl _) _).alloc (by simp) _⟩

set_option maxRecDepth 100000 in
set_option maxHeartbeats 1600000 in
theorem bkS_16 (t1 t2 t3 t4 : Int) (S1 : Option Addr) (m1 k1 : Nat) (fl : Int) (S2 : Option Addr) (m2 k2 : Nat) (S3 : Option Addr) (m3 k3 : Nat) (S4 : Option Addr) (m4 k4 : Nat) (S5 : Option Addr) (m5 k5 : Nat) (S6 : Option Addr) (m6 k6 : Nat) (S7 : Option Addr) (m7 k7 : Nat) (S8 : Option Addr) (m8 k8 : Nat) (S9 : Option Addr) (m9 k9 : Nat) (S10 : Option Addr) (m10 k10 : Nat) (loc : Int) (m : Int) (s : List UInt8) (A : Option Addr) (n c : Nat) (A1 : Option Addr) (n1 c1 : Nat) (A2 : Option Addr) (n2 c2 : Nat) (hm1 : (m1 : Int) ≤ 9223372036854775807) (hm2 : (m2 : Int) ≤ 9223372036854775807) (hm3 : (m3 : Int) ≤ 9223372036854775807) (hm8 : (m8 : Int) ≤ 9223372036854775807) (w : World) : Calls Try.prog 64 #[.agg #[.int .i64 t1, .int .i64 t2, .int .i64 t3, .int .i64 t4, .slice S1 m1 k1, .int .i64 fl, .slice S2 m2 k2, .slice S3 m3 k3, .slice S4 m4 k4, .slice S5 m5 k5, .slice S6 m6 k6, .slice S7 m7 k7, .slice S8 m8 k8, .slice S9 m9 k9, .slice S10 m10 k10, .int .i64 loc], .agg #[.int .i64 16, .int .i64 m, .string (bs s), .slice A n c, .slice A1 n1 c1, .slice A2 n2 c2]] w fun f w' => f = .returned (.bool (true)) ∧ Below w.heap.size w w' := by
  go_enter Try.func64, Try.ntmps64
  go_wp2_with fail
  go_ret
  exact ⟨rfl, ((Below.refl _ _).alloc (Nat.le_refl _) _).alloc (by simp) _⟩

set_option maxRecDepth 100000 in
set_option maxHeartbeats 1600000 in
theorem bkS_17 (t1 t2 t3 t4 : Int) (S1 : Option Addr) (m1 k1 : Nat) (fl : Int) (S2 : Option Addr) (m2 k2 : Nat) (S3 : Option Addr) (m3 k3 : Nat) (S4 : Option Addr) (m4 k4 : Nat) (S5 : Option Addr) (m5 k5 : Nat) (S6 : Option Addr) (m6 k6 : Nat) (S7 : Option Addr) (m7 k7 : Nat) (S8 : Option Addr) (m8 k8 : Nat) (S9 : Option Addr) (m9 k9 : Nat) (S10 : Option Addr) (m10 k10 : Nat) (loc : Int) (m : Int) (s : List UInt8) (A : Option Addr) (n c : Nat) (A1 : Option Addr) (n1 c1 : Nat) (A2 : Option Addr) (n2 c2 : Nat) (hm1 : (m1 : Int) ≤ 9223372036854775807) (hm2 : (m2 : Int) ≤ 9223372036854775807) (hm3 : (m3 : Int) ≤ 9223372036854775807) (hm8 : (m8 : Int) ≤ 9223372036854775807) (w : World) : Calls Try.prog 64 #[.agg #[.int .i64 t1, .int .i64 t2, .int .i64 t3, .int .i64 t4, .slice S1 m1 k1, .int .i64 fl, .slice S2 m2 k2, .slice S3 m3 k3, .slice S4 m4 k4, .slice S5 m5 k5, .slice S6 m6 k6, .slice S7 m7 k7, .slice S8 m8 k8, .slice S9 m9 k9, .slice S10 m10 k10, .int .i64 loc], .agg #[.int .i64 17, .int .i64 m, .string (bs s), .slice A n c, .slice A1 n1 c1, .slice A2 n2 c2]] w fun f w' => f = .returned (.bool (idxB m m8)) ∧ Below w.heap.size w w' := by
  go_enter Try.func64, Try.ntmps64
  go_wp2_with fail
  refine (tisIndex_any _ _ _).mono ?_
  rintro f w2 ⟨rfl, rfl⟩
  go_wp2_with fail
  go_ret
  exact ⟨rfl, ((Below.refl _ _).alloc (Nat.le_refl _) _).alloc (by simp) _⟩

set_option maxRecDepth 100000 in
set_option maxHeartbeats 1600000 in
theorem bkS_18 (t1 t2 t3 t4 : Int) (S1 : Option Addr) (m1 k1 : Nat) (fl : Int) (S2 : Option Addr) (m2 k2 : Nat) (S3 : Option Addr) (m3 k3 : Nat) (S4 : Option Addr) (m4 k4 : Nat) (S5 : Option Addr) (m5 k5 : Nat) (S6 : Option Addr) (m6 k6 : Nat) (S7 : Option Addr) (m7 k7 : Nat) (S8 : Option Addr) (m8 k8 : Nat) (S9 : Option Addr) (m9 k9 : Nat) (S10 : Option Addr) (m10 k10 : Nat) (loc : Int) (m : Int) (s : List UInt8) (A : Option Addr) (n c : Nat) (A1 : Option Addr) (n1 c1 : Nat) (A2 : Option Addr) (n2 c2 : Nat) (hm1 : (m1 : Int) ≤ 9223372036854775807) (hm2 : (m2 : Int) ≤ 9223372036854775807) (hm3 : (m3 : Int) ≤ 9223372036854775807) (hm8 : (m8 : Int) ≤ 9223372036854775807) (w : World) : Calls Try.prog 64 #[.agg #[.int .i64 t1, .int .i64 t2, .int .i64 t3, .int .i64 t4, .slice S1 m1 k1, .int .i64 fl, .slice S2 m2 k2, .slice S3 m3 k3, .slice S4 m4 k4, .slice S5 m5 k5, .slice S6 m6 k6, .slice S7 m7 k7, .slice S8 m8 k8, .slice S9 m9 k9, .slice S10 m10 k10, .int .i64 loc], .agg #[.int .i64 18, .int .i64 m, .string (bs s), .slice A n c, .slice A1 n1 c1, .slice A2 n2 c2]] w fun f w' => f = .returned (.bool (idxB m m8)) ∧ Below w.heap.size w w' := by
  go_enter Try.func64, Try.ntmps64
  go_wp2_with fail
  refine (tisIndex_any _ _ _).mono ?_
  rintro f w2 ⟨rfl, rfl⟩
  go_wp2_with fail
  go_ret
  exact ⟨rfl, ((Below.refl _ _).alloc (Nat.le_refl _) _).alloc (by simp) _⟩

set_option maxRecDepth 100000 in
set_option maxHeartbeats 1600000 in
theorem bkS_19 (t1 t2 t3 t4 : Int) (S1 : Option Addr) (m1 k1 : Nat) (fl : Int) (S2 : Option Addr) (m2 k2 : Nat) (S3 : Option Addr) (m3 k3 : Nat) (S4 : Option Addr) (m4 k4 : Nat) (S5 : Option Addr) (m5 k5 : Nat) (S6 : Option Addr) (m6 k6 : Nat) (S7 : Option Addr) (m7 k7 : Nat) (S8 : Option Addr) (m8 k8 : Nat) (S9 : Option Addr) (m9 k9 : Nat) (S10 : Option Addr) (m10 k10 : Nat) (loc : Int) (m : Int) (s : List UInt8) (A : Option Addr) (n c : Nat) (A1 : Option Addr) (n1 c1 : Nat) (A2 : Option Addr) (n2 c2 : Nat) (hm1 : (m1 : Int) ≤ 9223372036854775807) (hm2 : (m2 : Int) ≤ 9223372036854775807) (hm3 : (m3 : Int) ≤ 9223372036854775807) (hm8 : (m8 : Int) ≤ 9223372036854775807) (w : World) : Calls Try.prog 64 #[.agg #[.int .i64 t1, .int .i64 t2, .int .i64 t3, .int .i64 t4, .slice S1 m1 k1, .int .i64 fl, .slice S2 m2 k2, .slice S3 m3 k3, .slice S4 m4 k4, .slice S5 m5 k5, .slice S6 m6 k6, .slice S7 m7 k7, .slice S8 m8 k8, .slice S9 m9 k9, .slice S10 m10 k10, .int .i64 loc], .agg #[.int .i64 19, .int .i64 m, .string (bs s), .slice A n c, .slice A1 n1 c1, .slice A2 n2 c2]] w fun f w' => f = .returned (.bool (true)) ∧ Below w.heap.size w w' := by
  go_enter Try.func64, Try.ntmps64
  go_wp2_with fail
  go_ret
  exact ⟨rfl, ((Below.refl _ _).alloc (Nat.le_refl _) _).alloc (by simp) _⟩

set_option maxRecDepth 100000 in
set_option maxHeartbeats 1600000 in
theorem bkS_20 (t1 t2 t3 t4 : Int) (S1 : Option Addr) (m1 k1 : Nat) (fl : Int) (S2 : Option Addr) (m2 k2 : Nat) (S3 : Option Addr) (m3 k3 : Nat) (S4 : Option Addr) (m4 k4 : Nat) (S5 : Option Addr) (m5 k5 : Nat) (S6 : Option Addr) (m6 k6 : Nat) (S7 : Option Addr) (m7 k7 : Nat) (S8 : Option Addr) (m8 k8 : Nat) (S9 : Option Addr) (m9 k9 : Nat) (S10 : Option Addr) (m10 k10 : Nat) (loc : Int) (m : Int) (s : List UInt8) (A : Option Addr) (n c : Nat) (A1 : Option Addr) (n1 c1 : Nat) (A2 : Option Addr) (n2 c2 : Nat) (hm1 : (m1 : Int) ≤ 9223372036854775807) (hm2 : (m2 : Int) ≤ 9223372036854775807) (hm3 : (m3 : Int) ≤ 9223372036854775807) (hm8 : (m8 : Int) ≤ 9223372036854775807) (w : World) : Calls Try.prog 64 #[.agg #[.int .i64 t1, .int .i64 t2, .int .i64 t3, .int .i64 t4, .slice S1 m1 k1, .int .i64 fl, .slice S2 m2 k2, .slice S3 m3 k3, .slice S4 m4 k4, .slice S5 m5 k5, .slice S6 m6 k6, .slice S7 m7 k7, .slice S8 m8 k8, .slice S9 m9 k9, .slice S10 m10 k10, .int .i64 loc], .agg #[.int .i64 20, .int .i64 m, .string (bs s), .slice A n c, .slice A1 n1 c1, .slice A2 n2 c2]] w fun f w' => f = .returned (.bool (true)) ∧ Below w.heap.size w w' := by
  go_enter Try.func64, Try.ntmps64
  go_wp2_with fail
  go_ret
  exact ⟨rfl, ((Below.refl _ _).alloc (Nat.le_refl _) _).alloc (by simp) _⟩

set_option maxRecDepth 100000 in
set_option maxHeartbeats 1600000 in
theorem bkS_21 (t1 t2 t3 t4 : Int) (S1 : Option Addr) (m1 k1 : Nat) (fl : Int) (S2 : Option Addr) (m2 k2 : Nat) (S3 : Option Addr) (m3 k3 : Nat) (S4 : Option Addr) (m4 k4 : Nat) (S5 : Option Addr) (m5 k5 : Nat) (S6 : Option Addr) (m6 k6 : Nat) (S7 : Option Addr) (m7 k7 : Nat) (S8 : Option Addr) (m8 k8 : Nat) (S9 : Option Addr) (m9 k9 : Nat) (S10 : Option Addr) (m10 k10 : Nat) (loc : Int) (m : Int) (s : List UInt8) (A : Option Addr) (n c : Nat) (A1 : Option Addr) (n1 c1 : Nat) (A2 : Option Addr) (n2 c2 : Nat) (hm1 : (m1 : Int) ≤ 9223372036854775807) (hm2 : (m2 : Int) ≤ 9223372036854775807) (hm3 : (m3 : Int) ≤ 9223372036854775807) (hm8 : (m8 : Int) ≤ 9223372036854775807) (w : World) : Calls Try.prog 64 #[.agg #[.int .i64 t1, .int .i64 t2, .int .i64 t3, .int .i64 t4, .slice S1 m1 k1, .int .i64 fl, .slice S2 m2 k2, .slice S3 m3 k3, .slice S4 m4 k4, .slice S5 m5 k5, .slice S6 m6 k6, .slice S7 m7 k7, .slice S8 m8 k8, .slice S9 m9 k9, .slice S10 m10 k10, .int .i64 loc], .agg #[.int .i64 21, .int .i64 m, .string (bs s), .slice A n c, .slice A1 n1 c1, .slice A2 n2 c2]] w fun f w' => f = .returned (.bool (true)) ∧ Below w.heap.size w w' := by
  go_enter Try.func64, Try.ntmps64
  go_wp2_with fail
  go_ret
  exact ⟨rfl, ((Below.refl _ _).alloc (Nat.le_refl _) _).alloc (by simp) _⟩

set_option maxRecDepth 100000 in
set_option maxHeartbeats 1600000 in
theorem bkS_22 (t1 t2 t3 t4 : Int) (S1 : Option Addr) (m1 k1 : Nat) (fl : Int) (S2 : Option Addr) (m2 k2 : Nat) (S3 : Option Addr) (m3 k3 : Nat) (S4 : Option Addr) (m4 k4 : Nat) (S5 : Option Addr) (m5 k5 : Nat) (S6 : Option Addr) (m6 k6 : Nat) (S7 : Option Addr) (m7 k7 : Nat) (S8 : Option Addr) (m8 k8 : Nat) (S9 : Option Addr) (m9 k9 : Nat) (S10 : Option Addr) (m10 k10 : Nat) (loc : Int) (m : Int) (s : List UInt8) (A : Option Addr) (n c : Nat) (A1 : Option Addr) (n1 c1 : Nat) (A2 : Option Addr) (n2 c2 : Nat) (hm1 : (m1 : Int) ≤ 9223372036854775807) (hm2 : (m2 : Int) ≤ 9223372036854775807) (hm3 : (m3 : Int) ≤ 9223372036854775807) (hm8 : (m8 : Int) ≤ 9223372036854775807) (w : World) : Calls Try.prog 64 #[.agg #[.int .i64 t1, .int .i64 t2, .int .i64 t3, .int .i64 t4, .slice S1 m1 k1, .int .i64 fl, .slice S2 m2 k2, .slice S3 m3 k3, .slice S4 m4 k4, .slice S5 m5 k5, .slice S6 m6 k6, .slice S7 m7 k7, .slice S8 m8 k8, .slice S9 m9 k9, .slice S10 m10 k10, .int .i64 loc], .agg #[.int .i64 22, .int .i64 m, .string (bs s), .slice A n c, .slice A1 n1 c1, .slice A2 n2 c2]] w fun f w' => f = .returned (.bool (true)) ∧ Below w.heap.size w w' := by
  go_enter Try.func64, Try.ntmps64
  go_wp2_with fail
  go_ret
  exact ⟨rfl, ((Below.refl _ _).alloc (Nat.le_refl _) _).alloc (by simp) _⟩

set_option maxRecDepth 100000 in
set_option maxHeartbeats 1600000 in
theorem bkS_23 (t1 t2 t3 t4 : Int) (S1 : Option Addr) (m1 k1 : Nat) (fl : Int) (S2 : Option Addr) (m2 k2 : Nat) (S3 : Option Addr) (m3 k3 : Nat) (S4 : Option Addr) (m4 k4 : Nat) (S5 : Option Addr) (m5 k5 : Nat) (S6 : Option Addr) (m6 k6 : Nat) (S7 : Option Addr) (m7 k7 : Nat) (S8 : Option Addr) (m8 k8 : Nat) (S9 : Option Addr) (m9 k9 : Nat) (S10 : Option Addr) (m10 k10 : Nat) (loc : Int) (m : Int) (s : List UInt8) (A : Option Addr) (n c : Nat) (A1 : Option Addr) (n1 c1 : Nat) (A2 : Option Addr) (n2 c2 : Nat) (hm1 : (m1 : Int) ≤ 9223372036854775807) (hm2 : (m2 : Int) ≤ 9223372036854775807) (hm3 : (m3 : Int) ≤ 9223372036854775807) (hm8 : (m8 : Int) ≤ 9223372036854775807) (w : World) : Calls Try.prog 64 #[.agg #[.int .i64 t1, .int .i64 t2, .int .i64 t3, .int .i64 t4, .slice S1 m1 k1, .int .i64 fl, .slice S2 m2 k2, .slice S3 m3 k3, .slice S4 m4 k4, .slice S5 m5 k5, .slice S6 m6 k6, .slice S7 m7 k7, .slice S8 m8 k8, .slice S9 m9 k9, .slice S10 m10 k10, .int .i64 loc], .agg #[.int .i64 23, .int .i64 m, .string (bs s), .slice A n c, .slice A1 n1 c1, .slice A2 n2 c2]] w fun f w' => f = .returned (.bool (idxB m m3)) ∧ Below w.heap.size w w' := by
  go_enter Try.func64, Try.ntmps64
  go_wp2_with fail
  refine (tisIndex_any _ _ _).mono ?_
  rintro f w2 ⟨rfl, rfl⟩
  go_wp2_with fail
  go_ret
  exact ⟨rfl, ((Below.refl _ _).alloc (Nat.le_refl _) _).alloc (by simp) _⟩

set_option maxRecDepth 100000 in
set_option maxHeartbeats 1600000 in
theorem bkS_0 (k : Int) (h1 : k ≠ 1) (h2 : k ≠ 2) (h3 : k ≠ 3) (h4 : k ≠ 4) (h5 : k ≠ 5) (h6 : k ≠ 6) (h7 : k ≠ 7) (h8 : k ≠ 8) (h9 : k ≠ 9) (h10 : k ≠ 10) (h11 : k ≠ 11) (h12 : k ≠ 12) (h13 : k ≠ 13) (h14 : k ≠ 14) (h15 : k ≠ 15) (h16 : k ≠ 16) (h17 : k ≠ 17) (h18 : k ≠ 18) (h19 : k ≠ 19) (h20 : k ≠ 20) (h21 : k ≠ 21) (h22 : k ≠ 22) (h23 : k ≠ 23) (t1 t2 t3 t4 : Int) (S1 : Option Addr) (m1 k1 : Nat) (fl : Int) (S2 : Option Addr) (m2 k2 : Nat) (S3 : Option Addr) (m3 k3 : Nat) (S4 : Option Addr) (m4 k4 : Nat) (S5 : Option Addr) (m5 k5 : Nat) (S6 : Option Addr) (m6 k6 : Nat) (S7 : Option Addr) (m7 k7 : Nat) (S8 : Option Addr) (m8 k8 : Nat) (S9 : Option Addr) (m9 k9 : Nat) (S10 : Option Addr) (m10 k10 : Nat) (loc : Int) (m : Int) (s : List UInt8) (A : Option Addr) (n c : Nat) (A1 : Option Addr) (n1 c1 : Nat) (A2 : Option Addr) (n2 c2 : Nat) (hm1 : (m1 : Int) ≤ 9223372036854775807) (hm2 : (m2 : Int) ≤ 9223372036854775807) (hm3 : (m3 : Int) ≤ 9223372036854775807) (hm8 : (m8 : Int) ≤ 9223372036854775807) (w : World) : Calls Try.prog 64 #[.agg #[.int .i64 t1, .int .i64 t2, .int .i64 t3, .int .i64 t4, .slice S1 m1 k1, .int .i64 fl, .slice S2 m2 k2, .slice S3 m3 k3, .slice S4 m4 k4, .slice S5 m5 k5, .slice S6 m6 k6, .slice S7 m7 k7, .slice S8 m8 k8, .slice S9 m9 k9, .slice S10 m10 k10, .int .i64 loc], .agg #[.int .i64 k, .int .i64 m, .string (bs s), .slice A n c, .slice A1 n1 c1, .slice A2 n2 c2]] w fun f w' => f = .returned (.bool (false)) ∧ Below w.heap.size w w' := by
  have t1e : (k == 1) = false := by rw [beq_eq_false_iff_ne]; exact h1
  have t2e : (k == 2) = false := by rw [beq_eq_false_iff_ne]; exact h2
  have t3e : (k == 3) = false := by rw [beq_eq_false_iff_ne]; exact h3
  have t4e : (k == 4) = false := by rw [beq_eq_false_iff_ne]; exact h4
  have t5e : (k == 5) = false := by rw [beq_eq_false_iff_ne]; exact h5
  have t6e : (k == 6) = false := by rw [beq_eq_false_iff_ne]; exact h6
  have t7e : (k == 7) = false := by rw [beq_eq_false_iff_ne]; exact h7
  have t8e : (k == 8) = false := by rw [beq_eq_false_iff_ne]; exact h8
  have t9e : (k == 9) = false := by rw [beq_eq_false_iff_ne]; exact h9
  have t10e : (k == 10) = false := by rw [beq_eq_false_iff_ne]; exact h10
  have t11e : (k == 11) = false := by rw [beq_eq_false_iff_ne]; exact h11
  have t12e : (k == 12) = false := by rw [beq_eq_false_iff_ne]; exact h12
  have t13e : (k == 13) = false := by rw [beq_eq_false_iff_ne]; exact h13
  have t14e : (k == 14) = false := by rw [beq_eq_false_iff_ne]; exact h14
  have t15e : (k == 15) = false := by rw [beq_eq_false_iff_ne]; exact h15
  have t16e : (k == 16) = false := by rw [beq_eq_false_iff_ne]; exact h16
  have t17e : (k == 17) = false := by rw [beq_eq_false_iff_ne]; exact h17
  have t18e : (k == 18) = false := by rw [beq_eq_false_iff_ne]; exact h18
  have t19e : (k == 19) = false := by rw [beq_eq_false_iff_ne]; exact h19
  have t20e : (k == 20) = false := by rw [beq_eq_false_iff_ne]; exact h20
  have t21e : (k == 21) = false := by rw [beq_eq_false_iff_ne]; exact h21
  have t22e : (k == 22) = false := by rw [beq_eq_false_iff_ne]; exact h22
  have t23e : (k == 23) = false := by rw [beq_eq_false_iff_ne]; exact h23
  clear h1 h2 h3 h4 h5 h6 h7 h8 h9 h10 h11 h12 h13 h14 h15 h16 h17 h18 h19 h20 h21 h22 h23
  go_enter Try.func64, Try.ntmps64
  go_wp2_with fail
  go_ret
  exact ⟨rfl, ((Below.refl _ _).alloc (Nat.le_refl _) _).alloc (by simp) _⟩

theorem thasStmt_any (T : TV) (loc : Int) (hloc : loc ≤ 9223372036854775807) (e : SL) (w : World) (hT : T.In w w.heap.size) : Calls Try.prog 64 #[T.rt loc, sVal e] w fun f w' => f = .returned (.bool (bkS T.tb loc e)) ∧ Below w.heap.size w w' := by
  obtain ⟨k, m, s, A, n, c, es, A1, n1, c1, bo, A2, n2, c2, el⟩ := e
  obtain ⟨t1, t2, t3, t4, S1, m1, k1, fl, S2, m2, k2, S3, m3, k3, S4, m4, k4, S5, m5, k5, S6, m6, k6, S7, m7, k7, S8, m8, k8, S9, m9, k9, S10, m10, k10, fs, ps⟩ := T
  obtain ⟨⟨hm1, hm2, hm3, hm7, hm8, hm9⟩, hf, hp⟩ := hT
  by_cases h1 : k = 1
  · subst h1
    exact bkS_1 t1 t2 t3 t4 S1 m1 k1 fl S2 m2 k2 S3 m3 k3 S4 m4 k4 S5 m5 k5 S6 m6 k6 S7 m7 k7 S8 m8 k8 S9 m9 k9 S10 m10 k10 loc m s A n c A1 n1 c1 A2 n2 c2 hm1 hm2 hm3 hm8 w
  by_cases h2 : k = 2
  · subst h2
    exact bkS_2 t1 t2 t3 t4 S1 m1 k1 fl S2 m2 k2 S3 m3 k3 S4 m4 k4 S5 m5 k5 S6 m6 k6 S7 m7 k7 S8 m8 k8 S9 m9 k9 S10 m10 k10 loc m s A n c A1 n1 c1 A2 n2 c2 hm1 hm2 hm3 hm8 w
  by_cases h3 : k = 3
  · subst h3
    exact bkS_3 t1 t2 t3 t4 S1 m1 k1 fl S2 m2 k2 S3 m3 k3 S4 m4 k4 S5 m5 k5 S6 m6 k6 S7 m7 k7 S8 m8 k8 S9 m9 k9 S10 m10 k10 loc m s A n c A1 n1 c1 A2 n2 c2 hm1 hm2 hm3 hm8 w
  by_cases h4 : k = 4
  · subst h4
    exact bkS_4 t1 t2 t3 t4 S1 m1 k1 fl S2 m2 k2 S3 m3 k3 S4 m4 k4 S5 m5 k5 S6 m6 k6 S7 m7 k7 S8 m8 k8 S9 m9 k9 S10 m10 k10 loc m s A n c A1 n1 c1 A2 n2 c2 hm1 hm2 hm3 hm8 w
  by_cases h5 : k = 5
  · subst h5
    exact bkS_5 t1 t2 t3 t4 S1 m1 k1 fl S2 m2 k2 S3 m3 k3 S4 m4 k4 S5 m5 k5 S6 m6 k6 S7 m7 k7 S8 m8 k8 S9 m9 k9 S10 m10 k10 loc m s A n c A1 n1 c1 A2 n2 c2 hm1 hm2 hm3 hm8 w
  by_cases h6 : k = 6
  · subst h6
    exact bkS_6 t1 t2 t3 t4 S1 m1 k1 fl S2 m2 k2 S3 m3 k3 S4 m4 k4 S5 m5 k5 S6 m6 k6 S7 m7 k7 S8 m8 k8 S9 m9 k9 S10 m10 k10 loc m s A n c A1 n1 c1 A2 n2 c2 hm1 hm2 hm3 hm8 w
  by_cases h7 : k = 7
  · subst h7
    exact bkS_7 t1 t2 t3 t4 S1 m1 k1 fl S2 m2 k2 S3 m3 k3 S4 m4 k4 S5 m5 k5 S6 m6 k6 S7 m7 k7 S8 m8 k8 S9 m9 k9 S10 m10 k10 loc m s A n c A1 n1 c1 A2 n2 c2 hm1 hm2 hm3 hm8 w
  by_cases h8 : k = 8
  · subst h8
    exact bkS_8 t1 t2 t3 t4 S1 m1 k1 fl S2 m2 k2 S3 m3 k3 S4 m4 k4 S5 m5 k5 S6 m6 k6 S7 m7 k7 S8 m8 k8 S9 m9 k9 S10 m10 k10 loc m s A n c A1 n1 c1 A2 n2 c2 hm1 hm2 hm3 hm8 w
  by_cases h9 : k = 9
  · subst h9
    exact bkS_9 t1 t2 t3 t4 S1 m1 k1 fl S2 m2 k2 S3 m3 k3 S4 m4 k4 S5 m5 k5 S6 m6 k6 S7 m7 k7 S8 m8 k8 S9 m9 k9 S10 m10 k10 loc m s A n c A1 n1 c1 A2 n2 c2 hm1 hm2 hm3 hm8 w
  by_cases h10 : k = 10
  · subst h10
    exact bkS_10 t1 t2 t3 t4 S1 m1 k1 fl S2 m2 k2 S3 m3 k3 S4 m4 k4 S5 m5 k5 S6 m6 k6 S7 m7 k7 S8 m8 k8 S9 m9 k9 S10 m10 k10 loc m s A n c A1 n1 c1 A2 n2 c2 hm1 hm2 hm3 hm8 w
  by_cases h11 : k = 11
  · subst h11
    exact bkS_11 t1 t2 t3 t4 S1 m1 k1 fl S2 m2 k2 S3 m3 k3 S4 m4 k4 S5 m5 k5 S6 m6 k6 S7 m7 k7 S8 m8 k8 S9 m9 k9 S10 m10 k10 loc m s A n c A1 n1 c1 A2 n2 c2 hm1 hm2 hm3 hm8 hloc w
  by_cases h12 : k = 12
  · subst h12
    exact bkS_12 t1 t2 t3 t4 S1 m1 k1 fl S2 m2 k2 S3 m3 k3 S4 m4 k4 S5 m5 k5 S6 m6 k6 S7 m7 k7 S8 m8 k8 S9 m9 k9 S10 m10 k10 loc m s A n c A1 n1 c1 A2 n2 c2 hm1 hm2 hm3 hm8 w
  by_cases h13 : k = 13
  · subst h13
    exact bkS_13 t1 t2 t3 t4 S1 m1 k1 fl S2 m2 k2 S3 m3 k3 S4 m4 k4 S5 m5 k5 S6 m6 k6 S7 m7 k7 S8 m8 k8 S9 m9 k9 S10 m10 k10 loc m s A n c A1 n1 c1 A2 n2 c2 hm1 hm2 hm3 hm8 w
  by_cases h14 : k = 14
  · subst h14
    exact bkS_14 t1 t2 t3 t4 S1 m1 k1 fl S2 m2 k2 S3 m3 k3 S4 m4 k4 S5 m5 k5 S6 m6 k6 S7 m7 k7 S8 m8 k8 S9 m9 k9 S10 m10 k10 loc m s A n c A1 n1 c1 A2 n2 c2 hm1 hm2 hm3 hm8 w
  by_cases h15 : k = 15
  · subst h15
    exact bkS_15 t1 t2 t3 t4 S1 m1 k1 fl S2 m2 k2 S3 m3 k3 S4 m4 k4 S5 m5 k5 S6 m6 k6 S7 m7 k7 S8 m8 k8 S9 m9 k9 S10 m10 k10 loc m s A n c A1 n1 c1 A2 n2 c2 hm1 hm2 hm3 hm8 w
  by_cases h16 : k = 16
  · subst h16
    exact bkS_16 t1 t2 t3 t4 S1 m1 k1 fl S2 m2 k2 S3 m3 k3 S4 m4 k4 S5 m5 k5 S6 m6 k6 S7 m7 k7 S8 m8 k8 S9 m9 k9 S10 m10 k10 loc m s A n c A1 n1 c1 A2 n2 c2 hm1 hm2 hm3 hm8 w
  by_cases h17 : k = 17
  · subst h17
    exact bkS_17 t1 t2 t3 t4 S1 m1 k1 fl S2 m2 k2 S3 m3 k3 S4 m4 k4 S5 m5 k5 S6 m6 k6 S7 m7 k7 S8 m8 k8 S9 m9 k9 S10 m10 k10 loc m s A n c A1 n1 c1 A2 n2 c2 hm1 hm2 hm3 hm8 w
  by_cases h18 : k = 18
  · subst h18
    exact bkS_18 t1 t2 t3 t4 S1 m1 k1 fl S2 m2 k2 S3 m3 k3 S4 m4 k4 S5 m5 k5 S6 m6 k6 S7 m7 k7 S8 m8 k8 S9 m9 k9 S10 m10 k10 loc m s A n c A1 n1 c1 A2 n2 c2 hm1 hm2 hm3 hm8 w
  by_cases h19 : k = 19
  · subst h19
    exact bkS_19 t1 t2 t3 t4 S1 m1 k1 fl S2 m2 k2 S3 m3 k3 S4 m4 k4 S5 m5 k5 S6 m6 k6 S7 m7 k7 S8 m8 k8 S9 m9 k9 S10 m10 k10 loc m s A n c A1 n1 c1 A2 n2 c2 hm1 hm2 hm3 hm8 w
  by_cases h20 : k = 20
  · subst h20
    exact bkS_20 t1 t2 t3 t4 S1 m1 k1 fl S2 m2 k2 S3 m3 k3 S4 m4 k4 S5 m5 k5 S6 m6 k6 S7 m7 k7 S8 m8 k8 S9 m9 k9 S10 m10 k10 loc m s A n c A1 n1 c1 A2 n2 c2 hm1 hm2 hm3 hm8 w
  by_cases h21 : k = 21
  · subst h21
    exact bkS_21 t1 t2 t3 t4 S1 m1 k1 fl S2 m2 k2 S3 m3 k3 S4 m4 k4 S5 m5 k5 S6 m6 k6 S7 m7 k7 S8 m8 k8 S9 m9 k9 S10 m10 k10 loc m s A n c A1 n1 c1 A2 n2 c2 hm1 hm2 hm3 hm8 w
  by_cases h22 : k = 22
  · subst h22
    exact bkS_22 t1 t2 t3 t4 S1 m1 k1 fl S2 m2 k2 S3 m3 k3 S4 m4 k4 S5 m5 k5 S6 m6 k6 S7 m7 k7 S8 m8 k8 S9 m9 k9 S10 m10 k10 loc m s A n c A1 n1 c1 A2 n2 c2 hm1 hm2 hm3 hm8 w
  by_cases h23 : k = 23
  · subst h23
    exact bkS_23 t1 t2 t3 t4 S1 m1 k1 fl S2 m2 k2 S3 m3 k3 S4 m4 k4 S5 m5 k5 S6 m6 k6 S7 m7 k7 S8 m8 k8 S9 m9 k9 S10 m10 k10 loc m s A n c A1 n1 c1 A2 n2 c2 hm1 hm2 hm3 hm8 w
  have e : bkS (TB.mk m1 fl m2 m3 m8 fs ps) loc (SL.mk k m s A n c es A1 n1 c1 bo A2 n2 c2 el) = false := by
    unfold bkS
    simp only [SL.kind, h1, h2, h3, h4, h5, h6, h7, h8, h9, h10, h11, h12, h13, h14, h15, h16, h17, h18, h19, h20, h21, h22, h23, or_self, if_false, decide_false]
  change Calls Try.prog _ _ w fun f w' => f = .returned (.bool (bkS (TB.mk m1 fl m2 m3 m8 fs ps) loc (SL.mk k m s A n c es A1 n1 c1 bo A2 n2 c2 el))) ∧ Below w.heap.size w w'
  rw [e]
  exact bkS_0 k h1 h2 h3 h4 h5 h6 h7 h8 h9 h10 h11 h12 h13 h14 h15 h16 h17 h18 h19 h20 h21 h22 h23 t1 t2 t3 t4 S1 m1 k1 fl S2 m2 k2 S3 m3 k3 S4 m4 k4 S5 m5 k5 S6 m6 k6 S7 m7 k7 S8 m8 k8 S9 m9 k9 S10 m10 k10 loc m s A n c A1 n1 c1 A2 n2 c2 hm1 hm2 hm3 hm8 w

set_option maxRecDepth 100000 in
set_option maxHeartbeats 1600000 in
theorem tbkName_any (s : SL) (w : World) : Calls Try.prog 62 #[sVal s] w fun f w' => f = .returned (lbV s.num []) ∧ Below w.heap.size w w' := by
  obtain ⟨k, m, s, A, n, c, es, A1, n1, c1, bo, A2, n2, c2, el⟩ := s
  show Calls Try.prog _ #[.agg #[.int .i64 k, .int .i64 m, .string (bs s), .slice A n c, .slice A1 n1 c1, .slice A2 n2 c2]] w fun f w' => f = .returned (lbV m []) ∧ Below w.heap.size w w'
  go_enter Try.func62, Try.ntmps62
  go_wp2_with fail
  (try simp only [Exit.inBlock, Exit.then]); refine bodyPost_ret (results_cell_row rfl _ _ _ _ _ _ _ rfl (Blk.new_at _ 59 _ (w.heap.size + 1) (by simp)) Try.underlying59 rfl (by kernel_rfl)) rfl ?_
  exact ⟨rfl, ((Below.refl _ _).alloc (Nat.le_refl _) _).alloc (by simp) _⟩

/-- the language of a book -/
def bookG (T : TV) (loc : Int) : LG := ⟨19, 18, 62, 63, 64, #[T.rt loc]⟩

theorem bookG_ok (T : TV) (loc : Int) (hloc : loc ≤ 9223372036854775807) (w : World) (hT : T.In w w.heap.size) : LGok w (bookG T loc) (bkE T.tb loc) (bkS T.tb loc) (fun s => (s.num, [])) where
  eN := ⟨_, Try.func62, by kernel_rfl, by kernel_rfl⟩
  eE := ⟨_, Try.func63, by kernel_rfl, by kernel_rfl⟩
  eS := ⟨_, Try.func64, by kernel_rfl, by kernel_rfl⟩
  hN := fun s W _ _ => tbkName_any s W
  hE := fun e W hb hin => by
    rw [show (bookG T loc).F ++ #[eVal e] = #[T.rt loc, eVal e] from by simp [bookG]]
    exact thasExpr_any T loc e W ((hT.below hb).more hb.size) hin
  hS := fun s W hb hin => by
    rw [show (bookG T loc).F ++ #[sVal s] = #[T.rt loc, sVal s] from by simp [bookG]]
    exact thasStmt_any T loc hloc s W ((hT.below hb).more hb.size)

theorem rt_one (T : TV) (loc : Int) : (T.rcells loc).all (·.oneCell') = true := by simp [TV.rcells, Value.oneCell']

set_option maxRecDepth 100000 in
set_option maxHeartbeats 6400000 in
theorem tbookLanguage_any (T : TV) (loc : Int) (w : World) : Calls Try.prog 37 #[T.val, .int .i64 loc] w fun f w' => f = .returned (bookG T loc).val ∧ Below w.heap.size w w' := by
  have hmf : ∀ (fn : Fn) (first cap : Array Value) (w : World), (Instr.makeFunc fn first cap).run Try.prog w = .ok (.func fn first cap) w := fun _ _ _ _ => rfl
  have HONE := Lib.hid (rt_one T loc)
  obtain ⟨t1, t2, t3, t4, S1, m1, k1, fl, S2, m2, k2, S3, m3, k3, S4, m4, k4, S5, m5, k5, S6, m6, k6, S7, m7, k7, S8, m8, k8, S9, m9, k9, S10, m10, k10, fs, ps⟩ := T
  change Hid ((#[.int .i64 t1, .int .i64 t2, .int .i64 t3, .int .i64 t4, .slice S1 m1 k1, .int .i64 fl, .slice S2 m2 k2, .slice S3 m3 k3, .slice S4 m4 k4, .slice S5 m5 k5, .slice S6 m6 k6, .slice S7 m7 k7, .slice S8 m8 k8, .slice S9 m9 k9, .slice S10 m10 k10, .int .i64 loc] : Array Value).all (·.oneCell') = true) at HONE
  show Calls Try.prog _ #[.agg #[.int .i64 t1, .int .i64 t2, .int .i64 t3, .int .i64 t4, .slice S1 m1 k1, .int .i64 fl, .slice S2 m2 k2, .slice S3 m3 k3, .slice S4 m4 k4, .slice S5 m5 k5, .slice S6 m6 k6, .slice S7 m7 k7, .slice S8 m8 k8, .slice S9 m9 k9, .slice S10 m10 k10], .int .i64 loc] w fun f w' => f = .returned (.agg #[.int .i64 19, .int .i64 18, .func (.func 62) #[] #[], .func (.func 63) #[.agg #[.int .i64 t1, .int .i64 t2, .int .i64 t3, .int .i64 t4, .slice S1 m1 k1, .int .i64 fl, .slice S2 m2 k2, .slice S3 m3 k3, .slice S4 m4 k4, .slice S5 m5 k5, .slice S6 m6 k6, .slice S7 m7 k7, .slice S8 m8 k8, .slice S9 m9 k9, .slice S10 m10 k10, .int .i64 loc]] #[], .func (.func 64) #[.agg #[.int .i64 t1, .int .i64 t2, .int .i64 t3, .int .i64 t4, .slice S1 m1 k1, .int .i64 fl, .slice S2 m2 k2, .slice S3 m3 k3, .slice S4 m4 k4, .slice S5 m5 k5, .slice S6 m6 k6, .slice S7 m7 k7, .slice S8 m8 k8, .slice S9 m9 k9, .slice S10 m10 k10, .int .i64 loc]] #[]]) ∧ Below w.heap.size w w'
  obtain ⟨W, hW⟩ : ∃ W, W = ((w.alloc (.cells #[.int .i64 t1, .int .i64 t2, .int .i64 t3, .int .i64 t4, .slice S1 m1 k1, .int .i64 fl, .slice S2 m2 k2, .slice S3 m3 k3, .slice S4 m4 k4, .slice S5 m5 k5, .slice S6 m6 k6, .slice S7 m7 k7, .slice S8 m8 k8, .slice S9 m9 k9, .slice S10 m10 k10] 37)).alloc (.cells #[.int .i64 0, .int .i64 0, .nilFunc, .nilFunc, .nilFunc] 51)) := ⟨_, rfl⟩
  have HBW : Hid (Below w.heap.size w W) := Lib.hid (by rw [hW]; exact ((Below.refl _ _).alloc (Nat.le_refl _) _).alloc (by simp) _)
  have HK : Hid (Blk W w.heap.size 37 #[.int .i64 t1, .int .i64 t2, .int .i64 t3, .int .i64 t4, .slice S1 m1 k1, .int .i64 fl, .slice S2 m2 k2, .slice S3 m3 k3, .slice S4 m4 k4, .slice S5 m5 k5, .slice S6 m6 k6, .slice S7 m7 k7, .slice S8 m8 k8, .slice S9 m9 k9, .slice S10 m10 k10]) := Lib.hid (by rw [hW]; exact (Blk.new _ _ _).alloc _)
  have HL : Hid (Blk W (w.heap.size + 1) 51 #[.int .i64 0, .int .i64 0, .nilFunc, .nilFunc, .nilFunc]) := Lib.hid (by rw [hW]; exact Blk.new_at _ _ _ _ (by simp))
  have HSZ : Hid (w.heap.size + 1 + 1 = W.heap.size) := Lib.hid (by rw [hW]; simp)
  go_enter Try.func37, Try.ntmps37
  go_wp2_with (first
    | (rw [← hW]; clear hW; refine wpList_load_row rfl 37 _ rfl w.heap.size rfl 37 #[.int .i64 t1, .int .i64 t2, .int .i64 t3, .int .i64 t4, .slice S1 m1 k1, .int .i64 fl, .slice S2 m2 k2, .slice S3 m3 k3, .slice S4 m4 k4, .slice S5 m5 k5, .slice S6 m6 k6, .slice S7 m7 k7, .slice S8 m8 k8, .slice S9 m9 k9, .slice S10 m10 k10] (0, 0) _ HK.out Try.underlying37 rfl tabs_size ?_)
    | (refine wpList_store_row rfl 77 _ _ rfl W.heap.size #[.int .i64 t1, .int .i64 t2, .int .i64 t3, .int .i64 t4, .slice S1 m1 k1, .int .i64 fl, .slice S2 m2 k2, .slice S3 m3 k3, .slice S4 m4 k4, .slice S5 m5 k5, .slice S6 m6 k6, .slice S7 m7 k7, .slice S8 m8 k8, .slice S9 m9 k9, .slice S10 m10 k10, .int .i64 loc] rfl rfl _ _ (Blk.new W _ _) rt_size rfl HONE.out ?_; obtain ⟨V, hV⟩ : ∃ V0, V0 = (W.alloc (.cells #[.int .i64 0, .int .i64 0, .int .i64 0, .int .i64 0, .slice none 0 0, .int .i64 0, .slice none 0 0, .slice none 0 0, .slice none 0 0, .slice none 0 0, .slice none 0 0, .slice none 0 0, .slice none 0 0, .slice none 0 0, .slice none 0 0, .int .i64 0] 77)).setRow W.heap.size #[.int .i64 t1, .int .i64 t2, .int .i64 t3, .int .i64 t4, .slice S1 m1 k1, .int .i64 fl, .slice S2 m2 k2, .slice S3 m3 k3, .slice S4 m4 k4, .slice S5 m5 k5, .slice S6 m6 k6, .slice S7 m7 k7, .slice S8 m8 k8, .slice S9 m9 k9, .slice S10 m10 k10, .int .i64 loc] := ⟨_, rfl⟩; rw [← hV]; obtain ⟨hkV, hbV⟩ := put_row hV; have HKV := Lib.hid hkV; have HBV := Lib.hid hbV; have HLV := Lib.hid (HL.out.below HBV.out HL.out.lt); clear hV hkV hbV)
    | (refine wpList_load_row rfl 77 _ rfl W.heap.size rfl 77 #[.int .i64 t1, .int .i64 t2, .int .i64 t3, .int .i64 t4, .slice S1 m1 k1, .int .i64 fl, .slice S2 m2 k2, .slice S3 m3 k3, .slice S4 m4 k4, .slice S5 m5 k5, .slice S6 m6 k6, .slice S7 m7 k7, .slice S8 m8 k8, .slice S9 m9 k9, .slice S10 m10 k10, .int .i64 loc] (0, 0) _ HKV.out Try.underlying77 rfl rt_size ?_)
    | (refine wpList_store_row rfl 51 _ _ rfl (w.heap.size + 1) #[.int .i64 19, .int .i64 18, .func (.func 62) #[] #[], .func (.func 63) #[.agg #[.int .i64 t1, .int .i64 t2, .int .i64 t3, .int .i64 t4, .slice S1 m1 k1, .int .i64 fl, .slice S2 m2 k2, .slice S3 m3 k3, .slice S4 m4 k4, .slice S5 m5 k5, .slice S6 m6 k6, .slice S7 m7 k7, .slice S8 m8 k8, .slice S9 m9 k9, .slice S10 m10 k10, .int .i64 loc]] #[], .func (.func 64) #[.agg #[.int .i64 t1, .int .i64 t2, .int .i64 t3, .int .i64 t4, .slice S1 m1 k1, .int .i64 fl, .slice S2 m2 k2, .slice S3 m3 k3, .slice S4 m4 k4, .slice S5 m5 k5, .slice S6 m6 k6, .slice S7 m7 k7, .slice S8 m8 k8, .slice S9 m9 k9, .slice S10 m10 k10, .int .i64 loc]] #[]] rfl rfl _ _ HLV.out lg_size rfl (by simp [Value.oneCell']) ?_))
  (try simp only [Exit.inBlock, Exit.then]); refine bodyPost_ret (results_cell_row rfl _ _ _ _ _ _ _ rfl (setRow_heap _ _ _ _ _ _ HLV.out) Try.underlying51 rfl (by kernel_rfl)) rfl ?_
  exact ⟨rfl, below_setRow (HBW.out.trans (HBV.out.mono HBW.out.size)) (by omega) _⟩

set_option maxRecDepth 100000 in
set_option maxHeartbeats 6400000 in
theorem tBound_vE (T : TV) (loc : Int) (hloc : loc ≤ 9223372036854775807) (e : EL) (w : World) (hT : T.In w w.heap.size) (hin : e.In w w.heap.size) : Calls Try.prog 16 #[T.val, eVal e, .int .i64 loc] w fun f w' => f = .returned (.bool (vE (bkE T.tb loc) 19 32 e)) ∧ Below w.heap.size w w' := by
  obtain ⟨q, hq⟩ : ∃ q, q = vE (bkE T.tb loc) 19 32 e := ⟨_, rfl⟩
  obtain ⟨ev, hev⟩ : ∃ v, v = eVal e := ⟨_, rfl⟩
  obtain ⟨gv, hgv⟩ : ∃ v, v = (bookG T loc).val := ⟨_, rfl⟩
  have HC : Hid (∀ W : World, Below w.heap.size w W → Calls Try.prog 33 #[gv, ev, .int .i64 32] W fun f w' => f = .returned (.bool q) ∧ Below W.heap.size W w') := Lib.hid (fun W hb => by
    rw [hq, hev, hgv]
    exact tvalidExpr_any w (bookG T loc) _ _ _ (bookG_ok T loc hloc w hT) 32 (by decide) e W hb (EL.In.more hb.size (hin.below hb)))
  have HL : Hid (∀ W : World, Calls Try.prog 37 #[T.val, .int .i64 loc] W fun f w' => f = .returned gv ∧ Below W.heap.size W w') := Lib.hid (fun W => by rw [hgv]; exact tbookLanguage_any T loc W)
  rw [← hq, ← hev]
  clear hq hin hT hgv
  obtain ⟨k, o, m, s, A, n, c, es⟩ := e
  have hev2 : ev = .agg #[.int .i64 k, .int .i64 o, .int .i64 m, .string (bs s), .slice A n c] := hev
  clear hev
  subst hev2
  obtain ⟨t1, t2, t3, t4, S1, m1, k1, fl, S2, m2, k2, S3, m3, k3, S4, m4, k4, S5, m5, k5, S6, m6, k6, S7, m7, k7, S8, m8, k8, S9, m9, k9, S10, m10, k10, fs, ps⟩ := T
  change Hid (∀ W : World, Calls Try.prog 37 #[.agg #[.int .i64 t1, .int .i64 t2, .int .i64 t3, .int .i64 t4, .slice S1 m1 k1, .int .i64 fl, .slice S2 m2 k2, .slice S3 m3 k3, .slice S4 m4 k4, .slice S5 m5 k5, .slice S6 m6 k6, .slice S7 m7 k7, .slice S8 m8 k8, .slice S9 m9 k9, .slice S10 m10 k10], .int .i64 loc] W fun f w' => f = .returned gv ∧ Below W.heap.size W w') at HL
  show Calls Try.prog _ #[.agg #[.int .i64 t1, .int .i64 t2, .int .i64 t3, .int .i64 t4, .slice S1 m1 k1, .int .i64 fl, .slice S2 m2 k2, .slice S3 m3 k3, .slice S4 m4 k4, .slice S5 m5 k5, .slice S6 m6 k6, .slice S7 m7 k7, .slice S8 m8 k8, .slice S9 m9 k9, .slice S10 m10 k10], .agg #[.int .i64 k, .int .i64 o, .int .i64 m, .string (bs s), .slice A n c], .int .i64 loc] w fun f w' => f = .returned (.bool q) ∧ Below w.heap.size w w'
  obtain ⟨W, hW⟩ : ∃ W, W = ((w.alloc (.cells #[.int .i64 t1, .int .i64 t2, .int .i64 t3, .int .i64 t4, .slice S1 m1 k1, .int .i64 fl, .slice S2 m2 k2, .slice S3 m3 k3, .slice S4 m4 k4, .slice S5 m5 k5, .slice S6 m6 k6, .slice S7 m7 k7, .slice S8 m8 k8, .slice S9 m9 k9, .slice S10 m10 k10] 37)).alloc (.cells #[.int .i64 k, .int .i64 o, .int .i64 m, .string (bs s), .slice A n c] 24)) := ⟨_, rfl⟩
  have HBW : Hid (Below w.heap.size w W) := Lib.hid (by rw [hW]; exact ((Below.refl _ _).alloc (Nat.le_refl _) _).alloc (by simp) _)
  have hct : Hid (∀ u : World, Below W.heap.size W u → u.cell? ⟨w.heap.size, 0, none⟩ = some (.int .i64 t1) ∧ u.cell? ⟨w.heap.size, 1, none⟩ = some (.int .i64 t2) ∧ u.cell? ⟨w.heap.size, 2, none⟩ = some (.int .i64 t3) ∧ u.cell? ⟨w.heap.size, 3, none⟩ = some (.int .i64 t4) ∧ u.cell? ⟨w.heap.size, 4, none⟩ = some (.slice S1 m1 k1) ∧ u.cell? ⟨w.heap.size, 5, none⟩ = some (.int .i64 fl) ∧ u.cell? ⟨w.heap.size, 6, none⟩ = some (.slice S2 m2 k2) ∧ u.cell? ⟨w.heap.size, 7, none⟩ = some (.slice S3 m3 k3) ∧ u.cell? ⟨w.heap.size, 8, none⟩ = some (.slice S4 m4 k4) ∧ u.cell? ⟨w.heap.size, 9, none⟩ = some (.slice S5 m5 k5) ∧ u.cell? ⟨w.heap.size, 10, none⟩ = some (.slice S6 m6 k6) ∧ u.cell? ⟨w.heap.size, 11, none⟩ = some (.slice S7 m7 k7) ∧ u.cell? ⟨w.heap.size, 12, none⟩ = some (.slice S8 m8 k8) ∧ u.cell? ⟨w.heap.size, 13, none⟩ = some (.slice S9 m9 k9) ∧ u.cell? ⟨w.heap.size, 14, none⟩ = some (.slice S10 m10 k10)) := Lib.hid (fun u hb => by
    have hk : Blk W w.heap.size 37 #[.int .i64 t1, .int .i64 t2, .int .i64 t3, .int .i64 t4, .slice S1 m1 k1, .int .i64 fl, .slice S2 m2 k2, .slice S3 m3 k3, .slice S4 m4 k4, .slice S5 m5 k5, .slice S6 m6 k6, .slice S7 m7 k7, .slice S8 m8 k8, .slice S9 m9 k9, .slice S10 m10 k10] := by rw [hW]; exact (Blk.new w _ _).alloc _
    have hk2 := hk.below hb hk.lt
    exact ⟨hk2.cell 0, hk2.cell 1, hk2.cell 2, hk2.cell 3, hk2.cell 4, hk2.cell 5, hk2.cell 6, hk2.cell 7, hk2.cell 8, hk2.cell 9, hk2.cell 10, hk2.cell 11, hk2.cell 12, hk2.cell 13, hk2.cell 14⟩)
  have hce : Hid (∀ u : World, Below W.heap.size W u → u.cell? ⟨w.heap.size + 1, 0, none⟩ = some (.int .i64 k) ∧ u.cell? ⟨w.heap.size + 1, 1, none⟩ = some (.int .i64 o) ∧ u.cell? ⟨w.heap.size + 1, 2, none⟩ = some (.int .i64 m) ∧ u.cell? ⟨w.heap.size + 1, 3, none⟩ = some (.string (bs s)) ∧ u.cell? ⟨w.heap.size + 1, 4, none⟩ = some (.slice A n c)) := Lib.hid (fun u hb => by
    have hk : Blk W (w.heap.size + 1) 24 #[.int .i64 k, .int .i64 o, .int .i64 m, .string (bs s), .slice A n c] := by rw [hW]; exact Blk.new_at _ _ _ _ (by simp)
    have hk2 := hk.below hb hk.lt
    exact ⟨hk2.cell 0, hk2.cell 1, hk2.cell 2, hk2.cell 3, hk2.cell 4⟩)
  go_enter Try.func16, Try.ntmps16
  go_wp2_with fail
  rw [← hW]
  clear hW
  refine wp_region_held_drew (S := Below W.heap.size W) (by kernel_rfl) (Below.refl _ _).drew (fun hHeld => ?_)
  refine held_take (i := 0) (fuel := 5) (v := ?_) (by rw [List.getElem?_toArray]; rfl) (by kernel_rfl) (by kernel_rfl) (by kernel_rfl) hHeld ?_ ?_ ?_ ?_
  rotate_left
  · intro u hSw
    obtain ⟨c0, c1, c2, c3, c4, c5, c6, c7, c8, c9, c10, c11, c12, c13, c14⟩ := hct.out u hSw
    go_simp
    try with_reducible rfl
  · rfl
  · exact fun _ _ _ h => h
  try simp only [Act.put, List.setIfInBounds_toArray, List.set_cons_zero, List.set_cons_succ]
  refine held_take (i := 1) (fuel := 4) (v := ?_) (by rw [List.getElem?_toArray]; rfl) (by kernel_rfl) (by kernel_rfl) (by kernel_rfl) hHeld ?_ ?_ ?_ ?_
  rotate_left
  · intro u hSw
    go_simp
    try with_reducible rfl
  · rfl
  · exact fun _ _ _ h => h
  try simp only [Act.put, List.setIfInBounds_toArray, List.set_cons_zero, List.set_cons_succ]
  refine held_take (i := 3) (fuel := 3) (v := ?_) (by rw [List.getElem?_toArray]; rfl) (by kernel_rfl) (by kernel_rfl) (by kernel_rfl) hHeld ?_ ?_ ?_ ?_
  rotate_left
  · intro u hSw
    obtain ⟨c0, c1, c2, c3, c4⟩ := hce.out u hSw
    go_simp
    try with_reducible rfl
  · rfl
  · exact fun _ _ _ h => h
  try simp only [Act.put, List.setIfInBounds_toArray, List.set_cons_zero, List.set_cons_succ]
  refine held_one (i := 2) (fuel := 2) (by kernel_rfl) (by rw [List.getElem?_toArray]; rfl) (fun K hK => ?_)
  go_simp
  refine (HL.out _).mono ?_
  rintro f w3 ⟨rfl, hb3⟩
  refine hK.out _ _ ?_ (fun hHeld => ?_)
  · exact hHeld.trans (hb3.mono hHeld.size)
  clear hK K
  try simp only [Act.put, List.setIfInBounds_toArray, List.set_cons_zero, List.set_cons_succ]
  refine held_one (i := 4) (fuel := 1) (by kernel_rfl) (by rw [List.getElem?_toArray]; rfl) (fun K hK => ?_)
  go_simp
  refine (HC.out _ (HBW.out.trans (hHeld.mono HBW.out.size))).mono ?_
  rintro f w4 ⟨rfl, hb4⟩
  refine hK.out _ _ ?_ (fun hHeld => ?_)
  · exact hHeld.trans (hb4.mono hHeld.size)
  clear hK K
  try simp only [Act.put, List.setIfInBounds_toArray, List.set_cons_zero, List.set_cons_succ]
  refine held_take (i := 5) (fuel := 0) (v := ?_) (by rw [List.getElem?_toArray]; rfl) (by kernel_rfl) (by kernel_rfl) (by kernel_rfl) hHeld ?_ ?_ ?_ ?_
  rotate_left
  · intro u hSw
    go_simp
    try with_reducible rfl
  · rfl
  · exact fun _ _ _ h => h
  try simp only [Act.put, List.setIfInBounds_toArray, List.set_cons_zero, List.set_cons_succ]
  refine wpAnyH_done (by kernel_rfl) ?_ _
  have HF := Lib.hid (HBW.out.trans (hHeld.mono HBW.out.size))
  go_wp2_with fail
  go_ret
  exact ⟨rfl, HF.out⟩

set_option maxRecDepth 100000 in
set_option maxHeartbeats 6400000 in
theorem tBoundBlock_vB (T : TV) (loc : Int) (hloc : loc ≤ 9223372036854775807) (ss : List SL) (A : Option Addr) (n c : Nat) (w : World) (hT : T.In w w.heap.size) (hA : RowS6 w w.heap.size A n ss) (hAi : SL.Ins w w.heap.size ss) : Calls Try.prog 18 #[T.val, .slice A n c, .int .i64 loc] w fun f w' => f = .returned (.bool (vB (bkE T.tb loc) (bkS T.tb loc) (fun s => (s.num, [])) 19 18 32 ss)) ∧ Below w.heap.size w w' := by
  obtain ⟨q, hq⟩ : ∃ q, q = vB (bkE T.tb loc) (bkS T.tb loc) (fun s => (s.num, [])) 19 18 32 ss := ⟨_, rfl⟩
  obtain ⟨gv, hgv⟩ : ∃ v, v = (bookG T loc).val := ⟨_, rfl⟩
  have HC : Hid (∀ W : World, Below w.heap.size w W → Calls Try.prog 35 #[gv, .slice A n c, .int .i64 32] W fun f w' => f = .returned (.bool q) ∧ Below W.heap.size W w') := Lib.hid (fun W hb => by
    rw [hq, hgv]
    exact tvalid_all w (bookG T loc) _ _ _ (bookG_ok T loc hloc w hT) 32 (by decide) ss A n c W hb ((RowS6.below hA hb).more hb.size) ((SL.Ins.below hAi hb).more hb.size))
  have HL : Hid (∀ W : World, Calls Try.prog 37 #[T.val, .int .i64 loc] W fun f w' => f = .returned gv ∧ Below W.heap.size W w') := Lib.hid (fun W => by rw [hgv]; exact tbookLanguage_any T loc W)
  rw [← hq]
  clear hq hA hAi hT hgv
  obtain ⟨t1, t2, t3, t4, S1, m1, k1, fl, S2, m2, k2, S3, m3, k3, S4, m4, k4, S5, m5, k5, S6, m6, k6, S7, m7, k7, S8, m8, k8, S9, m9, k9, S10, m10, k10, fs, ps⟩ := T
  change Hid (∀ W : World, Calls Try.prog 37 #[.agg #[.int .i64 t1, .int .i64 t2, .int .i64 t3, .int .i64 t4, .slice S1 m1 k1, .int .i64 fl, .slice S2 m2 k2, .slice S3 m3 k3, .slice S4 m4 k4, .slice S5 m5 k5, .slice S6 m6 k6, .slice S7 m7 k7, .slice S8 m8 k8, .slice S9 m9 k9, .slice S10 m10 k10], .int .i64 loc] W fun f w' => f = .returned gv ∧ Below W.heap.size W w') at HL
  show Calls Try.prog _ #[.agg #[.int .i64 t1, .int .i64 t2, .int .i64 t3, .int .i64 t4, .slice S1 m1 k1, .int .i64 fl, .slice S2 m2 k2, .slice S3 m3 k3, .slice S4 m4 k4, .slice S5 m5 k5, .slice S6 m6 k6, .slice S7 m7 k7, .slice S8 m8 k8, .slice S9 m9 k9, .slice S10 m10 k10], .slice A n c, .int .i64 loc] w fun f w' => f = .returned (.bool q) ∧ Below w.heap.size w w'
  obtain ⟨W, hW⟩ : ∃ W, W = (w.alloc (.cells #[.int .i64 t1, .int .i64 t2, .int .i64 t3, .int .i64 t4, .slice S1 m1 k1, .int .i64 fl, .slice S2 m2 k2, .slice S3 m3 k3, .slice S4 m4 k4, .slice S5 m5 k5, .slice S6 m6 k6, .slice S7 m7 k7, .slice S8 m8 k8, .slice S9 m9 k9, .slice S10 m10 k10] 37)) := ⟨_, rfl⟩
  have HBW : Hid (Below w.heap.size w W) := Lib.hid (by rw [hW]; exact (Below.refl _ _).alloc (Nat.le_refl _) _)
  have HK : Hid (Blk W w.heap.size 37 #[.int .i64 t1, .int .i64 t2, .int .i64 t3, .int .i64 t4, .slice S1 m1 k1, .int .i64 fl, .slice S2 m2 k2, .slice S3 m3 k3, .slice S4 m4 k4, .slice S5 m5 k5, .slice S6 m6 k6, .slice S7 m7 k7, .slice S8 m8 k8, .slice S9 m9 k9, .slice S10 m10 k10]) := Lib.hid (by rw [hW]; exact Blk.new _ _ _)
  go_enter Try.func18, Try.ntmps18
  go_wp2_with (rw [← hW]; clear hW; refine wpList_load_row rfl 37 _ rfl w.heap.size rfl 37 #[.int .i64 t1, .int .i64 t2, .int .i64 t3, .int .i64 t4, .slice S1 m1 k1, .int .i64 fl, .slice S2 m2 k2, .slice S3 m3 k3, .slice S4 m4 k4, .slice S5 m5 k5, .slice S6 m6 k6, .slice S7 m7 k7, .slice S8 m8 k8, .slice S9 m9 k9, .slice S10 m10 k10] (0, 0) _ HK.out Try.underlying37 rfl tabs_size ?_)
  refine (HL.out _).mono ?_
  rintro f w1 ⟨rfl, hb1⟩
  have HB1 := Lib.hid (HBW.out.trans (hb1.mono HBW.out.size))
  clear hb1
  go_wp2_with fail
  refine (HC.out w1 HB1.out).mono ?_
  rintro f w2 ⟨rfl, hb2⟩
  go_wp2_with fail
  go_ret
  exact ⟨rfl, HB1.out.trans (hb2.mono HB1.out.size)⟩

end Go.Proofs.Ytdmpadonnobeaaa
