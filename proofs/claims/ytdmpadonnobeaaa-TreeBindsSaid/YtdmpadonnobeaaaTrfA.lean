/- Contracts of the program's nearest, exprForm, stmtForm: the fields that an expression, a statement of its kind has. -/
import Derived.Test.YtdmpadonnobeaaaTreX
import Derived.RegionTactic
import Derived.ChangeAlike
import Derived.Deep.RegionWith
namespace Go.Proofs.Ytdmpadonnobeaaa
open Go.RowKit
set_option linter.unusedVariables false

/-- the number from a to b that is nearest -/
def nearL (n a b : Int) : Int := min (max n a) b

set_option maxRecDepth 100000 in
theorem tnearest_any (w : World) (n a b : Int) : Calls Try.prog 78 #[.int .i64 n, .int .i64 a, .int .i64 b] w fun f w' => f = .returned (.int .i64 (nearL n a b)) ∧ w = w' := by
  go_enter Try.func78, Try.ntmps78
  go_wp2_with fail
  all_goals
    go_ret
    exact ⟨ret_int (by unfold nearL; omega), rfl⟩

/-- the fields that an expression has if it uses those of its kind alone -/
def EL.form (e : EL) : FV :=
  if e.kind = 1 ∨ e.kind = 14 ∨ e.kind = 15 ∨ e.kind = 19 then ⟨e.kind, 0, e.num, [], 0, 0, 0⟩
  else if e.kind = 2 ∨ e.kind = 3 then ⟨e.kind, 0, 0, e.name, 0, 0, 0⟩
  else if e.kind = 4 ∨ e.kind = 5 ∨ e.kind = 11 ∨ e.kind = 13 then ⟨e.kind, 0, 0, [], 1, 0, 0⟩
  else if e.kind = 6 then ⟨e.kind, nearL e.op 1 14, 0, [], 2, 0, 0⟩
  else if e.kind = 7 ∨ e.kind = 8 then ⟨e.kind, 0, 0, e.name, 1, 0, 0⟩
  else if e.kind = 16 ∨ e.kind = 17 then ⟨e.kind, 0, e.num, [], 1, 0, 0⟩
  else if e.kind = 9 then ⟨e.kind, 0, 0, e.name, nearL e.n 0 8, 0, 0⟩
  else if e.kind = 18 then ⟨e.kind, 0, e.num, [], e.n, 0, 0⟩
  else if e.kind = 10 then ⟨e.kind, nearL e.op 1 3, 0, [], 1, 0, 0⟩
  else if e.kind = 12 then ⟨e.kind, nearL e.op 1 6, 0, [], 0, 0, 0⟩
  else ⟨e.kind, 0, 0, [], 0, 0, 0⟩

theorem form_back {w V : World} {cs zs : Array Value} {t : TypeId} (o : Obj) (h : V = ((w.alloc o).alloc (.cells cs 61)).alloc (.cells zs t)) : V.heap[w.heap.size + 1]? = some (.cells cs 61 (0, 0)) ∧ Below w.heap.size w V := by
  subst h
  exact ⟨(Blk.new_at _ _ _ (w.heap.size + 1) (by simp)).alloc _, (((Below.refl _ _).alloc (Nat.le_refl _) _).alloc (by simp) _).alloc (by simp; omega) _⟩

set_option maxRecDepth 100000 in
set_option maxHeartbeats 6400000 in
theorem eform_1 (o m : Int) (s : List UInt8) (A : Option Addr) (n c : Nat) (w : World) : Calls Try.prog 53 #[.agg #[.int .i64 1, .int .i64 o, .int .i64 m, .string (bs s), .slice A n c]] w fun f w' => f = .returned (FV.val ⟨1, 0, m, [], 0, 0, 0⟩) ∧ Below w.heap.size w w' := by
  go_enter Try.func53, Try.ntmps53
  go_wp2_with (refine (tnearest_any _ _ _ _).mono ?_; rintro f w2 ⟨rfl, rfl⟩)
  (try simp only [Exit.inBlock, Exit.then]); refine bodyPost_ret (results_cell_row rfl _ _ _ _ _ _ _ rfl (form_back _ rfl).1 Try.underlying61 rfl (by kernel_rfl)) rfl ?_
  exact ⟨rfl, (form_back _ rfl).2⟩

set_option maxRecDepth 100000 in
set_option maxHeartbeats 6400000 in
theorem eform_2 (o m : Int) (s : List UInt8) (A : Option Addr) (n c : Nat) (w : World) : Calls Try.prog 53 #[.agg #[.int .i64 2, .int .i64 o, .int .i64 m, .string (bs s), .slice A n c]] w fun f w' => f = .returned (FV.val ⟨2, 0, 0, s, 0, 0, 0⟩) ∧ Below w.heap.size w w' := by
  go_enter Try.func53, Try.ntmps53
  go_wp2_with (refine (tnearest_any _ _ _ _).mono ?_; rintro f w2 ⟨rfl, rfl⟩)
  (try simp only [Exit.inBlock, Exit.then]); refine bodyPost_ret (results_cell_row rfl _ _ _ _ _ _ _ rfl (form_back _ rfl).1 Try.underlying61 rfl (by kernel_rfl)) rfl ?_
  exact ⟨rfl, (form_back _ rfl).2⟩

set_option maxRecDepth 100000 in
set_option maxHeartbeats 6400000 in
theorem eform_3 (o m : Int) (s : List UInt8) (A : Option Addr) (n c : Nat) (w : World) : Calls Try.prog 53 #[.agg #[.int .i64 3, .int .i64 o, .int .i64 m, .string (bs s), .slice A n c]] w fun f w' => f = .returned (FV.val ⟨3, 0, 0, s, 0, 0, 0⟩) ∧ Below w.heap.size w w' := by
  go_enter Try.func53, Try.ntmps53
  go_wp2_with (refine (tnearest_any _ _ _ _).mono ?_; rintro f w2 ⟨rfl, rfl⟩)
  (try simp only [Exit.inBlock, Exit.then]); refine bodyPost_ret (results_cell_row rfl _ _ _ _ _ _ _ rfl (form_back _ rfl).1 Try.underlying61 rfl (by kernel_rfl)) rfl ?_
  exact ⟨rfl, (form_back _ rfl).2⟩

set_option maxRecDepth 100000 in
set_option maxHeartbeats 6400000 in
theorem eform_4 (o m : Int) (s : List UInt8) (A : Option Addr) (n c : Nat) (w : World) : Calls Try.prog 53 #[.agg #[.int .i64 4, .int .i64 o, .int .i64 m, .string (bs s), .slice A n c]] w fun f w' => f = .returned (FV.val ⟨4, 0, 0, [], 1, 0, 0⟩) ∧ Below w.heap.size w w' := by
  go_enter Try.func53, Try.ntmps53
  go_wp2_with (refine (tnearest_any _ _ _ _).mono ?_; rintro f w2 ⟨rfl, rfl⟩)
  (try simp only [Exit.inBlock, Exit.then]); refine bodyPost_ret (results_cell_row rfl _ _ _ _ _ _ _ rfl (form_back _ rfl).1 Try.underlying61 rfl (by kernel_rfl)) rfl ?_
  exact ⟨rfl, (form_back _ rfl).2⟩

set_option maxRecDepth 100000 in
set_option maxHeartbeats 6400000 in
theorem eform_5 (o m : Int) (s : List UInt8) (A : Option Addr) (n c : Nat) (w : World) : Calls Try.prog 53 #[.agg #[.int .i64 5, .int .i64 o, .int .i64 m, .string (bs s), .slice A n c]] w fun f w' => f = .returned (FV.val ⟨5, 0, 0, [], 1, 0, 0⟩) ∧ Below w.heap.size w w' := by
  go_enter Try.func53, Try.ntmps53
  go_wp2_with (refine (tnearest_any _ _ _ _).mono ?_; rintro f w2 ⟨rfl, rfl⟩)
  (try simp only [Exit.inBlock, Exit.then]); refine bodyPost_ret (results_cell_row rfl _ _ _ _ _ _ _ rfl (form_back _ rfl).1 Try.underlying61 rfl (by kernel_rfl)) rfl ?_
  exact ⟨rfl, (form_back _ rfl).2⟩

set_option maxRecDepth 100000 in
set_option maxHeartbeats 6400000 in
theorem eform_6 (o m : Int) (s : List UInt8) (A : Option Addr) (n c : Nat) (w : World) : Calls Try.prog 53 #[.agg #[.int .i64 6, .int .i64 o, .int .i64 m, .string (bs s), .slice A n c]] w fun f w' => f = .returned (FV.val ⟨6, nearL o 1 14, 0, [], 2, 0, 0⟩) ∧ Below w.heap.size w w' := by
  go_enter Try.func53, Try.ntmps53
  go_wp2_with (refine (tnearest_any _ _ _ _).mono ?_; rintro f w2 ⟨rfl, rfl⟩)
  (try simp only [Exit.inBlock, Exit.then]); refine bodyPost_ret (results_cell_row rfl _ _ _ _ _ _ _ rfl (form_back _ rfl).1 Try.underlying61 rfl (by kernel_rfl)) rfl ?_
  exact ⟨rfl, (form_back _ rfl).2⟩

set_option maxRecDepth 100000 in
set_option maxHeartbeats 6400000 in
theorem eform_7 (o m : Int) (s : List UInt8) (A : Option Addr) (n c : Nat) (w : World) : Calls Try.prog 53 #[.agg #[.int .i64 7, .int .i64 o, .int .i64 m, .string (bs s), .slice A n c]] w fun f w' => f = .returned (FV.val ⟨7, 0, 0, s, 1, 0, 0⟩) ∧ Below w.heap.size w w' := by
  go_enter Try.func53, Try.ntmps53
  go_wp2_with (refine (tnearest_any _ _ _ _).mono ?_; rintro f w2 ⟨rfl, rfl⟩)
  (try simp only [Exit.inBlock, Exit.then]); refine bodyPost_ret (results_cell_row rfl _ _ _ _ _ _ _ rfl (form_back _ rfl).1 Try.underlying61 rfl (by kernel_rfl)) rfl ?_
  exact ⟨rfl, (form_back _ rfl).2⟩

set_option maxRecDepth 100000 in
set_option maxHeartbeats 6400000 in
theorem eform_8 (o m : Int) (s : List UInt8) (A : Option Addr) (n c : Nat) (w : World) : Calls Try.prog 53 #[.agg #[.int .i64 8, .int .i64 o, .int .i64 m, .string (bs s), .slice A n c]] w fun f w' => f = .returned (FV.val ⟨8, 0, 0, s, 1, 0, 0⟩) ∧ Below w.heap.size w w' := by
  go_enter Try.func53, Try.ntmps53
  go_wp2_with (refine (tnearest_any _ _ _ _).mono ?_; rintro f w2 ⟨rfl, rfl⟩)
  (try simp only [Exit.inBlock, Exit.then]); refine bodyPost_ret (results_cell_row rfl _ _ _ _ _ _ _ rfl (form_back _ rfl).1 Try.underlying61 rfl (by kernel_rfl)) rfl ?_
  exact ⟨rfl, (form_back _ rfl).2⟩

set_option maxRecDepth 100000 in
set_option maxHeartbeats 6400000 in
theorem eform_9 (o m : Int) (s : List UInt8) (A : Option Addr) (n c : Nat) (w : World) : Calls Try.prog 53 #[.agg #[.int .i64 9, .int .i64 o, .int .i64 m, .string (bs s), .slice A n c]] w fun f w' => f = .returned (FV.val ⟨9, 0, 0, s, nearL n 0 8, 0, 0⟩) ∧ Below w.heap.size w w' := by
  go_enter Try.func53, Try.ntmps53
  go_wp2_with (refine (tnearest_any _ _ _ _).mono ?_; rintro f w2 ⟨rfl, rfl⟩)
  go_region_with (refine (tnearest_any _ _ _ _).mono ?_; rintro f w2 ⟨rfl, rfl⟩)
  all_goals
    go_wp2_with fail
    (try simp only [Exit.inBlock, Exit.then]); refine bodyPost_ret (results_cell_row rfl _ _ _ _ _ _ _ rfl (form_back _ rfl).1 Try.underlying61 rfl (by kernel_rfl)) rfl ?_
    exact ⟨rfl, (form_back _ rfl).2.drew⟩

set_option maxRecDepth 100000 in
set_option maxHeartbeats 6400000 in
theorem eform_10 (o m : Int) (s : List UInt8) (A : Option Addr) (n c : Nat) (w : World) : Calls Try.prog 53 #[.agg #[.int .i64 10, .int .i64 o, .int .i64 m, .string (bs s), .slice A n c]] w fun f w' => f = .returned (FV.val ⟨10, nearL o 1 3, 0, [], 1, 0, 0⟩) ∧ Below w.heap.size w w' := by
  go_enter Try.func53, Try.ntmps53
  go_wp2_with (refine (tnearest_any _ _ _ _).mono ?_; rintro f w2 ⟨rfl, rfl⟩)
  (try simp only [Exit.inBlock, Exit.then]); refine bodyPost_ret (results_cell_row rfl _ _ _ _ _ _ _ rfl (form_back _ rfl).1 Try.underlying61 rfl (by kernel_rfl)) rfl ?_
  exact ⟨rfl, (form_back _ rfl).2⟩

set_option maxRecDepth 100000 in
set_option maxHeartbeats 6400000 in
theorem eform_11 (o m : Int) (s : List UInt8) (A : Option Addr) (n c : Nat) (w : World) : Calls Try.prog 53 #[.agg #[.int .i64 11, .int .i64 o, .int .i64 m, .string (bs s), .slice A n c]] w fun f w' => f = .returned (FV.val ⟨11, 0, 0, [], 1, 0, 0⟩) ∧ Below w.heap.size w w' := by
  go_enter Try.func53, Try.ntmps53
  go_wp2_with (refine (tnearest_any _ _ _ _).mono ?_; rintro f w2 ⟨rfl, rfl⟩)
  (try simp only [Exit.inBlock, Exit.then]); refine bodyPost_ret (results_cell_row rfl _ _ _ _ _ _ _ rfl (form_back _ rfl).1 Try.underlying61 rfl (by kernel_rfl)) rfl ?_
  exact ⟨rfl, (form_back _ rfl).2⟩

set_option maxRecDepth 100000 in
set_option maxHeartbeats 6400000 in
theorem eform_12 (o m : Int) (s : List UInt8) (A : Option Addr) (n c : Nat) (w : World) : Calls Try.prog 53 #[.agg #[.int .i64 12, .int .i64 o, .int .i64 m, .string (bs s), .slice A n c]] w fun f w' => f = .returned (FV.val ⟨12, nearL o 1 6, 0, [], 0, 0, 0⟩) ∧ Below w.heap.size w w' := by
  go_enter Try.func53, Try.ntmps53
  go_wp2_with (refine (tnearest_any _ _ _ _).mono ?_; rintro f w2 ⟨rfl, rfl⟩)
  (try simp only [Exit.inBlock, Exit.then]); refine bodyPost_ret (results_cell_row rfl _ _ _ _ _ _ _ rfl (form_back _ rfl).1 Try.underlying61 rfl (by kernel_rfl)) rfl ?_
  exact ⟨rfl, (form_back _ rfl).2⟩

set_option maxRecDepth 100000 in
set_option maxHeartbeats 6400000 in
theorem eform_13 (o m : Int) (s : List UInt8) (A : Option Addr) (n c : Nat) (w : World) : Calls Try.prog 53 #[.agg #[.int .i64 13, .int .i64 o, .int .i64 m, .string (bs s), .slice A n c]] w fun f w' => f = .returned (FV.val ⟨13, 0, 0, [], 1, 0, 0⟩) ∧ Below w.heap.size w w' := by
  go_enter Try.func53, Try.ntmps53
  go_wp2_with (refine (tnearest_any _ _ _ _).mono ?_; rintro f w2 ⟨rfl, rfl⟩)
  (try simp only [Exit.inBlock, Exit.then]); refine bodyPost_ret (results_cell_row rfl _ _ _ _ _ _ _ rfl (form_back _ rfl).1 Try.underlying61 rfl (by kernel_rfl)) rfl ?_
  exact ⟨rfl, (form_back _ rfl).2⟩

set_option maxRecDepth 100000 in
set_option maxHeartbeats 6400000 in
theorem eform_14 (o m : Int) (s : List UInt8) (A : Option Addr) (n c : Nat) (w : World) : Calls Try.prog 53 #[.agg #[.int .i64 14, .int .i64 o, .int .i64 m, .string (bs s), .slice A n c]] w fun f w' => f = .returned (FV.val ⟨14, 0, m, [], 0, 0, 0⟩) ∧ Below w.heap.size w w' := by
  go_enter Try.func53, Try.ntmps53
  go_wp2_with (refine (tnearest_any _ _ _ _).mono ?_; rintro f w2 ⟨rfl, rfl⟩)
  (try simp only [Exit.inBlock, Exit.then]); refine bodyPost_ret (results_cell_row rfl _ _ _ _ _ _ _ rfl (form_back _ rfl).1 Try.underlying61 rfl (by kernel_rfl)) rfl ?_
  exact ⟨rfl, (form_back _ rfl).2⟩

set_option maxRecDepth 100000 in
set_option maxHeartbeats 6400000 in
theorem eform_15 (o m : Int) (s : List UInt8) (A : Option Addr) (n c : Nat) (w : World) : Calls Try.prog 53 #[.agg #[.int .i64 15, .int .i64 o, .int .i64 m, .string (bs s), .slice A n c]] w fun f w' => f = .returned (FV.val ⟨15, 0, m, [], 0, 0, 0⟩) ∧ Below w.heap.size w w' := by
  go_enter Try.func53, Try.ntmps53
  go_wp2_with (refine (tnearest_any _ _ _ _).mono ?_; rintro f w2 ⟨rfl, rfl⟩)
  (try simp only [Exit.inBlock, Exit.then]); refine bodyPost_ret (results_cell_row rfl _ _ _ _ _ _ _ rfl (form_back _ rfl).1 Try.underlying61 rfl (by kernel_rfl)) rfl ?_
  exact ⟨rfl, (form_back _ rfl).2⟩

set_option maxRecDepth 100000 in
set_option maxHeartbeats 6400000 in
theorem eform_16 (o m : Int) (s : List UInt8) (A : Option Addr) (n c : Nat) (w : World) : Calls Try.prog 53 #[.agg #[.int .i64 16, .int .i64 o, .int .i64 m, .string (bs s), .slice A n c]] w fun f w' => f = .returned (FV.val ⟨16, 0, m, [], 1, 0, 0⟩) ∧ Below w.heap.size w w' := by
  go_enter Try.func53, Try.ntmps53
  go_wp2_with (refine (tnearest_any _ _ _ _).mono ?_; rintro f w2 ⟨rfl, rfl⟩)
  (try simp only [Exit.inBlock, Exit.then]); refine bodyPost_ret (results_cell_row rfl _ _ _ _ _ _ _ rfl (form_back _ rfl).1 Try.underlying61 rfl (by kernel_rfl)) rfl ?_
  exact ⟨rfl, (form_back _ rfl).2⟩

set_option maxRecDepth 100000 in
set_option maxHeartbeats 6400000 in
theorem eform_17 (o m : Int) (s : List UInt8) (A : Option Addr) (n c : Nat) (w : World) : Calls Try.prog 53 #[.agg #[.int .i64 17, .int .i64 o, .int .i64 m, .string (bs s), .slice A n c]] w fun f w' => f = .returned (FV.val ⟨17, 0, m, [], 1, 0, 0⟩) ∧ Below w.heap.size w w' := by
  go_enter Try.func53, Try.ntmps53
  go_wp2_with (refine (tnearest_any _ _ _ _).mono ?_; rintro f w2 ⟨rfl, rfl⟩)
  (try simp only [Exit.inBlock, Exit.then]); refine bodyPost_ret (results_cell_row rfl _ _ _ _ _ _ _ rfl (form_back _ rfl).1 Try.underlying61 rfl (by kernel_rfl)) rfl ?_
  exact ⟨rfl, (form_back _ rfl).2⟩

set_option maxRecDepth 100000 in
set_option maxHeartbeats 6400000 in
theorem eform_18 (o m : Int) (s : List UInt8) (A : Option Addr) (n c : Nat) (w : World) : Calls Try.prog 53 #[.agg #[.int .i64 18, .int .i64 o, .int .i64 m, .string (bs s), .slice A n c]] w fun f w' => f = .returned (FV.val ⟨18, 0, m, [], n, 0, 0⟩) ∧ Below w.heap.size w w' := by
  go_enter Try.func53, Try.ntmps53
  go_wp2_with fail
  go_region
  all_goals
    go_wp2_with fail
    (try simp only [Exit.inBlock, Exit.then]); refine bodyPost_ret (results_cell_row rfl _ _ _ _ _ _ _ rfl (form_back _ rfl).1 Try.underlying61 rfl (by kernel_rfl)) rfl ?_
    exact ⟨rfl, (form_back _ rfl).2.drew⟩

set_option maxRecDepth 100000 in
set_option maxHeartbeats 6400000 in
theorem eform_19 (o m : Int) (s : List UInt8) (A : Option Addr) (n c : Nat) (w : World) : Calls Try.prog 53 #[.agg #[.int .i64 19, .int .i64 o, .int .i64 m, .string (bs s), .slice A n c]] w fun f w' => f = .returned (FV.val ⟨19, 0, m, [], 0, 0, 0⟩) ∧ Below w.heap.size w w' := by
  go_enter Try.func53, Try.ntmps53
  go_wp2_with (refine (tnearest_any _ _ _ _).mono ?_; rintro f w2 ⟨rfl, rfl⟩)
  (try simp only [Exit.inBlock, Exit.then]); refine bodyPost_ret (results_cell_row rfl _ _ _ _ _ _ _ rfl (form_back _ rfl).1 Try.underlying61 rfl (by kernel_rfl)) rfl ?_
  exact ⟨rfl, (form_back _ rfl).2⟩

set_option maxRecDepth 100000 in
set_option maxHeartbeats 6400000 in
theorem eform_0 (k : Int) (h1 : k ≠ 1) (h2 : k ≠ 2) (h3 : k ≠ 3) (h4 : k ≠ 4) (h5 : k ≠ 5) (h6 : k ≠ 6) (h7 : k ≠ 7) (h8 : k ≠ 8) (h9 : k ≠ 9) (h10 : k ≠ 10) (h11 : k ≠ 11) (h12 : k ≠ 12) (h13 : k ≠ 13) (h14 : k ≠ 14) (h15 : k ≠ 15) (h16 : k ≠ 16) (h17 : k ≠ 17) (h18 : k ≠ 18) (h19 : k ≠ 19) (o m : Int) (s : List UInt8) (A : Option Addr) (n c : Nat) (w : World) : Calls Try.prog 53 #[.agg #[.int .i64 k, .int .i64 o, .int .i64 m, .string (bs s), .slice A n c]] w fun f w' => f = .returned (FV.val ⟨k, 0, 0, [], 0, 0, 0⟩) ∧ Below w.heap.size w w' := by
  have t1 : (k == 1) = false := by rw [beq_eq_false_iff_ne]; exact h1
  have t2 : (k == 2) = false := by rw [beq_eq_false_iff_ne]; exact h2
  have t3 : (k == 3) = false := by rw [beq_eq_false_iff_ne]; exact h3
  have t4 : (k == 4) = false := by rw [beq_eq_false_iff_ne]; exact h4
  have t5 : (k == 5) = false := by rw [beq_eq_false_iff_ne]; exact h5
  have t6 : (k == 6) = false := by rw [beq_eq_false_iff_ne]; exact h6
  have t7 : (k == 7) = false := by rw [beq_eq_false_iff_ne]; exact h7
  have t8 : (k == 8) = false := by rw [beq_eq_false_iff_ne]; exact h8
  have t9 : (k == 9) = false := by rw [beq_eq_false_iff_ne]; exact h9
  have t10 : (k == 10) = false := by rw [beq_eq_false_iff_ne]; exact h10
  have t11 : (k == 11) = false := by rw [beq_eq_false_iff_ne]; exact h11
  have t12 : (k == 12) = false := by rw [beq_eq_false_iff_ne]; exact h12
  have t13 : (k == 13) = false := by rw [beq_eq_false_iff_ne]; exact h13
  have t14 : (k == 14) = false := by rw [beq_eq_false_iff_ne]; exact h14
  have t15 : (k == 15) = false := by rw [beq_eq_false_iff_ne]; exact h15
  have t16 : (k == 16) = false := by rw [beq_eq_false_iff_ne]; exact h16
  have t17 : (k == 17) = false := by rw [beq_eq_false_iff_ne]; exact h17
  have t18 : (k == 18) = false := by rw [beq_eq_false_iff_ne]; exact h18
  have t19 : (k == 19) = false := by rw [beq_eq_false_iff_ne]; exact h19
  clear h1 h2 h3 h4 h5 h6 h7 h8 h9 h10 h11 h12 h13 h14 h15 h16 h17 h18 h19
  go_enter Try.func53, Try.ntmps53
  go_wp2_with (refine (tnearest_any _ _ _ _).mono ?_; rintro f w2 ⟨rfl, rfl⟩)
  (try simp only [Exit.inBlock, Exit.then]); refine bodyPost_ret (results_cell_row rfl _ _ _ _ _ _ _ rfl (form_back _ rfl).1 Try.underlying61 rfl (by kernel_rfl)) rfl ?_
  exact ⟨rfl, (form_back _ rfl).2⟩

theorem texprForm_any (e : EL) (w : World) : Calls Try.prog 53 #[eVal e] w fun f w' => f = .returned e.form.val ∧ Below w.heap.size w w' := by
  obtain ⟨k, o, m, s, A, n, c, es⟩ := e
  by_cases h1 : k = 1
  · subst h1
    exact eform_1 o m s A n c w
  by_cases h2 : k = 2
  · subst h2
    exact eform_2 o m s A n c w
  by_cases h3 : k = 3
  · subst h3
    exact eform_3 o m s A n c w
  by_cases h4 : k = 4
  · subst h4
    exact eform_4 o m s A n c w
  by_cases h5 : k = 5
  · subst h5
    exact eform_5 o m s A n c w
  by_cases h6 : k = 6
  · subst h6
    exact eform_6 o m s A n c w
  by_cases h7 : k = 7
  · subst h7
    exact eform_7 o m s A n c w
  by_cases h8 : k = 8
  · subst h8
    exact eform_8 o m s A n c w
  by_cases h9 : k = 9
  · subst h9
    exact eform_9 o m s A n c w
  by_cases h10 : k = 10
  · subst h10
    exact eform_10 o m s A n c w
  by_cases h11 : k = 11
  · subst h11
    exact eform_11 o m s A n c w
  by_cases h12 : k = 12
  · subst h12
    exact eform_12 o m s A n c w
  by_cases h13 : k = 13
  · subst h13
    exact eform_13 o m s A n c w
  by_cases h14 : k = 14
  · subst h14
    exact eform_14 o m s A n c w
  by_cases h15 : k = 15
  · subst h15
    exact eform_15 o m s A n c w
  by_cases h16 : k = 16
  · subst h16
    exact eform_16 o m s A n c w
  by_cases h17 : k = 17
  · subst h17
    exact eform_17 o m s A n c w
  by_cases h18 : k = 18
  · subst h18
    exact eform_18 o m s A n c w
  by_cases h19 : k = 19
  · subst h19
    exact eform_19 o m s A n c w
  have e : (EL.mk k o m s A n c es).form = ⟨k, 0, 0, [], 0, 0, 0⟩ := by
    unfold EL.form
    simp only [EL.kind, h1, h2, h3, h4, h5, h6, h7, h8, h9, h10, h11, h12, h13, h14, h15, h16, h17, h18, h19, or_self, if_false]
  rw [e]
  exact eform_0 k h1 h2 h3 h4 h5 h6 h7 h8 h9 h10 h11 h12 h13 h14 h15 h16 h17 h18 h19 o m s A n c w

/-- the fields that a statement has if it uses those of its kind alone; its name: lm, ls -/
def SL.form (e : SL) (lm : Int) (ls : List UInt8) : FV :=
  if e.kind = 1 then ⟨e.kind, 0, 0, [], nearL e.n 1 8, 0, 0⟩
  else if e.kind = 2 ∨ e.kind = 3 ∨ e.kind = 5 ∨ e.kind = 6 ∨ e.kind = 17 ∨ e.kind = 23 then ⟨e.kind, 0, lm, ls, 1, 0, 0⟩
  else if e.kind = 4 then ⟨e.kind, 0, lm, ls, 2, 0, 0⟩
  else if e.kind = 7 then ⟨e.kind, 0, 0, [], 2, 0, 0⟩
  else if e.kind = 8 ∨ e.kind = 12 ∨ e.kind = 16 ∨ e.kind = 20 ∨ e.kind = 22 ∨ e.kind = 19 then ⟨e.kind, 0, 0, [], 1, 0, 0⟩
  else if e.kind = 9 then ⟨e.kind, 0, 0, [], 1, e.n1, e.n2⟩
  else if e.kind = 10 then ⟨e.kind, 0, 0, [], 1, e.n1, 0⟩
  else if e.kind = 11 then ⟨e.kind, 0, lm, ls, 1, e.n1, 0⟩
  else if e.kind = 18 then ⟨e.kind, 0, lm, ls, 0, 0, 0⟩
  else ⟨e.kind, 0, 0, [], 0, 0, 0⟩

theorem form_back4 {w V : World} {cs zs : Array Value} {t : TypeId} (o o' : Obj) (h : V = (((w.alloc o).alloc o').alloc (.cells cs 61)).alloc (.cells zs t)) : V.heap[w.heap.size + 1 + 1]? = some (.cells cs 61 (0, 0)) ∧ Below w.heap.size w V := by
  subst h
  exact ⟨(Blk.new_at _ _ _ (w.heap.size + 1 + 1) (by simp)).alloc _, ((((Below.refl _ _).alloc (Nat.le_refl _) _).alloc (by simp) _).alloc (by simp; omega) _).alloc (by simp; omega) _⟩

set_option maxRecDepth 100000 in
set_option maxHeartbeats 6400000 in
theorem sform_1 (m : Int) (s : List UInt8) (A : Option Addr) (n c : Nat) (A1 : Option Addr) (n1 c1 : Nat) (A2 : Option Addr) (n2 c2 : Nat) (lm : Int) (ls : List UInt8) (w : World) : Calls Try.prog 81 #[.agg #[.int .i64 1, .int .i64 m, .string (bs s), .slice A n c, .slice A1 n1 c1, .slice A2 n2 c2], .agg #[.int .i64 lm, .string (bs ls)]] w fun f w' => f = .returned (FV.val ⟨1, 0, 0, [], nearL n 1 8, 0, 0⟩) ∧ Below w.heap.size w w' := by
  go_enter Try.func81, Try.ntmps81
  go_wp2_with (refine (tnearest_any _ _ _ _).mono ?_; rintro f w2 ⟨rfl, rfl⟩)
  (try simp only [Exit.inBlock, Exit.then]); refine bodyPost_ret (results_cell_row rfl _ _ _ _ _ _ _ rfl (form_back4 _ _ rfl).1 Try.underlying61 rfl (by kernel_rfl)) rfl ?_
  exact ⟨rfl, (form_back4 _ _ rfl).2⟩

set_option maxRecDepth 100000 in
set_option maxHeartbeats 6400000 in
theorem sform_2 (m : Int) (s : List UInt8) (A : Option Addr) (n c : Nat) (A1 : Option Addr) (n1 c1 : Nat) (A2 : Option Addr) (n2 c2 : Nat) (lm : Int) (ls : List UInt8) (w : World) : Calls Try.prog 81 #[.agg #[.int .i64 2, .int .i64 m, .string (bs s), .slice A n c, .slice A1 n1 c1, .slice A2 n2 c2], .agg #[.int .i64 lm, .string (bs ls)]] w fun f w' => f = .returned (FV.val ⟨2, 0, lm, ls, 1, 0, 0⟩) ∧ Below w.heap.size w w' := by
  go_enter Try.func81, Try.ntmps81
  go_wp2_with (refine (tnearest_any _ _ _ _).mono ?_; rintro f w2 ⟨rfl, rfl⟩)
  (try simp only [Exit.inBlock, Exit.then]); refine bodyPost_ret (results_cell_row rfl _ _ _ _ _ _ _ rfl (form_back4 _ _ rfl).1 Try.underlying61 rfl (by kernel_rfl)) rfl ?_
  exact ⟨rfl, (form_back4 _ _ rfl).2⟩

set_option maxRecDepth 100000 in
set_option maxHeartbeats 6400000 in
theorem sform_3 (m : Int) (s : List UInt8) (A : Option Addr) (n c : Nat) (A1 : Option Addr) (n1 c1 : Nat) (A2 : Option Addr) (n2 c2 : Nat) (lm : Int) (ls : List UInt8) (w : World) : Calls Try.prog 81 #[.agg #[.int .i64 3, .int .i64 m, .string (bs s), .slice A n c, .slice A1 n1 c1, .slice A2 n2 c2], .agg #[.int .i64 lm, .string (bs ls)]] w fun f w' => f = .returned (FV.val ⟨3, 0, lm, ls, 1, 0, 0⟩) ∧ Below w.heap.size w w' := by
  go_enter Try.func81, Try.ntmps81
  go_wp2_with (refine (tnearest_any _ _ _ _).mono ?_; rintro f w2 ⟨rfl, rfl⟩)
  (try simp only [Exit.inBlock, Exit.then]); refine bodyPost_ret (results_cell_row rfl _ _ _ _ _ _ _ rfl (form_back4 _ _ rfl).1 Try.underlying61 rfl (by kernel_rfl)) rfl ?_
  exact ⟨rfl, (form_back4 _ _ rfl).2⟩

set_option maxRecDepth 100000 in
set_option maxHeartbeats 6400000 in
theorem sform_4 (m : Int) (s : List UInt8) (A : Option Addr) (n c : Nat) (A1 : Option Addr) (n1 c1 : Nat) (A2 : Option Addr) (n2 c2 : Nat) (lm : Int) (ls : List UInt8) (w : World) : Calls Try.prog 81 #[.agg #[.int .i64 4, .int .i64 m, .string (bs s), .slice A n c, .slice A1 n1 c1, .slice A2 n2 c2], .agg #[.int .i64 lm, .string (bs ls)]] w fun f w' => f = .returned (FV.val ⟨4, 0, lm, ls, 2, 0, 0⟩) ∧ Below w.heap.size w w' := by
  go_enter Try.func81, Try.ntmps81
  go_wp2_with (refine (tnearest_any _ _ _ _).mono ?_; rintro f w2 ⟨rfl, rfl⟩)
  (try simp only [Exit.inBlock, Exit.then]); refine bodyPost_ret (results_cell_row rfl _ _ _ _ _ _ _ rfl (form_back4 _ _ rfl).1 Try.underlying61 rfl (by kernel_rfl)) rfl ?_
  exact ⟨rfl, (form_back4 _ _ rfl).2⟩

set_option maxRecDepth 100000 in
set_option maxHeartbeats 6400000 in
theorem sform_5 (m : Int) (s : List UInt8) (A : Option Addr) (n c : Nat) (A1 : Option Addr) (n1 c1 : Nat) (A2 : Option Addr) (n2 c2 : Nat) (lm : Int) (ls : List UInt8) (w : World) : Calls Try.prog 81 #[.agg #[.int .i64 5, .int .i64 m, .string (bs s), .slice A n c, .slice A1 n1 c1, .slice A2 n2 c2], .agg #[.int .i64 lm, .string (bs ls)]] w fun f w' => f = .returned (FV.val ⟨5, 0, lm, ls, 1, 0, 0⟩) ∧ Below w.heap.size w w' := by
  go_enter Try.func81, Try.ntmps81
  go_wp2_with (refine (tnearest_any _ _ _ _).mono ?_; rintro f w2 ⟨rfl, rfl⟩)
  (try simp only [Exit.inBlock, Exit.then]); refine bodyPost_ret (results_cell_row rfl _ _ _ _ _ _ _ rfl (form_back4 _ _ rfl).1 Try.underlying61 rfl (by kernel_rfl)) rfl ?_
  exact ⟨rfl, (form_back4 _ _ rfl).2⟩

set_option maxRecDepth 100000 in
set_option maxHeartbeats 6400000 in
theorem sform_6 (m : Int) (s : List UInt8) (A : Option Addr) (n c : Nat) (A1 : Option Addr) (n1 c1 : Nat) (A2 : Option Addr) (n2 c2 : Nat) (lm : Int) (ls : List UInt8) (w : World) : Calls Try.prog 81 #[.agg #[.int .i64 6, .int .i64 m, .string (bs s), .slice A n c, .slice A1 n1 c1, .slice A2 n2 c2], .agg #[.int .i64 lm, .string (bs ls)]] w fun f w' => f = .returned (FV.val ⟨6, 0, lm, ls, 1, 0, 0⟩) ∧ Below w.heap.size w w' := by
  go_enter Try.func81, Try.ntmps81
  go_wp2_with (refine (tnearest_any _ _ _ _).mono ?_; rintro f w2 ⟨rfl, rfl⟩)
  (try simp only [Exit.inBlock, Exit.then]); refine bodyPost_ret (results_cell_row rfl _ _ _ _ _ _ _ rfl (form_back4 _ _ rfl).1 Try.underlying61 rfl (by kernel_rfl)) rfl ?_
  exact ⟨rfl, (form_back4 _ _ rfl).2⟩

set_option maxRecDepth 100000 in
set_option maxHeartbeats 6400000 in
theorem sform_7 (m : Int) (s : List UInt8) (A : Option Addr) (n c : Nat) (A1 : Option Addr) (n1 c1 : Nat) (A2 : Option Addr) (n2 c2 : Nat) (lm : Int) (ls : List UInt8) (w : World) : Calls Try.prog 81 #[.agg #[.int .i64 7, .int .i64 m, .string (bs s), .slice A n c, .slice A1 n1 c1, .slice A2 n2 c2], .agg #[.int .i64 lm, .string (bs ls)]] w fun f w' => f = .returned (FV.val ⟨7, 0, 0, [], 2, 0, 0⟩) ∧ Below w.heap.size w w' := by
  go_enter Try.func81, Try.ntmps81
  go_wp2_with (refine (tnearest_any _ _ _ _).mono ?_; rintro f w2 ⟨rfl, rfl⟩)
  (try simp only [Exit.inBlock, Exit.then]); refine bodyPost_ret (results_cell_row rfl _ _ _ _ _ _ _ rfl (form_back4 _ _ rfl).1 Try.underlying61 rfl (by kernel_rfl)) rfl ?_
  exact ⟨rfl, (form_back4 _ _ rfl).2⟩

set_option maxRecDepth 100000 in
set_option maxHeartbeats 6400000 in
theorem sform_8 (m : Int) (s : List UInt8) (A : Option Addr) (n c : Nat) (A1 : Option Addr) (n1 c1 : Nat) (A2 : Option Addr) (n2 c2 : Nat) (lm : Int) (ls : List UInt8) (w : World) : Calls Try.prog 81 #[.agg #[.int .i64 8, .int .i64 m, .string (bs s), .slice A n c, .slice A1 n1 c1, .slice A2 n2 c2], .agg #[.int .i64 lm, .string (bs ls)]] w fun f w' => f = .returned (FV.val ⟨8, 0, 0, [], 1, 0, 0⟩) ∧ Below w.heap.size w w' := by
  go_enter Try.func81, Try.ntmps81
  go_wp2_with (refine (tnearest_any _ _ _ _).mono ?_; rintro f w2 ⟨rfl, rfl⟩)
  (try simp only [Exit.inBlock, Exit.then]); refine bodyPost_ret (results_cell_row rfl _ _ _ _ _ _ _ rfl (form_back4 _ _ rfl).1 Try.underlying61 rfl (by kernel_rfl)) rfl ?_
  exact ⟨rfl, (form_back4 _ _ rfl).2⟩

set_option maxRecDepth 100000 in
set_option maxHeartbeats 6400000 in
theorem sform_9 (m : Int) (s : List UInt8) (A : Option Addr) (n c : Nat) (A1 : Option Addr) (n1 c1 : Nat) (A2 : Option Addr) (n2 c2 : Nat) (lm : Int) (ls : List UInt8) (w : World) : Calls Try.prog 81 #[.agg #[.int .i64 9, .int .i64 m, .string (bs s), .slice A n c, .slice A1 n1 c1, .slice A2 n2 c2], .agg #[.int .i64 lm, .string (bs ls)]] w fun f w' => f = .returned (FV.val ⟨9, 0, 0, [], 1, n1, n2⟩) ∧ Below w.heap.size w w' := by
  go_enter Try.func81, Try.ntmps81
  go_wp2_with fail
  go_region
  all_goals
    go_wp2_with fail
    (try simp only [Exit.inBlock, Exit.then]); refine bodyPost_ret (results_cell_row rfl _ _ _ _ _ _ _ rfl (form_back4 _ _ rfl).1 Try.underlying61 rfl (by kernel_rfl)) rfl ?_
    exact ⟨rfl, (form_back4 _ _ rfl).2.drew⟩

set_option maxRecDepth 100000 in
set_option maxHeartbeats 6400000 in
theorem sform_10 (m : Int) (s : List UInt8) (A : Option Addr) (n c : Nat) (A1 : Option Addr) (n1 c1 : Nat) (A2 : Option Addr) (n2 c2 : Nat) (lm : Int) (ls : List UInt8) (w : World) : Calls Try.prog 81 #[.agg #[.int .i64 10, .int .i64 m, .string (bs s), .slice A n c, .slice A1 n1 c1, .slice A2 n2 c2], .agg #[.int .i64 lm, .string (bs ls)]] w fun f w' => f = .returned (FV.val ⟨10, 0, 0, [], 1, n1, 0⟩) ∧ Below w.heap.size w w' := by
  go_enter Try.func81, Try.ntmps81
  go_wp2_with fail
  go_region
  all_goals
    go_wp2_with fail
    (try simp only [Exit.inBlock, Exit.then]); refine bodyPost_ret (results_cell_row rfl _ _ _ _ _ _ _ rfl (form_back4 _ _ rfl).1 Try.underlying61 rfl (by kernel_rfl)) rfl ?_
    exact ⟨rfl, (form_back4 _ _ rfl).2.drew⟩

set_option maxRecDepth 100000 in
set_option maxHeartbeats 6400000 in
theorem sform_11 (m : Int) (s : List UInt8) (A : Option Addr) (n c : Nat) (A1 : Option Addr) (n1 c1 : Nat) (A2 : Option Addr) (n2 c2 : Nat) (lm : Int) (ls : List UInt8) (w : World) : Calls Try.prog 81 #[.agg #[.int .i64 11, .int .i64 m, .string (bs s), .slice A n c, .slice A1 n1 c1, .slice A2 n2 c2], .agg #[.int .i64 lm, .string (bs ls)]] w fun f w' => f = .returned (FV.val ⟨11, 0, lm, ls, 1, n1, 0⟩) ∧ Below w.heap.size w w' := by
  go_enter Try.func81, Try.ntmps81
  go_wp2_with fail
  go_region
  all_goals
    go_wp2_with fail
    (try simp only [Exit.inBlock, Exit.then]); refine bodyPost_ret (results_cell_row rfl _ _ _ _ _ _ _ rfl (form_back4 _ _ rfl).1 Try.underlying61 rfl (by kernel_rfl)) rfl ?_
    exact ⟨rfl, (form_back4 _ _ rfl).2.drew⟩

set_option maxRecDepth 100000 in
set_option maxHeartbeats 6400000 in
theorem sform_12 (m : Int) (s : List UInt8) (A : Option Addr) (n c : Nat) (A1 : Option Addr) (n1 c1 : Nat) (A2 : Option Addr) (n2 c2 : Nat) (lm : Int) (ls : List UInt8) (w : World) : Calls Try.prog 81 #[.agg #[.int .i64 12, .int .i64 m, .string (bs s), .slice A n c, .slice A1 n1 c1, .slice A2 n2 c2], .agg #[.int .i64 lm, .string (bs ls)]] w fun f w' => f = .returned (FV.val ⟨12, 0, 0, [], 1, 0, 0⟩) ∧ Below w.heap.size w w' := by
  go_enter Try.func81, Try.ntmps81
  go_wp2_with (refine (tnearest_any _ _ _ _).mono ?_; rintro f w2 ⟨rfl, rfl⟩)
  (try simp only [Exit.inBlock, Exit.then]); refine bodyPost_ret (results_cell_row rfl _ _ _ _ _ _ _ rfl (form_back4 _ _ rfl).1 Try.underlying61 rfl (by kernel_rfl)) rfl ?_
  exact ⟨rfl, (form_back4 _ _ rfl).2⟩

set_option maxRecDepth 100000 in
set_option maxHeartbeats 6400000 in
theorem sform_13 (m : Int) (s : List UInt8) (A : Option Addr) (n c : Nat) (A1 : Option Addr) (n1 c1 : Nat) (A2 : Option Addr) (n2 c2 : Nat) (lm : Int) (ls : List UInt8) (w : World) : Calls Try.prog 81 #[.agg #[.int .i64 13, .int .i64 m, .string (bs s), .slice A n c, .slice A1 n1 c1, .slice A2 n2 c2], .agg #[.int .i64 lm, .string (bs ls)]] w fun f w' => f = .returned (FV.val ⟨13, 0, 0, [], 0, 0, 0⟩) ∧ Below w.heap.size w w' := by
  go_enter Try.func81, Try.ntmps81
  go_wp2_with (refine (tnearest_any _ _ _ _).mono ?_; rintro f w2 ⟨rfl, rfl⟩)
  (try simp only [Exit.inBlock, Exit.then]); refine bodyPost_ret (results_cell_row rfl _ _ _ _ _ _ _ rfl (form_back4 _ _ rfl).1 Try.underlying61 rfl (by kernel_rfl)) rfl ?_
  exact ⟨rfl, (form_back4 _ _ rfl).2⟩

set_option maxRecDepth 100000 in
set_option maxHeartbeats 6400000 in
theorem sform_14 (m : Int) (s : List UInt8) (A : Option Addr) (n c : Nat) (A1 : Option Addr) (n1 c1 : Nat) (A2 : Option Addr) (n2 c2 : Nat) (lm : Int) (ls : List UInt8) (w : World) : Calls Try.prog 81 #[.agg #[.int .i64 14, .int .i64 m, .string (bs s), .slice A n c, .slice A1 n1 c1, .slice A2 n2 c2], .agg #[.int .i64 lm, .string (bs ls)]] w fun f w' => f = .returned (FV.val ⟨14, 0, 0, [], 0, 0, 0⟩) ∧ Below w.heap.size w w' := by
  go_enter Try.func81, Try.ntmps81
  go_wp2_with (refine (tnearest_any _ _ _ _).mono ?_; rintro f w2 ⟨rfl, rfl⟩)
  (try simp only [Exit.inBlock, Exit.then]); refine bodyPost_ret (results_cell_row rfl _ _ _ _ _ _ _ rfl (form_back4 _ _ rfl).1 Try.underlying61 rfl (by kernel_rfl)) rfl ?_
  exact ⟨rfl, (form_back4 _ _ rfl).2⟩

set_option maxRecDepth 100000 in
set_option maxHeartbeats 6400000 in
theorem sform_15 (m : Int) (s : List UInt8) (A : Option Addr) (n c : Nat) (A1 : Option Addr) (n1 c1 : Nat) (A2 : Option Addr) (n2 c2 : Nat) (lm : Int) (ls : List UInt8) (w : World) : Calls Try.prog 81 #[.agg #[.int .i64 15, .int .i64 m, .string (bs s), .slice A n c, .slice A1 n1 c1, .slice A2 n2 c2], .agg #[.int .i64 lm, .string (bs ls)]] w fun f w' => f = .returned (FV.val ⟨15, 0, 0, [], 0, 0, 0⟩) ∧ Below w.heap.size w w' := by
  go_enter Try.func81, Try.ntmps81
  go_wp2_with (refine (tnearest_any _ _ _ _).mono ?_; rintro f w2 ⟨rfl, rfl⟩)
  (try simp only [Exit.inBlock, Exit.then]); refine bodyPost_ret (results_cell_row rfl _ _ _ _ _ _ _ rfl (form_back4 _ _ rfl).1 Try.underlying61 rfl (by kernel_rfl)) rfl ?_
  exact ⟨rfl, (form_back4 _ _ rfl).2⟩

set_option maxRecDepth 100000 in
set_option maxHeartbeats 6400000 in
theorem sform_16 (m : Int) (s : List UInt8) (A : Option Addr) (n c : Nat) (A1 : Option Addr) (n1 c1 : Nat) (A2 : Option Addr) (n2 c2 : Nat) (lm : Int) (ls : List UInt8) (w : World) : Calls Try.prog 81 #[.agg #[.int .i64 16, .int .i64 m, .string (bs s), .slice A n c, .slice A1 n1 c1, .slice A2 n2 c2], .agg #[.int .i64 lm, .string (bs ls)]] w fun f w' => f = .returned (FV.val ⟨16, 0, 0, [], 1, 0, 0⟩) ∧ Below w.heap.size w w' := by
  go_enter Try.func81, Try.ntmps81
  go_wp2_with (refine (tnearest_any _ _ _ _).mono ?_; rintro f w2 ⟨rfl, rfl⟩)
  (try simp only [Exit.inBlock, Exit.then]); refine bodyPost_ret (results_cell_row rfl _ _ _ _ _ _ _ rfl (form_back4 _ _ rfl).1 Try.underlying61 rfl (by kernel_rfl)) rfl ?_
  exact ⟨rfl, (form_back4 _ _ rfl).2⟩

set_option maxRecDepth 100000 in
set_option maxHeartbeats 6400000 in
theorem sform_17 (m : Int) (s : List UInt8) (A : Option Addr) (n c : Nat) (A1 : Option Addr) (n1 c1 : Nat) (A2 : Option Addr) (n2 c2 : Nat) (lm : Int) (ls : List UInt8) (w : World) : Calls Try.prog 81 #[.agg #[.int .i64 17, .int .i64 m, .string (bs s), .slice A n c, .slice A1 n1 c1, .slice A2 n2 c2], .agg #[.int .i64 lm, .string (bs ls)]] w fun f w' => f = .returned (FV.val ⟨17, 0, lm, ls, 1, 0, 0⟩) ∧ Below w.heap.size w w' := by
  go_enter Try.func81, Try.ntmps81
  go_wp2_with (refine (tnearest_any _ _ _ _).mono ?_; rintro f w2 ⟨rfl, rfl⟩)
  (try simp only [Exit.inBlock, Exit.then]); refine bodyPost_ret (results_cell_row rfl _ _ _ _ _ _ _ rfl (form_back4 _ _ rfl).1 Try.underlying61 rfl (by kernel_rfl)) rfl ?_
  exact ⟨rfl, (form_back4 _ _ rfl).2⟩

set_option maxRecDepth 100000 in
set_option maxHeartbeats 6400000 in
theorem sform_18 (m : Int) (s : List UInt8) (A : Option Addr) (n c : Nat) (A1 : Option Addr) (n1 c1 : Nat) (A2 : Option Addr) (n2 c2 : Nat) (lm : Int) (ls : List UInt8) (w : World) : Calls Try.prog 81 #[.agg #[.int .i64 18, .int .i64 m, .string (bs s), .slice A n c, .slice A1 n1 c1, .slice A2 n2 c2], .agg #[.int .i64 lm, .string (bs ls)]] w fun f w' => f = .returned (FV.val ⟨18, 0, lm, ls, 0, 0, 0⟩) ∧ Below w.heap.size w w' := by
  go_enter Try.func81, Try.ntmps81
  go_wp2_with (refine (tnearest_any _ _ _ _).mono ?_; rintro f w2 ⟨rfl, rfl⟩)
  (try simp only [Exit.inBlock, Exit.then]); refine bodyPost_ret (results_cell_row rfl _ _ _ _ _ _ _ rfl (form_back4 _ _ rfl).1 Try.underlying61 rfl (by kernel_rfl)) rfl ?_
  exact ⟨rfl, (form_back4 _ _ rfl).2⟩

set_option maxRecDepth 100000 in
set_option maxHeartbeats 6400000 in
theorem sform_19 (m : Int) (s : List UInt8) (A : Option Addr) (n c : Nat) (A1 : Option Addr) (n1 c1 : Nat) (A2 : Option Addr) (n2 c2 : Nat) (lm : Int) (ls : List UInt8) (w : World) : Calls Try.prog 81 #[.agg #[.int .i64 19, .int .i64 m, .string (bs s), .slice A n c, .slice A1 n1 c1, .slice A2 n2 c2], .agg #[.int .i64 lm, .string (bs ls)]] w fun f w' => f = .returned (FV.val ⟨19, 0, 0, [], 1, 0, 0⟩) ∧ Below w.heap.size w w' := by
  go_enter Try.func81, Try.ntmps81
  go_wp2_with (refine (tnearest_any _ _ _ _).mono ?_; rintro f w2 ⟨rfl, rfl⟩)
  (try simp only [Exit.inBlock, Exit.then]); refine bodyPost_ret (results_cell_row rfl _ _ _ _ _ _ _ rfl (form_back4 _ _ rfl).1 Try.underlying61 rfl (by kernel_rfl)) rfl ?_
  exact ⟨rfl, (form_back4 _ _ rfl).2⟩

set_option maxRecDepth 100000 in
set_option maxHeartbeats 6400000 in
theorem sform_20 (m : Int) (s : List UInt8) (A : Option Addr) (n c : Nat) (A1 : Option Addr) (n1 c1 : Nat) (A2 : Option Addr) (n2 c2 : Nat) (lm : Int) (ls : List UInt8) (w : World) : Calls Try.prog 81 #[.agg #[.int .i64 20, .int .i64 m, .string (bs s), .slice A n c, .slice A1 n1 c1, .slice A2 n2 c2], .agg #[.int .i64 lm, .string (bs ls)]] w fun f w' => f = .returned (FV.val ⟨20, 0, 0, [], 1, 0, 0⟩) ∧ Below w.heap.size w w' := by
  go_enter Try.func81, Try.ntmps81
  go_wp2_with (refine (tnearest_any _ _ _ _).mono ?_; rintro f w2 ⟨rfl, rfl⟩)
  (try simp only [Exit.inBlock, Exit.then]); refine bodyPost_ret (results_cell_row rfl _ _ _ _ _ _ _ rfl (form_back4 _ _ rfl).1 Try.underlying61 rfl (by kernel_rfl)) rfl ?_
  exact ⟨rfl, (form_back4 _ _ rfl).2⟩

set_option maxRecDepth 100000 in
set_option maxHeartbeats 6400000 in
theorem sform_21 (m : Int) (s : List UInt8) (A : Option Addr) (n c : Nat) (A1 : Option Addr) (n1 c1 : Nat) (A2 : Option Addr) (n2 c2 : Nat) (lm : Int) (ls : List UInt8) (w : World) : Calls Try.prog 81 #[.agg #[.int .i64 21, .int .i64 m, .string (bs s), .slice A n c, .slice A1 n1 c1, .slice A2 n2 c2], .agg #[.int .i64 lm, .string (bs ls)]] w fun f w' => f = .returned (FV.val ⟨21, 0, 0, [], 0, 0, 0⟩) ∧ Below w.heap.size w w' := by
  go_enter Try.func81, Try.ntmps81
  go_wp2_with (refine (tnearest_any _ _ _ _).mono ?_; rintro f w2 ⟨rfl, rfl⟩)
  (try simp only [Exit.inBlock, Exit.then]); refine bodyPost_ret (results_cell_row rfl _ _ _ _ _ _ _ rfl (form_back4 _ _ rfl).1 Try.underlying61 rfl (by kernel_rfl)) rfl ?_
  exact ⟨rfl, (form_back4 _ _ rfl).2⟩

set_option maxRecDepth 100000 in
set_option maxHeartbeats 6400000 in
theorem sform_22 (m : Int) (s : List UInt8) (A : Option Addr) (n c : Nat) (A1 : Option Addr) (n1 c1 : Nat) (A2 : Option Addr) (n2 c2 : Nat) (lm : Int) (ls : List UInt8) (w : World) : Calls Try.prog 81 #[.agg #[.int .i64 22, .int .i64 m, .string (bs s), .slice A n c, .slice A1 n1 c1, .slice A2 n2 c2], .agg #[.int .i64 lm, .string (bs ls)]] w fun f w' => f = .returned (FV.val ⟨22, 0, 0, [], 1, 0, 0⟩) ∧ Below w.heap.size w w' := by
  go_enter Try.func81, Try.ntmps81
  go_wp2_with (refine (tnearest_any _ _ _ _).mono ?_; rintro f w2 ⟨rfl, rfl⟩)
  (try simp only [Exit.inBlock, Exit.then]); refine bodyPost_ret (results_cell_row rfl _ _ _ _ _ _ _ rfl (form_back4 _ _ rfl).1 Try.underlying61 rfl (by kernel_rfl)) rfl ?_
  exact ⟨rfl, (form_back4 _ _ rfl).2⟩

set_option maxRecDepth 100000 in
set_option maxHeartbeats 6400000 in
theorem sform_23 (m : Int) (s : List UInt8) (A : Option Addr) (n c : Nat) (A1 : Option Addr) (n1 c1 : Nat) (A2 : Option Addr) (n2 c2 : Nat) (lm : Int) (ls : List UInt8) (w : World) : Calls Try.prog 81 #[.agg #[.int .i64 23, .int .i64 m, .string (bs s), .slice A n c, .slice A1 n1 c1, .slice A2 n2 c2], .agg #[.int .i64 lm, .string (bs ls)]] w fun f w' => f = .returned (FV.val ⟨23, 0, lm, ls, 1, 0, 0⟩) ∧ Below w.heap.size w w' := by
  go_enter Try.func81, Try.ntmps81
  go_wp2_with (refine (tnearest_any _ _ _ _).mono ?_; rintro f w2 ⟨rfl, rfl⟩)
  (try simp only [Exit.inBlock, Exit.then]); refine bodyPost_ret (results_cell_row rfl _ _ _ _ _ _ _ rfl (form_back4 _ _ rfl).1 Try.underlying61 rfl (by kernel_rfl)) rfl ?_
  exact ⟨rfl, (form_back4 _ _ rfl).2⟩

set_option maxRecDepth 100000 in
set_option maxHeartbeats 6400000 in
theorem sform_0 (k : Int) (h1 : k ≠ 1) (h2 : k ≠ 2) (h3 : k ≠ 3) (h4 : k ≠ 4) (h5 : k ≠ 5) (h6 : k ≠ 6) (h7 : k ≠ 7) (h8 : k ≠ 8) (h9 : k ≠ 9) (h10 : k ≠ 10) (h11 : k ≠ 11) (h12 : k ≠ 12) (h13 : k ≠ 13) (h14 : k ≠ 14) (h15 : k ≠ 15) (h16 : k ≠ 16) (h17 : k ≠ 17) (h18 : k ≠ 18) (h19 : k ≠ 19) (h20 : k ≠ 20) (h21 : k ≠ 21) (h22 : k ≠ 22) (h23 : k ≠ 23) (m : Int) (s : List UInt8) (A : Option Addr) (n c : Nat) (A1 : Option Addr) (n1 c1 : Nat) (A2 : Option Addr) (n2 c2 : Nat) (lm : Int) (ls : List UInt8) (w : World) : Calls Try.prog 81 #[.agg #[.int .i64 k, .int .i64 m, .string (bs s), .slice A n c, .slice A1 n1 c1, .slice A2 n2 c2], .agg #[.int .i64 lm, .string (bs ls)]] w fun f w' => f = .returned (FV.val ⟨k, 0, 0, [], 0, 0, 0⟩) ∧ Below w.heap.size w w' := by
  have t1 : (k == 1) = false := by rw [beq_eq_false_iff_ne]; exact h1
  have t2 : (k == 2) = false := by rw [beq_eq_false_iff_ne]; exact h2
  have t3 : (k == 3) = false := by rw [beq_eq_false_iff_ne]; exact h3
  have t4 : (k == 4) = false := by rw [beq_eq_false_iff_ne]; exact h4
  have t5 : (k == 5) = false := by rw [beq_eq_false_iff_ne]; exact h5
  have t6 : (k == 6) = false := by rw [beq_eq_false_iff_ne]; exact h6
  have t7 : (k == 7) = false := by rw [beq_eq_false_iff_ne]; exact h7
  have t8 : (k == 8) = false := by rw [beq_eq_false_iff_ne]; exact h8
  have t9 : (k == 9) = false := by rw [beq_eq_false_iff_ne]; exact h9
  have t10 : (k == 10) = false := by rw [beq_eq_false_iff_ne]; exact h10
  have t11 : (k == 11) = false := by rw [beq_eq_false_iff_ne]; exact h11
  have t12 : (k == 12) = false := by rw [beq_eq_false_iff_ne]; exact h12
  have t13 : (k == 13) = false := by rw [beq_eq_false_iff_ne]; exact h13
  have t14 : (k == 14) = false := by rw [beq_eq_false_iff_ne]; exact h14
  have t15 : (k == 15) = false := by rw [beq_eq_false_iff_ne]; exact h15
  have t16 : (k == 16) = false := by rw [beq_eq_false_iff_ne]; exact h16
  have t17 : (k == 17) = false := by rw [beq_eq_false_iff_ne]; exact h17
  have t18 : (k == 18) = false := by rw [beq_eq_false_iff_ne]; exact h18
  have t19 : (k == 19) = false := by rw [beq_eq_false_iff_ne]; exact h19
  have t20 : (k == 20) = false := by rw [beq_eq_false_iff_ne]; exact h20
  have t21 : (k == 21) = false := by rw [beq_eq_false_iff_ne]; exact h21
  have t22 : (k == 22) = false := by rw [beq_eq_false_iff_ne]; exact h22
  have t23 : (k == 23) = false := by rw [beq_eq_false_iff_ne]; exact h23
  clear h1 h2 h3 h4 h5 h6 h7 h8 h9 h10 h11 h12 h13 h14 h15 h16 h17 h18 h19 h20 h21 h22 h23
  go_enter Try.func81, Try.ntmps81
  go_wp2_with (refine (tnearest_any _ _ _ _).mono ?_; rintro f w2 ⟨rfl, rfl⟩)
  (try simp only [Exit.inBlock, Exit.then]); refine bodyPost_ret (results_cell_row rfl _ _ _ _ _ _ _ rfl (form_back4 _ _ rfl).1 Try.underlying61 rfl (by kernel_rfl)) rfl ?_
  exact ⟨rfl, (form_back4 _ _ rfl).2⟩

theorem tstmtForm_any (e : SL) (lm : Int) (ls : List UInt8) (w : World) : Calls Try.prog 81 #[sVal e, lbV lm ls] w fun f w' => f = .returned (e.form lm ls).val ∧ Below w.heap.size w w' := by
  obtain ⟨k, m, s, A, n, c, es, A1, n1, c1, bo, A2, n2, c2, el⟩ := e
  by_cases h1 : k = 1
  · subst h1
    exact sform_1 m s A n c A1 n1 c1 A2 n2 c2 lm ls w
  by_cases h2 : k = 2
  · subst h2
    exact sform_2 m s A n c A1 n1 c1 A2 n2 c2 lm ls w
  by_cases h3 : k = 3
  · subst h3
    exact sform_3 m s A n c A1 n1 c1 A2 n2 c2 lm ls w
  by_cases h4 : k = 4
  · subst h4
    exact sform_4 m s A n c A1 n1 c1 A2 n2 c2 lm ls w
  by_cases h5 : k = 5
  · subst h5
    exact sform_5 m s A n c A1 n1 c1 A2 n2 c2 lm ls w
  by_cases h6 : k = 6
  · subst h6
    exact sform_6 m s A n c A1 n1 c1 A2 n2 c2 lm ls w
  by_cases h7 : k = 7
  · subst h7
    exact sform_7 m s A n c A1 n1 c1 A2 n2 c2 lm ls w
  by_cases h8 : k = 8
  · subst h8
    exact sform_8 m s A n c A1 n1 c1 A2 n2 c2 lm ls w
  by_cases h9 : k = 9
  · subst h9
    exact sform_9 m s A n c A1 n1 c1 A2 n2 c2 lm ls w
  by_cases h10 : k = 10
  · subst h10
    exact sform_10 m s A n c A1 n1 c1 A2 n2 c2 lm ls w
  by_cases h11 : k = 11
  · subst h11
    exact sform_11 m s A n c A1 n1 c1 A2 n2 c2 lm ls w
  by_cases h12 : k = 12
  · subst h12
    exact sform_12 m s A n c A1 n1 c1 A2 n2 c2 lm ls w
  by_cases h13 : k = 13
  · subst h13
    exact sform_13 m s A n c A1 n1 c1 A2 n2 c2 lm ls w
  by_cases h14 : k = 14
  · subst h14
    exact sform_14 m s A n c A1 n1 c1 A2 n2 c2 lm ls w
  by_cases h15 : k = 15
  · subst h15
    exact sform_15 m s A n c A1 n1 c1 A2 n2 c2 lm ls w
  by_cases h16 : k = 16
  · subst h16
    exact sform_16 m s A n c A1 n1 c1 A2 n2 c2 lm ls w
  by_cases h17 : k = 17
  · subst h17
    exact sform_17 m s A n c A1 n1 c1 A2 n2 c2 lm ls w
  by_cases h18 : k = 18
  · subst h18
    exact sform_18 m s A n c A1 n1 c1 A2 n2 c2 lm ls w
  by_cases h19 : k = 19
  · subst h19
    exact sform_19 m s A n c A1 n1 c1 A2 n2 c2 lm ls w
  by_cases h20 : k = 20
  · subst h20
    exact sform_20 m s A n c A1 n1 c1 A2 n2 c2 lm ls w
  by_cases h21 : k = 21
  · subst h21
    exact sform_21 m s A n c A1 n1 c1 A2 n2 c2 lm ls w
  by_cases h22 : k = 22
  · subst h22
    exact sform_22 m s A n c A1 n1 c1 A2 n2 c2 lm ls w
  by_cases h23 : k = 23
  · subst h23
    exact sform_23 m s A n c A1 n1 c1 A2 n2 c2 lm ls w
  have e : (SL.mk k m s A n c es A1 n1 c1 bo A2 n2 c2 el).form lm ls = ⟨k, 0, 0, [], 0, 0, 0⟩ := by
    unfold SL.form
    simp only [SL.kind, h1, h2, h3, h4, h5, h6, h7, h8, h9, h10, h11, h12, h16, h17, h18, h19, h20, h22, h23, or_self, if_false]
  rw [e]
  exact sform_0 k h1 h2 h3 h4 h5 h6 h7 h8 h9 h10 h11 h12 h13 h14 h15 h16 h17 h18 h19 h20 h21 h22 h23 m s A n c A1 n1 c1 A2 n2 c2 lm ls w

end Go.Proofs.Ytdmpadonnobeaaa
