/- Contracts of the program's isIndex, Is, isName, isSourceExpr, isSourceStmt. -/
import Derived.Test.YtdmpadonnobeaaaTreX
import Derived.Test.YtdmpadonnobeaaaTreP
import Derived.Test.YtdmpadonnobeaaaTells
import Derived.Test.YtdmpadonnobeaaaLexL
import Derived.Test.YtdmpadonnobeaaaTreH
import Derived.Deep.QuietTactic
import Derived.BigQuiet
namespace Go.Proofs.Ytdmpadonnobeaaa
open Go.RowKit
set_option linter.unusedVariables false

/-- an index of a list of that length? -/
def idxB (n len : Int) : Bool := decide (0 ≤ n) && decide (n < len)

set_option maxRecDepth 100000 in
theorem tisIndex_any (w : World) (n len : Int) : Calls Try.prog 85 #[.int .i64 n, .int .i64 len] w fun f w' => f = .returned (.bool (idxB n len)) ∧ w = w' := by
  by_cases a : 0 ≤ n
  · by_cases b : n < len
    · go_enter Try.func85, Try.ntmps85
      go_wp2_with fail
      go_ret
      exact ⟨by unfold idxB; simp [a, b], rfl⟩
    · have b1 : decide (n < len) = false := by simpa using b
      go_enter Try.func85, Try.ntmps85
      go_wp2_with fail
      go_ret
      exact ⟨by unfold idxB; simp [b], rfl⟩
  · have a1 : decide (0 ≤ n) = false := by simpa using a
    go_enter Try.func85, Try.ntmps85
    go_wp2_with fail
    go_ret
    exact ⟨by unfold idxB; rw [a1, Bool.false_and]; rfl, rfl⟩

set_option maxRecDepth 100000 in
theorem tIs_any (w : World) (n : Int) : Calls Try.prog 84 #[.int .i64 n] w fun f w' => f = .returned (.bool (amongB n (-32768) 32767)) ∧ w = w' := by
  by_cases a : -32768 ≤ n
  · by_cases b : n ≤ 32767
    · go_enter Try.func84, Try.ntmps84
      go_wp2_with fail
      go_ret
      exact ⟨by unfold amongB; simp [a, b], rfl⟩
    · have b1 : decide (n ≤ 32767) = false := by simpa using b
      go_enter Try.func84, Try.ntmps84
      go_wp2_with fail
      go_ret
      exact ⟨by unfold amongB; simp [b], rfl⟩
  · have a1 : decide (-32768 ≤ n) = false := by simpa using a
    go_enter Try.func84, Try.ntmps84
    go_wp2_with fail
    go_ret
    exact ⟨by unfold amongB; rw [a1, Bool.false_and]; rfl, rfl⟩

set_option maxRecDepth 100000 in
set_option maxHeartbeats 1600000 in
theorem tisName_any (w : World) (s : List UInt8) (hs : (s.length : Int) ≤ 9223372036854775807) : Calls Try.prog 74 #[.string (bs s)] w fun f w' => f = .returned (.bool (nmB s)) ∧ Below w.heap.size w w' := by
  have hl : (bs s).data.toList = s := by simp [bs]
  have hz : ((bs s).size : Int) ≤ 9223372036854775807 := by
    have : (bs s).size = s.length := by rw [← hl, Array.length_toList]; rfl
    omega
  have e1 := isName_any w (bs s) hz
  have e2 : ∀ W : World, Calls Try.prog 92 #[.string (bs s)] W fun e w' => e = .returned (.bool (keyB s)) ∧ Below W.heap.size W w' := fun W => by
    have := Key_any W (bs s)
    rw [hl] at this
    exact this
  rw [hl] at e1
  have E1 := Lib.hid e1
  have E2 := Lib.hid e2
  obtain ⟨a, ha⟩ : ∃ a, a = nameB s := ⟨_, rfl⟩
  obtain ⟨b, hb⟩ : ∃ b, b = keyB s := ⟨_, rfl⟩
  have HA := Lib.hid ha
  have HB := Lib.hid hb
  have hr : nmB s = (a && !b) := by rw [ha, hb]; rfl
  rw [hr]
  clear e1 e2 hl hz hr ha hb
  cases a with
  | false =>
    go_enter Try.func74, Try.ntmps74
    go_wp2_with fail
    refine E1.out.mono ?_
    rintro f w1 ⟨rfl, hb1⟩
    rw [← HA.out]
    go_wp2_with fail
    go_ret
    exact ⟨rfl, hb1⟩
  | true =>
    go_enter Try.func74, Try.ntmps74
    go_wp2_with fail
    refine E1.out.mono ?_
    rintro f w1 ⟨rfl, hb1⟩
    rw [← HA.out]
    have HB1 := Lib.hid hb1
    clear hb1
    go_wp2_with fail
    refine (E2.out w1).mono ?_
    rintro f w2 ⟨rfl, hb2⟩
    rw [← HB.out]
    go_wp2_with fail
    go_ret
    exact ⟨by rw [Bool.true_and]; rfl, HB1.out.trans (hb2.mono HB1.out.size)⟩

/-- an expression of a source, as far as its kind and what it refers to go -/
def srcE (e : EL) : Bool :=
  if e.kind = 1 then amongB e.num 0 32767
  else if e.kind = 2 then textB e.name
  else if e.kind = 3 ∨ e.kind = 7 ∨ e.kind = 8 ∨ e.kind = 9 then nmB e.name
  else decide (e.kind = 4 ∨ e.kind = 5 ∨ e.kind = 6 ∨ e.kind = 10 ∨ e.kind = 11 ∨ e.kind = 12 ∨ e.kind = 13)
/-- a statement of a source, so far -/
def srcS (s : SL) : Bool :=
  if s.kind = 2 ∨ s.kind = 3 ∨ s.kind = 4 ∨ s.kind = 5 ∨ s.kind = 6 ∨ s.kind = 11 ∨ s.kind = 17 ∨ s.kind = 18 then nmB s.name
  else decide (s.kind = 1 ∨ s.kind = 7 ∨ s.kind = 8 ∨ s.kind = 9 ∨ s.kind = 10 ∨ s.kind = 12 ∨ s.kind = 13 ∨ s.kind = 14 ∨ s.kind = 15 ∨ s.kind = 16 ∨ s.kind = 19 ∨ s.kind = 20 ∨ s.kind = 21 ∨ s.kind = 22)

set_option maxRecDepth 100000 in
set_option maxHeartbeats 1600000 in
theorem srcE_1 (o m : Int) (s : List UInt8) (A : Option Addr) (n c : Nat) (w : World) : Calls Try.prog 50 #[.agg #[.int .i64 1, .int .i64 o, .int .i64 m, .string (bs s), .slice A n c]] w fun f w' => f = .returned (.bool (amongB m 0 32767)) ∧ Below w.heap.size w w' := by
  by_cases a : 0 ≤ m
  · have a2 : decide (0 ≤ m) = true := by simpa using a
    by_cases b : m ≤ 32767
    · go_enter Try.func50, Try.ntmps50
      go_wp2_with fail
      go_ret
      exact ⟨by unfold amongB; simp [a, b], (Below.refl _ _).alloc (Nat.le_refl _) _⟩
    · have b1 : decide (m ≤ 32767) = false := by simpa using b
      go_enter Try.func50, Try.ntmps50
      go_wp2_with fail
      go_ret
      exact ⟨by unfold amongB; simp [b], (Below.refl _ _).alloc (Nat.le_refl _) _⟩
  · have a1 : decide (0 ≤ m) = false := by simpa using a
    go_enter Try.func50, Try.ntmps50
    go_wp2_with fail
    go_ret
    exact ⟨by unfold amongB; rw [a1, Bool.false_and]; rfl, (Below.refl _ _).alloc (Nat.le_refl _) _⟩

set_option maxRecDepth 100000 in
set_option maxHeartbeats 1600000 in
theorem srcE_2 (o m : Int) (s : List UInt8) (A : Option Addr) (n c : Nat) (htx : Hid (∀ W : World, Calls Try.prog 73 #[.string (bs s)] W fun f w' => f = .returned (.bool (textB s)) ∧ Below W.heap.size W w')) (hnm : Hid (∀ W : World, Calls Try.prog 74 #[.string (bs s)] W fun f w' => f = .returned (.bool (nmB s)) ∧ Below W.heap.size W w')) (w : World) : Calls Try.prog 50 #[.agg #[.int .i64 2, .int .i64 o, .int .i64 m, .string (bs s), .slice A n c]] w fun f w' => f = .returned (.bool (textB s)) ∧ Below w.heap.size w w' := by
  go_enter Try.func50, Try.ntmps50
  go_wp2_with fail
  refine (htx.out _).mono ?_
  rintro f w2 ⟨rfl, hb2⟩
  go_wp2_with fail
  go_ret
  exact ⟨rfl, ((Below.refl _ _).alloc (Nat.le_refl _) _).trans (hb2.mono (by simp))⟩

set_option maxRecDepth 100000 in
set_option maxHeartbeats 1600000 in
theorem srcE_3 (o m : Int) (s : List UInt8) (A : Option Addr) (n c : Nat) (htx : Hid (∀ W : World, Calls Try.prog 73 #[.string (bs s)] W fun f w' => f = .returned (.bool (textB s)) ∧ Below W.heap.size W w')) (hnm : Hid (∀ W : World, Calls Try.prog 74 #[.string (bs s)] W fun f w' => f = .returned (.bool (nmB s)) ∧ Below W.heap.size W w')) (w : World) : Calls Try.prog 50 #[.agg #[.int .i64 3, .int .i64 o, .int .i64 m, .string (bs s), .slice A n c]] w fun f w' => f = .returned (.bool (nmB s)) ∧ Below w.heap.size w w' := by
  go_enter Try.func50, Try.ntmps50
  go_wp2_with fail
  refine (hnm.out _).mono ?_
  rintro f w2 ⟨rfl, hb2⟩
  go_wp2_with fail
  go_ret
  exact ⟨rfl, ((Below.refl _ _).alloc (Nat.le_refl _) _).trans (hb2.mono (by simp))⟩

set_option maxRecDepth 100000 in
set_option maxHeartbeats 1600000 in
theorem srcE_4 (o m : Int) (s : List UInt8) (A : Option Addr) (n c : Nat) (w : World) : Calls Try.prog 50 #[.agg #[.int .i64 4, .int .i64 o, .int .i64 m, .string (bs s), .slice A n c]] w fun f w' => f = .returned (.bool (true)) ∧ Below w.heap.size w w' := by
  go_enter Try.func50, Try.ntmps50
  go_wp2_with fail
  go_ret
  exact ⟨rfl, (Below.refl _ _).alloc (Nat.le_refl _) _⟩

set_option maxRecDepth 100000 in
set_option maxHeartbeats 1600000 in
theorem srcE_5 (o m : Int) (s : List UInt8) (A : Option Addr) (n c : Nat) (w : World) : Calls Try.prog 50 #[.agg #[.int .i64 5, .int .i64 o, .int .i64 m, .string (bs s), .slice A n c]] w fun f w' => f = .returned (.bool (true)) ∧ Below w.heap.size w w' := by
  go_enter Try.func50, Try.ntmps50
  go_wp2_with fail
  go_ret
  exact ⟨rfl, (Below.refl _ _).alloc (Nat.le_refl _) _⟩

set_option maxRecDepth 100000 in
set_option maxHeartbeats 1600000 in
theorem srcE_6 (o m : Int) (s : List UInt8) (A : Option Addr) (n c : Nat) (w : World) : Calls Try.prog 50 #[.agg #[.int .i64 6, .int .i64 o, .int .i64 m, .string (bs s), .slice A n c]] w fun f w' => f = .returned (.bool (true)) ∧ Below w.heap.size w w' := by
  go_enter Try.func50, Try.ntmps50
  go_wp2_with fail
  go_ret
  exact ⟨rfl, (Below.refl _ _).alloc (Nat.le_refl _) _⟩

set_option maxRecDepth 100000 in
set_option maxHeartbeats 1600000 in
theorem srcE_7 (o m : Int) (s : List UInt8) (A : Option Addr) (n c : Nat) (htx : Hid (∀ W : World, Calls Try.prog 73 #[.string (bs s)] W fun f w' => f = .returned (.bool (textB s)) ∧ Below W.heap.size W w')) (hnm : Hid (∀ W : World, Calls Try.prog 74 #[.string (bs s)] W fun f w' => f = .returned (.bool (nmB s)) ∧ Below W.heap.size W w')) (w : World) : Calls Try.prog 50 #[.agg #[.int .i64 7, .int .i64 o, .int .i64 m, .string (bs s), .slice A n c]] w fun f w' => f = .returned (.bool (nmB s)) ∧ Below w.heap.size w w' := by
  go_enter Try.func50, Try.ntmps50
  go_wp2_with fail
  refine (hnm.out _).mono ?_
  rintro f w2 ⟨rfl, hb2⟩
  go_wp2_with fail
  go_ret
  exact ⟨rfl, ((Below.refl _ _).alloc (Nat.le_refl _) _).trans (hb2.mono (by simp))⟩

set_option maxRecDepth 100000 in
set_option maxHeartbeats 1600000 in
theorem srcE_8 (o m : Int) (s : List UInt8) (A : Option Addr) (n c : Nat) (htx : Hid (∀ W : World, Calls Try.prog 73 #[.string (bs s)] W fun f w' => f = .returned (.bool (textB s)) ∧ Below W.heap.size W w')) (hnm : Hid (∀ W : World, Calls Try.prog 74 #[.string (bs s)] W fun f w' => f = .returned (.bool (nmB s)) ∧ Below W.heap.size W w')) (w : World) : Calls Try.prog 50 #[.agg #[.int .i64 8, .int .i64 o, .int .i64 m, .string (bs s), .slice A n c]] w fun f w' => f = .returned (.bool (nmB s)) ∧ Below w.heap.size w w' := by
  go_enter Try.func50, Try.ntmps50
  go_wp2_with fail
  refine (hnm.out _).mono ?_
  rintro f w2 ⟨rfl, hb2⟩
  go_wp2_with fail
  go_ret
  exact ⟨rfl, ((Below.refl _ _).alloc (Nat.le_refl _) _).trans (hb2.mono (by simp))⟩

set_option maxRecDepth 100000 in
set_option maxHeartbeats 1600000 in
theorem srcE_9 (o m : Int) (s : List UInt8) (A : Option Addr) (n c : Nat) (htx : Hid (∀ W : World, Calls Try.prog 73 #[.string (bs s)] W fun f w' => f = .returned (.bool (textB s)) ∧ Below W.heap.size W w')) (hnm : Hid (∀ W : World, Calls Try.prog 74 #[.string (bs s)] W fun f w' => f = .returned (.bool (nmB s)) ∧ Below W.heap.size W w')) (w : World) : Calls Try.prog 50 #[.agg #[.int .i64 9, .int .i64 o, .int .i64 m, .string (bs s), .slice A n c]] w fun f w' => f = .returned (.bool (nmB s)) ∧ Below w.heap.size w w' := by
  go_enter Try.func50, Try.ntmps50
  go_wp2_with fail
  refine (hnm.out _).mono ?_
  rintro f w2 ⟨rfl, hb2⟩
  go_wp2_with fail
  go_ret
  exact ⟨rfl, ((Below.refl _ _).alloc (Nat.le_refl _) _).trans (hb2.mono (by simp))⟩

set_option maxRecDepth 100000 in
set_option maxHeartbeats 1600000 in
theorem srcE_10 (o m : Int) (s : List UInt8) (A : Option Addr) (n c : Nat) (w : World) : Calls Try.prog 50 #[.agg #[.int .i64 10, .int .i64 o, .int .i64 m, .string (bs s), .slice A n c]] w fun f w' => f = .returned (.bool (true)) ∧ Below w.heap.size w w' := by
  go_enter Try.func50, Try.ntmps50
  go_wp2_with fail
  go_ret
  exact ⟨rfl, (Below.refl _ _).alloc (Nat.le_refl _) _⟩

set_option maxRecDepth 100000 in
set_option maxHeartbeats 1600000 in
theorem srcE_11 (o m : Int) (s : List UInt8) (A : Option Addr) (n c : Nat) (w : World) : Calls Try.prog 50 #[.agg #[.int .i64 11, .int .i64 o, .int .i64 m, .string (bs s), .slice A n c]] w fun f w' => f = .returned (.bool (true)) ∧ Below w.heap.size w w' := by
  go_enter Try.func50, Try.ntmps50
  go_wp2_with fail
  go_ret
  exact ⟨rfl, (Below.refl _ _).alloc (Nat.le_refl _) _⟩

set_option maxRecDepth 100000 in
set_option maxHeartbeats 1600000 in
theorem srcE_12 (o m : Int) (s : List UInt8) (A : Option Addr) (n c : Nat) (w : World) : Calls Try.prog 50 #[.agg #[.int .i64 12, .int .i64 o, .int .i64 m, .string (bs s), .slice A n c]] w fun f w' => f = .returned (.bool (true)) ∧ Below w.heap.size w w' := by
  go_enter Try.func50, Try.ntmps50
  go_wp2_with fail
  go_ret
  exact ⟨rfl, (Below.refl _ _).alloc (Nat.le_refl _) _⟩

set_option maxRecDepth 100000 in
set_option maxHeartbeats 1600000 in
theorem srcE_13 (o m : Int) (s : List UInt8) (A : Option Addr) (n c : Nat) (w : World) : Calls Try.prog 50 #[.agg #[.int .i64 13, .int .i64 o, .int .i64 m, .string (bs s), .slice A n c]] w fun f w' => f = .returned (.bool (true)) ∧ Below w.heap.size w w' := by
  go_enter Try.func50, Try.ntmps50
  go_wp2_with fail
  go_ret
  exact ⟨rfl, (Below.refl _ _).alloc (Nat.le_refl _) _⟩

set_option maxRecDepth 100000 in
set_option maxHeartbeats 1600000 in
theorem srcE_14 (o m : Int) (s : List UInt8) (A : Option Addr) (n c : Nat) (w : World) : Calls Try.prog 50 #[.agg #[.int .i64 14, .int .i64 o, .int .i64 m, .string (bs s), .slice A n c]] w fun f w' => f = .returned (.bool (false)) ∧ Below w.heap.size w w' := by
  go_enter Try.func50, Try.ntmps50
  go_wp2_with fail
  go_ret
  exact ⟨rfl, (Below.refl _ _).alloc (Nat.le_refl _) _⟩

set_option maxRecDepth 100000 in
set_option maxHeartbeats 1600000 in
theorem srcE_15 (o m : Int) (s : List UInt8) (A : Option Addr) (n c : Nat) (w : World) : Calls Try.prog 50 #[.agg #[.int .i64 15, .int .i64 o, .int .i64 m, .string (bs s), .slice A n c]] w fun f w' => f = .returned (.bool (false)) ∧ Below w.heap.size w w' := by
  go_enter Try.func50, Try.ntmps50
  go_wp2_with fail
  go_ret
  exact ⟨rfl, (Below.refl _ _).alloc (Nat.le_refl _) _⟩

set_option maxRecDepth 100000 in
set_option maxHeartbeats 1600000 in
theorem srcE_16 (o m : Int) (s : List UInt8) (A : Option Addr) (n c : Nat) (w : World) : Calls Try.prog 50 #[.agg #[.int .i64 16, .int .i64 o, .int .i64 m, .string (bs s), .slice A n c]] w fun f w' => f = .returned (.bool (false)) ∧ Below w.heap.size w w' := by
  go_enter Try.func50, Try.ntmps50
  go_wp2_with fail
  go_ret
  exact ⟨rfl, (Below.refl _ _).alloc (Nat.le_refl _) _⟩

set_option maxRecDepth 100000 in
set_option maxHeartbeats 1600000 in
theorem srcE_17 (o m : Int) (s : List UInt8) (A : Option Addr) (n c : Nat) (w : World) : Calls Try.prog 50 #[.agg #[.int .i64 17, .int .i64 o, .int .i64 m, .string (bs s), .slice A n c]] w fun f w' => f = .returned (.bool (false)) ∧ Below w.heap.size w w' := by
  go_enter Try.func50, Try.ntmps50
  go_wp2_with fail
  go_ret
  exact ⟨rfl, (Below.refl _ _).alloc (Nat.le_refl _) _⟩

set_option maxRecDepth 100000 in
set_option maxHeartbeats 1600000 in
theorem srcE_18 (o m : Int) (s : List UInt8) (A : Option Addr) (n c : Nat) (w : World) : Calls Try.prog 50 #[.agg #[.int .i64 18, .int .i64 o, .int .i64 m, .string (bs s), .slice A n c]] w fun f w' => f = .returned (.bool (false)) ∧ Below w.heap.size w w' := by
  go_enter Try.func50, Try.ntmps50
  go_wp2_with fail
  go_ret
  exact ⟨rfl, (Below.refl _ _).alloc (Nat.le_refl _) _⟩

set_option maxRecDepth 100000 in
set_option maxHeartbeats 1600000 in
theorem srcE_19 (o m : Int) (s : List UInt8) (A : Option Addr) (n c : Nat) (w : World) : Calls Try.prog 50 #[.agg #[.int .i64 19, .int .i64 o, .int .i64 m, .string (bs s), .slice A n c]] w fun f w' => f = .returned (.bool (false)) ∧ Below w.heap.size w w' := by
  go_enter Try.func50, Try.ntmps50
  go_wp2_with fail
  go_ret
  exact ⟨rfl, (Below.refl _ _).alloc (Nat.le_refl _) _⟩

set_option maxRecDepth 100000 in
set_option maxHeartbeats 1600000 in
theorem srcE_0 (k : Int) (h1 : k ≠ 1) (h2 : k ≠ 2) (h3 : k ≠ 3) (h4 : k ≠ 4) (h5 : k ≠ 5) (h6 : k ≠ 6) (h7 : k ≠ 7) (h8 : k ≠ 8) (h9 : k ≠ 9) (h10 : k ≠ 10) (h11 : k ≠ 11) (h12 : k ≠ 12) (h13 : k ≠ 13) (h14 : k ≠ 14) (h15 : k ≠ 15) (h16 : k ≠ 16) (h17 : k ≠ 17) (h18 : k ≠ 18) (h19 : k ≠ 19) (o m : Int) (s : List UInt8) (A : Option Addr) (n c : Nat) (w : World) : Calls Try.prog 50 #[.agg #[.int .i64 k, .int .i64 o, .int .i64 m, .string (bs s), .slice A n c]] w fun f w' => f = .returned (.bool (false)) ∧ Below w.heap.size w w' := by
  have t1 : (k == 1) = false := by rw [beq_eq_false_iff_ne]; exact h1
  have t2 : (k == 2) = false := by rw [beq_eq_false_iff_ne]; exact h2
  have t3 : (k == 3) = false := by rw [beq_eq_false_iff_ne]; exact h3
  have t4 : (k == 4) = false := by rw [beq_eq_false_iff_ne]; exact h4
  have t5 : (k == 5) = false := by rw [beq_eq_false_iff_ne]; exact h5
  have t6 : (k == 6) = false := by rw [beq_eq_false_iff_ne]; exact h6
  have t7 : (k == 7) = false := by rw [beq_eq_false_iff_ne]; exact h7
  have t8 : (k == 8) = false := by rw [beq_eq_false_iff_ne]; exact h8
  have t9 : (k == 9) = false := by rw [beq_eq_false_iff_ne]; exact h9
  have t10 : (k == 10) = false := by rw [beq_eq_false_iff_ne]; exact h10
  have t11 : (k == 11) = false := by rw [beq_eq_false_iff_ne]; exact h11
  have t12 : (k == 12) = false := by rw [beq_eq_false_iff_ne]; exact h12
  have t13 : (k == 13) = false := by rw [beq_eq_false_iff_ne]; exact h13
  clear h1 h2 h3 h4 h5 h6 h7 h8 h9 h10 h11 h12 h13 h14 h15 h16 h17 h18 h19
  go_enter Try.func50, Try.ntmps50
  go_wp2_with fail
  go_ret
  exact ⟨rfl, (Below.refl _ _).alloc (Nat.le_refl _) _⟩

theorem tisSourceExpr_any (e : EL) (w : World) (hin : e.In w w.heap.size) : Calls Try.prog 50 #[eVal e] w fun f w' => f = .returned (.bool (srcE e)) ∧ Below w.heap.size w w' := by
  have hs := hin.fit.2
  obtain ⟨k, o, m, s, A, n, c, es⟩ := e
  change (s.length : Int) ≤ _ at hs
  have hl : (bs s).data.toList = s := by simp [bs]
  have htx : Hid (∀ W : World, Calls Try.prog 73 #[.string (bs s)] W fun f w' => f = .returned (.bool (textB s)) ∧ Below W.heap.size W w') := Lib.hid fun W => by
    have := isText_any W (bs s) (by have : (bs s).size = s.length := by { rw [← hl, Array.length_toList]; rfl }
                                    omega)
    rw [hl] at this
    exact this
  have hnm : Hid (∀ W : World, Calls Try.prog 74 #[.string (bs s)] W fun f w' => f = .returned (.bool (nmB s)) ∧ Below W.heap.size W w') := Lib.hid fun W => tisName_any W s hs
  by_cases h1 : k = 1
  · subst h1
    exact srcE_1 o m s A n c w
  by_cases h2 : k = 2
  · subst h2
    exact srcE_2 o m s A n c htx hnm w
  by_cases h3 : k = 3
  · subst h3
    exact srcE_3 o m s A n c htx hnm w
  by_cases h4 : k = 4
  · subst h4
    exact srcE_4 o m s A n c w
  by_cases h5 : k = 5
  · subst h5
    exact srcE_5 o m s A n c w
  by_cases h6 : k = 6
  · subst h6
    exact srcE_6 o m s A n c w
  by_cases h7 : k = 7
  · subst h7
    exact srcE_7 o m s A n c htx hnm w
  by_cases h8 : k = 8
  · subst h8
    exact srcE_8 o m s A n c htx hnm w
  by_cases h9 : k = 9
  · subst h9
    exact srcE_9 o m s A n c htx hnm w
  by_cases h10 : k = 10
  · subst h10
    exact srcE_10 o m s A n c w
  by_cases h11 : k = 11
  · subst h11
    exact srcE_11 o m s A n c w
  by_cases h12 : k = 12
  · subst h12
    exact srcE_12 o m s A n c w
  by_cases h13 : k = 13
  · subst h13
    exact srcE_13 o m s A n c w
  by_cases h14 : k = 14
  · subst h14
    exact srcE_14 o m s A n c w
  by_cases h15 : k = 15
  · subst h15
    exact srcE_15 o m s A n c w
  by_cases h16 : k = 16
  · subst h16
    exact srcE_16 o m s A n c w
  by_cases h17 : k = 17
  · subst h17
    exact srcE_17 o m s A n c w
  by_cases h18 : k = 18
  · subst h18
    exact srcE_18 o m s A n c w
  by_cases h19 : k = 19
  · subst h19
    exact srcE_19 o m s A n c w
  have e : srcE (EL.mk k o m s A n c es) = false := by
    unfold srcE
    simp only [EL.kind, h1, h2, h3, h4, h5, h6, h7, h8, h9, h10, h11, h12, h13, or_self, if_false, decide_false]
  rw [e]
  exact srcE_0 k h1 h2 h3 h4 h5 h6 h7 h8 h9 h10 h11 h12 h13 h14 h15 h16 h17 h18 h19 o m s A n c w

set_option maxRecDepth 100000 in
set_option maxHeartbeats 1600000 in
theorem srcS_1 (m : Int) (s : List UInt8) (A : Option Addr) (n c : Nat) (A1 : Option Addr) (n1 c1 : Nat) (A2 : Option Addr) (n2 c2 : Nat) (w : World) : Calls Try.prog 51 #[.agg #[.int .i64 1, .int .i64 m, .string (bs s), .slice A n c, .slice A1 n1 c1, .slice A2 n2 c2]] w fun f w' => f = .returned (.bool (true)) ∧ Below w.heap.size w w' := by
  go_enter Try.func51, Try.ntmps51
  go_wp2_with fail
  go_ret
  exact ⟨rfl, (Below.refl _ _).alloc (Nat.le_refl _) _⟩

set_option maxRecDepth 100000 in
set_option maxHeartbeats 1600000 in
theorem srcS_2 (m : Int) (s : List UInt8) (A : Option Addr) (n c : Nat) (A1 : Option Addr) (n1 c1 : Nat) (A2 : Option Addr) (n2 c2 : Nat) (hnm : Hid (∀ W : World, Calls Try.prog 74 #[.string (bs s)] W fun f w' => f = .returned (.bool (nmB s)) ∧ Below W.heap.size W w')) (w : World) : Calls Try.prog 51 #[.agg #[.int .i64 2, .int .i64 m, .string (bs s), .slice A n c, .slice A1 n1 c1, .slice A2 n2 c2]] w fun f w' => f = .returned (.bool (nmB s)) ∧ Below w.heap.size w w' := by
  go_enter Try.func51, Try.ntmps51
  go_wp2_with fail
  refine (hnm.out _).mono ?_
  rintro f w2 ⟨rfl, hb2⟩
  go_wp2_with fail
  go_ret
  exact ⟨rfl, ((Below.refl _ _).alloc (Nat.le_refl _) _).trans (hb2.mono (by simp))⟩

set_option maxRecDepth 100000 in
set_option maxHeartbeats 1600000 in
theorem srcS_3 (m : Int) (s : List UInt8) (A : Option Addr) (n c : Nat) (A1 : Option Addr) (n1 c1 : Nat) (A2 : Option Addr) (n2 c2 : Nat) (hnm : Hid (∀ W : World, Calls Try.prog 74 #[.string (bs s)] W fun f w' => f = .returned (.bool (nmB s)) ∧ Below W.heap.size W w')) (w : World) : Calls Try.prog 51 #[.agg #[.int .i64 3, .int .i64 m, .string (bs s), .slice A n c, .slice A1 n1 c1, .slice A2 n2 c2]] w fun f w' => f = .returned (.bool (nmB s)) ∧ Below w.heap.size w w' := by
  go_enter Try.func51, Try.ntmps51
  go_wp2_with fail
  refine (hnm.out _).mono ?_
  rintro f w2 ⟨rfl, hb2⟩
  go_wp2_with fail
  go_ret
  exact ⟨rfl, ((Below.refl _ _).alloc (Nat.le_refl _) _).trans (hb2.mono (by simp))⟩

set_option maxRecDepth 100000 in
set_option maxHeartbeats 1600000 in
theorem srcS_4 (m : Int) (s : List UInt8) (A : Option Addr) (n c : Nat) (A1 : Option Addr) (n1 c1 : Nat) (A2 : Option Addr) (n2 c2 : Nat) (hnm : Hid (∀ W : World, Calls Try.prog 74 #[.string (bs s)] W fun f w' => f = .returned (.bool (nmB s)) ∧ Below W.heap.size W w')) (w : World) : Calls Try.prog 51 #[.agg #[.int .i64 4, .int .i64 m, .string (bs s), .slice A n c, .slice A1 n1 c1, .slice A2 n2 c2]] w fun f w' => f = .returned (.bool (nmB s)) ∧ Below w.heap.size w w' := by
  go_enter Try.func51, Try.ntmps51
  go_wp2_with fail
  refine (hnm.out _).mono ?_
  rintro f w2 ⟨rfl, hb2⟩
  go_wp2_with fail
  go_ret
  exact ⟨rfl, ((Below.refl _ _).alloc (Nat.le_refl _) _).trans (hb2.mono (by simp))⟩

set_option maxRecDepth 100000 in
set_option maxHeartbeats 1600000 in
theorem srcS_5 (m : Int) (s : List UInt8) (A : Option Addr) (n c : Nat) (A1 : Option Addr) (n1 c1 : Nat) (A2 : Option Addr) (n2 c2 : Nat) (hnm : Hid (∀ W : World, Calls Try.prog 74 #[.string (bs s)] W fun f w' => f = .returned (.bool (nmB s)) ∧ Below W.heap.size W w')) (w : World) : Calls Try.prog 51 #[.agg #[.int .i64 5, .int .i64 m, .string (bs s), .slice A n c, .slice A1 n1 c1, .slice A2 n2 c2]] w fun f w' => f = .returned (.bool (nmB s)) ∧ Below w.heap.size w w' := by
  go_enter Try.func51, Try.ntmps51
  go_wp2_with fail
  refine (hnm.out _).mono ?_
  rintro f w2 ⟨rfl, hb2⟩
  go_wp2_with fail
  go_ret
  exact ⟨rfl, ((Below.refl _ _).alloc (Nat.le_refl _) _).trans (hb2.mono (by simp))⟩

set_option maxRecDepth 100000 in
set_option maxHeartbeats 1600000 in
theorem srcS_6 (m : Int) (s : List UInt8) (A : Option Addr) (n c : Nat) (A1 : Option Addr) (n1 c1 : Nat) (A2 : Option Addr) (n2 c2 : Nat) (hnm : Hid (∀ W : World, Calls Try.prog 74 #[.string (bs s)] W fun f w' => f = .returned (.bool (nmB s)) ∧ Below W.heap.size W w')) (w : World) : Calls Try.prog 51 #[.agg #[.int .i64 6, .int .i64 m, .string (bs s), .slice A n c, .slice A1 n1 c1, .slice A2 n2 c2]] w fun f w' => f = .returned (.bool (nmB s)) ∧ Below w.heap.size w w' := by
  go_enter Try.func51, Try.ntmps51
  go_wp2_with fail
  refine (hnm.out _).mono ?_
  rintro f w2 ⟨rfl, hb2⟩
  go_wp2_with fail
  go_ret
  exact ⟨rfl, ((Below.refl _ _).alloc (Nat.le_refl _) _).trans (hb2.mono (by simp))⟩

set_option maxRecDepth 100000 in
set_option maxHeartbeats 1600000 in
theorem srcS_7 (m : Int) (s : List UInt8) (A : Option Addr) (n c : Nat) (A1 : Option Addr) (n1 c1 : Nat) (A2 : Option Addr) (n2 c2 : Nat) (w : World) : Calls Try.prog 51 #[.agg #[.int .i64 7, .int .i64 m, .string (bs s), .slice A n c, .slice A1 n1 c1, .slice A2 n2 c2]] w fun f w' => f = .returned (.bool (true)) ∧ Below w.heap.size w w' := by
  go_enter Try.func51, Try.ntmps51
  go_wp2_with fail
  go_ret
  exact ⟨rfl, (Below.refl _ _).alloc (Nat.le_refl _) _⟩

set_option maxRecDepth 100000 in
set_option maxHeartbeats 1600000 in
theorem srcS_8 (m : Int) (s : List UInt8) (A : Option Addr) (n c : Nat) (A1 : Option Addr) (n1 c1 : Nat) (A2 : Option Addr) (n2 c2 : Nat) (w : World) : Calls Try.prog 51 #[.agg #[.int .i64 8, .int .i64 m, .string (bs s), .slice A n c, .slice A1 n1 c1, .slice A2 n2 c2]] w fun f w' => f = .returned (.bool (true)) ∧ Below w.heap.size w w' := by
  go_enter Try.func51, Try.ntmps51
  go_wp2_with fail
  go_ret
  exact ⟨rfl, (Below.refl _ _).alloc (Nat.le_refl _) _⟩

set_option maxRecDepth 100000 in
set_option maxHeartbeats 1600000 in
theorem srcS_9 (m : Int) (s : List UInt8) (A : Option Addr) (n c : Nat) (A1 : Option Addr) (n1 c1 : Nat) (A2 : Option Addr) (n2 c2 : Nat) (w : World) : Calls Try.prog 51 #[.agg #[.int .i64 9, .int .i64 m, .string (bs s), .slice A n c, .slice A1 n1 c1, .slice A2 n2 c2]] w fun f w' => f = .returned (.bool (true)) ∧ Below w.heap.size w w' := by
  go_enter Try.func51, Try.ntmps51
  go_wp2_with fail
  go_ret
  exact ⟨rfl, (Below.refl _ _).alloc (Nat.le_refl _) _⟩

set_option maxRecDepth 100000 in
set_option maxHeartbeats 1600000 in
theorem srcS_10 (m : Int) (s : List UInt8) (A : Option Addr) (n c : Nat) (A1 : Option Addr) (n1 c1 : Nat) (A2 : Option Addr) (n2 c2 : Nat) (w : World) : Calls Try.prog 51 #[.agg #[.int .i64 10, .int .i64 m, .string (bs s), .slice A n c, .slice A1 n1 c1, .slice A2 n2 c2]] w fun f w' => f = .returned (.bool (true)) ∧ Below w.heap.size w w' := by
  go_enter Try.func51, Try.ntmps51
  go_wp2_with fail
  go_ret
  exact ⟨rfl, (Below.refl _ _).alloc (Nat.le_refl _) _⟩

set_option maxRecDepth 100000 in
set_option maxHeartbeats 1600000 in
theorem srcS_11 (m : Int) (s : List UInt8) (A : Option Addr) (n c : Nat) (A1 : Option Addr) (n1 c1 : Nat) (A2 : Option Addr) (n2 c2 : Nat) (hnm : Hid (∀ W : World, Calls Try.prog 74 #[.string (bs s)] W fun f w' => f = .returned (.bool (nmB s)) ∧ Below W.heap.size W w')) (w : World) : Calls Try.prog 51 #[.agg #[.int .i64 11, .int .i64 m, .string (bs s), .slice A n c, .slice A1 n1 c1, .slice A2 n2 c2]] w fun f w' => f = .returned (.bool (nmB s)) ∧ Below w.heap.size w w' := by
  go_enter Try.func51, Try.ntmps51
  go_wp2_with fail
  refine (hnm.out _).mono ?_
  rintro f w2 ⟨rfl, hb2⟩
  go_wp2_with fail
  go_ret
  exact ⟨rfl, ((Below.refl _ _).alloc (Nat.le_refl _) _).trans (hb2.mono (by simp))⟩

set_option maxRecDepth 100000 in
set_option maxHeartbeats 1600000 in
theorem srcS_12 (m : Int) (s : List UInt8) (A : Option Addr) (n c : Nat) (A1 : Option Addr) (n1 c1 : Nat) (A2 : Option Addr) (n2 c2 : Nat) (w : World) : Calls Try.prog 51 #[.agg #[.int .i64 12, .int .i64 m, .string (bs s), .slice A n c, .slice A1 n1 c1, .slice A2 n2 c2]] w fun f w' => f = .returned (.bool (true)) ∧ Below w.heap.size w w' := by
  go_enter Try.func51, Try.ntmps51
  go_wp2_with fail
  go_ret
  exact ⟨rfl, (Below.refl _ _).alloc (Nat.le_refl _) _⟩

set_option maxRecDepth 100000 in
set_option maxHeartbeats 1600000 in
theorem srcS_13 (m : Int) (s : List UInt8) (A : Option Addr) (n c : Nat) (A1 : Option Addr) (n1 c1 : Nat) (A2 : Option Addr) (n2 c2 : Nat) (w : World) : Calls Try.prog 51 #[.agg #[.int .i64 13, .int .i64 m, .string (bs s), .slice A n c, .slice A1 n1 c1, .slice A2 n2 c2]] w fun f w' => f = .returned (.bool (true)) ∧ Below w.heap.size w w' := by
  go_enter Try.func51, Try.ntmps51
  go_wp2_with fail
  go_ret
  exact ⟨rfl, (Below.refl _ _).alloc (Nat.le_refl _) _⟩

set_option maxRecDepth 100000 in
set_option maxHeartbeats 1600000 in
theorem srcS_14 (m : Int) (s : List UInt8) (A : Option Addr) (n c : Nat) (A1 : Option Addr) (n1 c1 : Nat) (A2 : Option Addr) (n2 c2 : Nat) (w : World) : Calls Try.prog 51 #[.agg #[.int .i64 14, .int .i64 m, .string (bs s), .slice A n c, .slice A1 n1 c1, .slice A2 n2 c2]] w fun f w' => f = .returned (.bool (true)) ∧ Below w.heap.size w w' := by
  go_enter Try.func51, Try.ntmps51
  go_wp2_with fail
  go_ret
  exact ⟨rfl, (Below.refl _ _).alloc (Nat.le_refl _) _⟩

set_option maxRecDepth 100000 in
set_option maxHeartbeats 1600000 in
theorem srcS_15 (m : Int) (s : List UInt8) (A : Option Addr) (n c : Nat) (A1 : Option Addr) (n1 c1 : Nat) (A2 : Option Addr) (n2 c2 : Nat) (w : World) : Calls Try.prog 51 #[.agg #[.int .i64 15, .int .i64 m, .string (bs s), .slice A n c, .slice A1 n1 c1, .slice A2 n2 c2]] w fun f w' => f = .returned (.bool (true)) ∧ Below w.heap.size w w' := by
  go_enter Try.func51, Try.ntmps51
  go_wp2_with fail
  go_ret
  exact ⟨rfl, (Below.refl _ _).alloc (Nat.le_refl _) _⟩

set_option maxRecDepth 100000 in
set_option maxHeartbeats 1600000 in
theorem srcS_16 (m : Int) (s : List UInt8) (A : Option Addr) (n c : Nat) (A1 : Option Addr) (n1 c1 : Nat) (A2 : Option Addr) (n2 c2 : Nat) (w : World) : Calls Try.prog 51 #[.agg #[.int .i64 16, .int .i64 m, .string (bs s), .slice A n c, .slice A1 n1 c1, .slice A2 n2 c2]] w fun f w' => f = .returned (.bool (true)) ∧ Below w.heap.size w w' := by
  go_enter Try.func51, Try.ntmps51
  go_wp2_with fail
  go_ret
  exact ⟨rfl, (Below.refl _ _).alloc (Nat.le_refl _) _⟩

set_option maxRecDepth 100000 in
set_option maxHeartbeats 1600000 in
theorem srcS_17 (m : Int) (s : List UInt8) (A : Option Addr) (n c : Nat) (A1 : Option Addr) (n1 c1 : Nat) (A2 : Option Addr) (n2 c2 : Nat) (hnm : Hid (∀ W : World, Calls Try.prog 74 #[.string (bs s)] W fun f w' => f = .returned (.bool (nmB s)) ∧ Below W.heap.size W w')) (w : World) : Calls Try.prog 51 #[.agg #[.int .i64 17, .int .i64 m, .string (bs s), .slice A n c, .slice A1 n1 c1, .slice A2 n2 c2]] w fun f w' => f = .returned (.bool (nmB s)) ∧ Below w.heap.size w w' := by
  go_enter Try.func51, Try.ntmps51
  go_wp2_with fail
  refine (hnm.out _).mono ?_
  rintro f w2 ⟨rfl, hb2⟩
  go_wp2_with fail
  go_ret
  exact ⟨rfl, ((Below.refl _ _).alloc (Nat.le_refl _) _).trans (hb2.mono (by simp))⟩

set_option maxRecDepth 100000 in
set_option maxHeartbeats 1600000 in
theorem srcS_18 (m : Int) (s : List UInt8) (A : Option Addr) (n c : Nat) (A1 : Option Addr) (n1 c1 : Nat) (A2 : Option Addr) (n2 c2 : Nat) (hnm : Hid (∀ W : World, Calls Try.prog 74 #[.string (bs s)] W fun f w' => f = .returned (.bool (nmB s)) ∧ Below W.heap.size W w')) (w : World) : Calls Try.prog 51 #[.agg #[.int .i64 18, .int .i64 m, .string (bs s), .slice A n c, .slice A1 n1 c1, .slice A2 n2 c2]] w fun f w' => f = .returned (.bool (nmB s)) ∧ Below w.heap.size w w' := by
  go_enter Try.func51, Try.ntmps51
  go_wp2_with fail
  refine (hnm.out _).mono ?_
  rintro f w2 ⟨rfl, hb2⟩
  go_wp2_with fail
  go_ret
  exact ⟨rfl, ((Below.refl _ _).alloc (Nat.le_refl _) _).trans (hb2.mono (by simp))⟩

set_option maxRecDepth 100000 in
set_option maxHeartbeats 1600000 in
theorem srcS_19 (m : Int) (s : List UInt8) (A : Option Addr) (n c : Nat) (A1 : Option Addr) (n1 c1 : Nat) (A2 : Option Addr) (n2 c2 : Nat) (w : World) : Calls Try.prog 51 #[.agg #[.int .i64 19, .int .i64 m, .string (bs s), .slice A n c, .slice A1 n1 c1, .slice A2 n2 c2]] w fun f w' => f = .returned (.bool (true)) ∧ Below w.heap.size w w' := by
  go_enter Try.func51, Try.ntmps51
  go_wp2_with fail
  go_ret
  exact ⟨rfl, (Below.refl _ _).alloc (Nat.le_refl _) _⟩

set_option maxRecDepth 100000 in
set_option maxHeartbeats 1600000 in
theorem srcS_20 (m : Int) (s : List UInt8) (A : Option Addr) (n c : Nat) (A1 : Option Addr) (n1 c1 : Nat) (A2 : Option Addr) (n2 c2 : Nat) (w : World) : Calls Try.prog 51 #[.agg #[.int .i64 20, .int .i64 m, .string (bs s), .slice A n c, .slice A1 n1 c1, .slice A2 n2 c2]] w fun f w' => f = .returned (.bool (true)) ∧ Below w.heap.size w w' := by
  go_enter Try.func51, Try.ntmps51
  go_wp2_with fail
  go_ret
  exact ⟨rfl, (Below.refl _ _).alloc (Nat.le_refl _) _⟩

set_option maxRecDepth 100000 in
set_option maxHeartbeats 1600000 in
theorem srcS_21 (m : Int) (s : List UInt8) (A : Option Addr) (n c : Nat) (A1 : Option Addr) (n1 c1 : Nat) (A2 : Option Addr) (n2 c2 : Nat) (w : World) : Calls Try.prog 51 #[.agg #[.int .i64 21, .int .i64 m, .string (bs s), .slice A n c, .slice A1 n1 c1, .slice A2 n2 c2]] w fun f w' => f = .returned (.bool (true)) ∧ Below w.heap.size w w' := by
  go_enter Try.func51, Try.ntmps51
  go_wp2_with fail
  go_ret
  exact ⟨rfl, (Below.refl _ _).alloc (Nat.le_refl _) _⟩

set_option maxRecDepth 100000 in
set_option maxHeartbeats 1600000 in
theorem srcS_22 (m : Int) (s : List UInt8) (A : Option Addr) (n c : Nat) (A1 : Option Addr) (n1 c1 : Nat) (A2 : Option Addr) (n2 c2 : Nat) (w : World) : Calls Try.prog 51 #[.agg #[.int .i64 22, .int .i64 m, .string (bs s), .slice A n c, .slice A1 n1 c1, .slice A2 n2 c2]] w fun f w' => f = .returned (.bool (true)) ∧ Below w.heap.size w w' := by
  go_enter Try.func51, Try.ntmps51
  go_wp2_with fail
  go_ret
  exact ⟨rfl, (Below.refl _ _).alloc (Nat.le_refl _) _⟩

set_option maxRecDepth 100000 in
set_option maxHeartbeats 1600000 in
theorem srcS_23 (m : Int) (s : List UInt8) (A : Option Addr) (n c : Nat) (A1 : Option Addr) (n1 c1 : Nat) (A2 : Option Addr) (n2 c2 : Nat) (w : World) : Calls Try.prog 51 #[.agg #[.int .i64 23, .int .i64 m, .string (bs s), .slice A n c, .slice A1 n1 c1, .slice A2 n2 c2]] w fun f w' => f = .returned (.bool (false)) ∧ Below w.heap.size w w' := by
  go_enter Try.func51, Try.ntmps51
  go_wp2_with fail
  go_ret
  exact ⟨rfl, (Below.refl _ _).alloc (Nat.le_refl _) _⟩

set_option maxRecDepth 100000 in
set_option maxHeartbeats 1600000 in
theorem srcS_0 (k : Int) (h1 : k ≠ 1) (h2 : k ≠ 2) (h3 : k ≠ 3) (h4 : k ≠ 4) (h5 : k ≠ 5) (h6 : k ≠ 6) (h7 : k ≠ 7) (h8 : k ≠ 8) (h9 : k ≠ 9) (h10 : k ≠ 10) (h11 : k ≠ 11) (h12 : k ≠ 12) (h13 : k ≠ 13) (h14 : k ≠ 14) (h15 : k ≠ 15) (h16 : k ≠ 16) (h17 : k ≠ 17) (h18 : k ≠ 18) (h19 : k ≠ 19) (h20 : k ≠ 20) (h21 : k ≠ 21) (h22 : k ≠ 22) (h23 : k ≠ 23) (m : Int) (s : List UInt8) (A : Option Addr) (n c : Nat) (A1 : Option Addr) (n1 c1 : Nat) (A2 : Option Addr) (n2 c2 : Nat) (w : World) : Calls Try.prog 51 #[.agg #[.int .i64 k, .int .i64 m, .string (bs s), .slice A n c, .slice A1 n1 c1, .slice A2 n2 c2]] w fun f w' => f = .returned (.bool (false)) ∧ Below w.heap.size w w' := by
  have t1 : (k == 1) = false := by rw [beq_eq_false_iff_ne]; exact h1
  have t2 : (k == 2) = false := by rw [beq_eq_false_iff_ne]; exact h2
  have t3 : (k == 3) = false := by rw [beq_eq_false_iff_ne]; exact h3
  have t4 : (k == 4) = false := by rw [beq_eq_false_iff_ne]; exact h4
  have t5 : (k == 5) = false := by rw [beq_eq_false_iff_ne]; exact h5
  have t6 : (k == 6) = false := by rw [beq_eq_false_iff_ne]; exact h6
  have t7 : (k == 7) = false := by rw [beq_eq_false_iff_ne]; exact h7
  have t8 : (k == 8) = false := by rw [beq_eq_false_iff_ne]; exact h8
  have t9 : (k == 9) = false := by rw [beq_eq_false_iff_ne]; exact h9
  have t10 : (k == 10) = false := by rw [beq_eq_false_iff_ne]; exact h10
  have t11 : (k == 11) = false := by rw [beq_eq_false_iff_ne]; exact h11
  have t12 : (k == 12) = false := by rw [beq_eq_false_iff_ne]; exact h12
  have t13 : (k == 13) = false := by rw [beq_eq_false_iff_ne]; exact h13
  have t14 : (k == 14) = false := by rw [beq_eq_false_iff_ne]; exact h14
  have t15 : (k == 15) = false := by rw [beq_eq_false_iff_ne]; exact h15
  have t16 : (k == 16) = false := by rw [beq_eq_false_iff_ne]; exact h16
  have t17 : (k == 17) = false := by rw [beq_eq_false_iff_ne]; exact h17
  have t18 : (k == 18) = false := by rw [beq_eq_false_iff_ne]; exact h18
  have t19 : (k == 19) = false := by rw [beq_eq_false_iff_ne]; exact h19
  have t20 : (k == 20) = false := by rw [beq_eq_false_iff_ne]; exact h20
  have t21 : (k == 21) = false := by rw [beq_eq_false_iff_ne]; exact h21
  have t22 : (k == 22) = false := by rw [beq_eq_false_iff_ne]; exact h22
  clear h1 h2 h3 h4 h5 h6 h7 h8 h9 h10 h11 h12 h13 h14 h15 h16 h17 h18 h19 h20 h21 h22 h23
  go_enter Try.func51, Try.ntmps51
  go_wp2_with fail
  go_ret
  exact ⟨rfl, (Below.refl _ _).alloc (Nat.le_refl _) _⟩

theorem tisSourceStmt_any (e : SL) (w : World) (hin : e.In w w.heap.size) : Calls Try.prog 51 #[sVal e] w fun f w' => f = .returned (.bool (srcS e)) ∧ Below w.heap.size w w' := by
  have hs := hin.parts.1.2.1
  obtain ⟨k, m, s, A, n, c, es, A1, n1, c1, bo, A2, n2, c2, el⟩ := e
  change (s.length : Int) ≤ _ at hs
  have hnm : Hid (∀ W : World, Calls Try.prog 74 #[.string (bs s)] W fun f w' => f = .returned (.bool (nmB s)) ∧ Below W.heap.size W w') := Lib.hid fun W => tisName_any W s hs
  by_cases h1 : k = 1
  · subst h1
    exact srcS_1 m s A n c A1 n1 c1 A2 n2 c2 w
  by_cases h2 : k = 2
  · subst h2
    exact srcS_2 m s A n c A1 n1 c1 A2 n2 c2 hnm w
  by_cases h3 : k = 3
  · subst h3
    exact srcS_3 m s A n c A1 n1 c1 A2 n2 c2 hnm w
  by_cases h4 : k = 4
  · subst h4
    exact srcS_4 m s A n c A1 n1 c1 A2 n2 c2 hnm w
  by_cases h5 : k = 5
  · subst h5
    exact srcS_5 m s A n c A1 n1 c1 A2 n2 c2 hnm w
  by_cases h6 : k = 6
  · subst h6
    exact srcS_6 m s A n c A1 n1 c1 A2 n2 c2 hnm w
  by_cases h7 : k = 7
  · subst h7
    exact srcS_7 m s A n c A1 n1 c1 A2 n2 c2 w
  by_cases h8 : k = 8
  · subst h8
    exact srcS_8 m s A n c A1 n1 c1 A2 n2 c2 w
  by_cases h9 : k = 9
  · subst h9
    exact srcS_9 m s A n c A1 n1 c1 A2 n2 c2 w
  by_cases h10 : k = 10
  · subst h10
    exact srcS_10 m s A n c A1 n1 c1 A2 n2 c2 w
  by_cases h11 : k = 11
  · subst h11
    exact srcS_11 m s A n c A1 n1 c1 A2 n2 c2 hnm w
  by_cases h12 : k = 12
  · subst h12
    exact srcS_12 m s A n c A1 n1 c1 A2 n2 c2 w
  by_cases h13 : k = 13
  · subst h13
    exact srcS_13 m s A n c A1 n1 c1 A2 n2 c2 w
  by_cases h14 : k = 14
  · subst h14
    exact srcS_14 m s A n c A1 n1 c1 A2 n2 c2 w
  by_cases h15 : k = 15
  · subst h15
    exact srcS_15 m s A n c A1 n1 c1 A2 n2 c2 w
  by_cases h16 : k = 16
  · subst h16
    exact srcS_16 m s A n c A1 n1 c1 A2 n2 c2 w
  by_cases h17 : k = 17
  · subst h17
    exact srcS_17 m s A n c A1 n1 c1 A2 n2 c2 hnm w
  by_cases h18 : k = 18
  · subst h18
    exact srcS_18 m s A n c A1 n1 c1 A2 n2 c2 hnm w
  by_cases h19 : k = 19
  · subst h19
    exact srcS_19 m s A n c A1 n1 c1 A2 n2 c2 w
  by_cases h20 : k = 20
  · subst h20
    exact srcS_20 m s A n c A1 n1 c1 A2 n2 c2 w
  by_cases h21 : k = 21
  · subst h21
    exact srcS_21 m s A n c A1 n1 c1 A2 n2 c2 w
  by_cases h22 : k = 22
  · subst h22
    exact srcS_22 m s A n c A1 n1 c1 A2 n2 c2 w
  by_cases h23 : k = 23
  · subst h23
    exact srcS_23 m s A n c A1 n1 c1 A2 n2 c2 w
  have e : srcS (SL.mk k m s A n c es A1 n1 c1 bo A2 n2 c2 el) = false := by
    unfold srcS
    simp only [SL.kind, h1, h2, h3, h4, h5, h6, h7, h8, h9, h10, h11, h12, h13, h14, h15, h16, h17, h18, h19, h20, h21, h22, or_self, if_false, decide_false]
  rw [e]
  exact srcS_0 k h1 h2 h3 h4 h5 h6 h7 h8 h9 h10 h11 h12 h13 h14 h15 h16 h17 h18 h19 h20 h21 h22 h23 m s A n c A1 n1 c1 A2 n2 c2 w

end Go.Proofs.Ytdmpadonnobeaaa
