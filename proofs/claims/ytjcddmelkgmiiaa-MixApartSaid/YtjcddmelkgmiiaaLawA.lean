/- The walks of the statements of layer 5. -/
import Derived.Test.YtjcddmelkgmiiaaAwake
namespace Go.Proofs.Ytjcddmelkgmiiaa
open Go.RowKit

set_option maxRecDepth 100000 in
set_option maxHeartbeats 1600000 in
theorem states_walk (n : Int) (s : Nat) (hs : s < Mx.M) (w : World) :
    Calls Try.prog 3 #[.int .i64 n, .int .u64 s] w fun e w' => e = .returned (.bool true) ∧ Below w.heap.size w w' := by
  have HS := Lib.hid hs
  clear hs
  go_enter Try.func3, Try.ntmps3
  go_wp2_with fail
  refine (from_any w n).mono ?_
  rintro e w1 ⟨rfl, rfl⟩
  go_wp2_with fail
  refine (rfrom_any w n).mono ?_
  rintro e w1 ⟨rfl, rfl⟩
  go_wp2_with fail
  refine (next_any w s HS.out).mono ?_
  rintro e w1 ⟨rfl, hb1⟩
  go_wp2_with fail
  refine (rnext_any w1 s HS.out).mono ?_
  rintro e w2 ⟨rfl, rfl⟩
  go_wp2_with fail
  refine (value_any w1 s HS.out).mono ?_
  rintro e w2 ⟨rfl, hb2⟩
  have hb3 := hb1.trans (hb2.mono hb1.size)
  clear hb1 hb2
  go_wp2_with fail
  refine (rvalue_any w2 s HS.out).mono ?_
  rintro e w3 ⟨rfl, rfl⟩
  go_wp2_with fail
  refine (awake_any _).mono ?_
  rintro e w3 ⟨rfl, hb4⟩
  go_wp2_with fail
  go_ret
  exact ⟨rfl, hb3.trans (hb4.mono hb3.size)⟩

theorem belowN_lo (s : Nat) (n : Int) : 0 ≤ belowN s n := by
  unfold belowN
  split
  · omega
  · exact Int.emod_nonneg _ (by omega)

theorem belowN_hi (s : Nat) (n : Int) (h : ¬ n < 1) : belowN s n < n := by
  unfold belowN
  rw [if_neg h]
  exact Int.emod_lt_of_pos _ (by omega)

set_option maxRecDepth 100000 in
set_option maxHeartbeats 1600000 in
theorem below_walk (s : Nat) (n : Int) (hs : s < Mx.M) (hn : n ≤ 9223372036854775807) (w : World) :
    Calls Try.prog 4 #[.int .u64 s, .int .i64 n] w fun e w' => e = .returned (.bool true) ∧ Below w.heap.size w w' := by
  have HS := Lib.hid hs
  have HN := Lib.hid hn
  clear hs hn
  have hlo := belowN_lo s n
  by_cases h1 : n < 1
  · have E2 : Hid (belowS s n = s) := Lib.hid (by unfold belowS; rw [if_pos h1])
    go_enter Try.func4, Try.ntmps4
    go_wp2_with fail
    refine (below_any w s n HS.out HN.out).mono ?_
    rintro e w1 ⟨rfl, hb1⟩
    rw [E2.out]
    go_wp2_with fail
    refine (rbelow_any w1 s n HS.out HN.out).mono ?_
    rintro e w2 ⟨rfl, hb2⟩
    rw [E2.out]
    have hb3 := hb1.trans (hb2.mono hb1.size)
    clear hb1 hb2
    go_wp2_with fail
    refine (awake_any _).mono ?_
    rintro e w3 ⟨rfl, hb4⟩
    go_wp2_with fail
    go_ret
    exact ⟨rfl, hb3.trans (hb4.mono hb3.size)⟩
  · have E2 : Hid (belowS s n = Mx.next s) := Lib.hid (by unfold belowS; rw [if_neg h1])
    have hhi := belowN_hi s n h1
    have h2 : 1 ≤ n := by omega
    clear h1
    go_enter Try.func4, Try.ntmps4
    go_wp2_with fail
    refine (below_any w s n HS.out HN.out).mono ?_
    rintro e w1 ⟨rfl, hb1⟩
    rw [E2.out]
    go_wp2_with fail
    refine (rbelow_any w1 s n HS.out HN.out).mono ?_
    rintro e w2 ⟨rfl, hb2⟩
    rw [E2.out]
    have hb3 := hb1.trans (hb2.mono hb1.size)
    clear hb1 hb2
    go_wp2_with fail
    refine (next_any _ s HS.out).mono ?_
    rintro e w3 ⟨rfl, hb4⟩
    have hb5 := hb3.trans (hb4.mono hb3.size)
    clear hb3 hb4
    go_wp2_with fail
    refine (awake_any _).mono ?_
    rintro e w4 ⟨rfl, hb6⟩
    go_wp2_with fail
    go_ret
    exact ⟨rfl, hb5.trans (hb6.mono hb5.size)⟩

set_option maxRecDepth 100000 in
set_option maxHeartbeats 1600000 in
theorem skips_walk (s : Nat) (k : Int) (hs : s < Mx.M) (w : World) :
    Calls Try.prog 5 #[.int .u64 s, .int .i64 k] w fun e w' => e = .returned (.bool true) ∧ Below w.heap.size w w' := by
  have HS := Lib.hid hs
  clear hs
  go_enter Try.func5, Try.ntmps5
  go_wp2_with fail
  refine (skip_any w s k HS.out).mono ?_
  rintro e w1 ⟨rfl, hb1⟩
  go_wp2_with fail
  refine (rskip_any _ s k HS.out).mono ?_
  rintro e w2 ⟨rfl, rfl⟩
  go_wp2_with fail
  refine (awake_any _).mono ?_
  rintro e w3 ⟨rfl, hb4⟩
  go_wp2_with fail
  go_ret
  exact ⟨rfl, hb1.trans (hb4.mono hb1.size)⟩

theorem steps_in (k : Nat) (h : k ≤ 65536) : stepsN (k : Int) = k := by
  unfold stepsN
  rw [if_neg (by omega)]
  omega

set_option maxRecDepth 100000 in
set_option maxHeartbeats 1600000 in
theorem parts_walk (s a b : Nat) (hs : s < Mx.M) (ha : (a : Int) ≤ 65535) (hb : (b : Int) ≤ 65535) (w : World) :
    Calls Try.prog 6 #[.int .u64 s, .int .u16 a, .int .u16 b] w fun e w' => e = .returned (.bool true) ∧ Below w.heap.size w w' := by
  have HS := Lib.hid hs
  clear hs
  obtain ⟨x, hx⟩ : ∃ x : Nat, x = a % 32769 := ⟨_, rfl⟩
  obtain ⟨y, hy⟩ : ∃ y : Nat, y = b % 32769 := ⟨_, rfl⟩
  have qx : (a : Int) % 32769 = (x : Int) := by omega
  have qy : (b : Int) % 32769 = (y : Int) := by omega
  have bx : x ≤ 32768 := by omega
  have by_ : y ≤ 32768 := by omega
  have S1 := Lib.hid (steps_in x (by omega))
  have S2 := Lib.hid (steps_in y (by omega))
  have S3 : Hid (stepsN ((x : Int) + (y : Int)) = x + y) := Lib.hid (steps_in (x + y) (by omega))
  have S4 := Lib.hid (steps_in 1 (by omega))
  have SA := Lib.hid (Mx.skip_add s x y)
  clear hx hy
  go_enter Try.func6, Try.ntmps6
  go_wp2_with fail
  refine (skip_any w s x HS.out).mono ?_
  rintro e w1 ⟨rfl, hb1⟩
  rw [S1.out]
  go_wp2_with fail
  refine (skip_any w1 (Mx.skip s x) y (Mx.skip_lt HS.out x)).mono ?_
  rintro e w2 ⟨rfl, hb2⟩
  rw [S2.out]
  have hb3 := hb1.trans (hb2.mono hb1.size)
  clear hb1 hb2
  go_wp2_with fail
  refine (skip_any w2 s ((x : Int) + (y : Int)) HS.out).mono ?_
  rintro e w3 ⟨rfl, hb4⟩
  rw [S3.out, SA.out]
  have hb5 := hb3.trans (hb4.mono hb3.size)
  clear hb3 hb4
  go_wp2_with fail
  refine (skip_any w3 s 1 HS.out).mono ?_
  rintro e w4 ⟨rfl, hb6⟩
  have hb7 := hb5.trans (hb6.mono hb5.size)
  clear hb5 hb6
  rw [show Mx.skip s (stepsN 1) = Mx.next s from rfl]
  go_wp2_with fail
  refine (next_any w4 s HS.out).mono ?_
  rintro e w5 ⟨rfl, hb8⟩
  have hb9 := hb7.trans (hb8.mono hb7.size)
  clear hb7 hb8
  go_wp2_with fail
  refine (awake_any _).mono ?_
  rintro e w6 ⟨rfl, hb10⟩
  go_wp2_with fail
  go_ret
  exact ⟨rfl, hb9.trans (hb10.mono hb9.size)⟩

set_option maxRecDepth 100000 in
set_option maxHeartbeats 1600000 in
theorem apart_walk (a b : Nat) (ha : a < Mx.M) (hb : b < Mx.M) (w : World) :
    Calls Try.prog 7 #[.int .u64 a, .int .u64 b] w fun e w' => e = .returned (.bool true) ∧ Below w.heap.size w w' := by
  have HA := Lib.hid ha
  have HB := Lib.hid hb
  have na : ((Mx.next a : Int) == 0) = false := by
    have := Mx.next_ne ha
    rw [beq_eq_false_iff_ne]; omega
  have nb : ((Mx.next b : Int) == 0) = false := by
    have := Mx.next_ne hb
    rw [beq_eq_false_iff_ne]; omega
  clear ha hb
  by_cases h0 : a = 0
  · have e0 : ((a : Int) == 0) = true := by rw [beq_iff_eq]; omega
    clear h0
    go_enter Try.func7, Try.ntmps7
    go_wp2_with fail
    refine (next_any w a HA.out).mono ?_
    rintro e w1 ⟨rfl, hb1⟩
    go_wp2_with fail
    refine (next_any w1 b HB.out).mono ?_
    rintro e w2 ⟨rfl, hb2⟩
    have hb3 := hb1.trans (hb2.mono hb1.size)
    clear hb1 hb2
    go_wp2_with fail
    refine (awake_any _).mono ?_
    rintro e w3 ⟨rfl, hb4⟩
    go_wp2_with fail
    go_ret
    exact ⟨rfl, hb3.trans (hb4.mono hb3.size)⟩
  · have e0 : ((a : Int) == 0) = false := by rw [beq_eq_false_iff_ne]; omega
    by_cases h1 : b = 0
    · have e1 : ((b : Int) == 0) = true := by rw [beq_iff_eq]; omega
      clear h0 h1
      go_enter Try.func7, Try.ntmps7
      go_wp2_with fail
      refine (next_any w a HA.out).mono ?_
      rintro e w1 ⟨rfl, hb1⟩
      go_wp2_with fail
      refine (next_any w1 b HB.out).mono ?_
      rintro e w2 ⟨rfl, hb2⟩
      have hb3 := hb1.trans (hb2.mono hb1.size)
      clear hb1 hb2
      go_wp2_with fail
      refine (awake_any _).mono ?_
      rintro e w3 ⟨rfl, hb4⟩
      go_wp2_with fail
      go_ret
      exact ⟨rfl, hb3.trans (hb4.mono hb3.size)⟩
    · have e1 : ((b : Int) == 0) = false := by rw [beq_eq_false_iff_ne]; omega
      by_cases h2 : a = b
      · have e2 : ((a : Int) == (b : Int)) = true := by rw [beq_iff_eq]; omega
        clear h0 h1 h2
        go_enter Try.func7, Try.ntmps7
        go_wp2_with fail
        refine (next_any w a HA.out).mono ?_
        rintro e w1 ⟨rfl, hb1⟩
        go_wp2_with fail
        refine (next_any w1 b HB.out).mono ?_
        rintro e w2 ⟨rfl, hb2⟩
        have hb3 := hb1.trans (hb2.mono hb1.size)
        clear hb1 hb2
        go_wp2_with fail
        refine (awake_any _).mono ?_
        rintro e w3 ⟨rfl, hb4⟩
        go_wp2_with fail
        go_ret
        exact ⟨rfl, hb3.trans (hb4.mono hb3.size)⟩
      · have e2 : ((a : Int) == (b : Int)) = false := by rw [beq_eq_false_iff_ne]; omega
        have e3 : ((Mx.next a : Int) != (Mx.next b : Int)) = true := by
          have h3 : Mx.next a ≠ Mx.next b := fun e => h2 (Mx.next_inj HA.out HB.out h0 h1 e)
          rw [bne_iff_ne]; omega
        clear h0 h1 h2
        go_enter Try.func7, Try.ntmps7
        go_wp2_with fail
        refine (next_any w a HA.out).mono ?_
        rintro e w1 ⟨rfl, hb1⟩
        go_wp2_with fail
        refine (next_any w1 b HB.out).mono ?_
        rintro e w2 ⟨rfl, hb2⟩
        have hb3 := hb1.trans (hb2.mono hb1.size)
        clear hb1 hb2
        go_wp2_with fail
        refine (next_any w2 a HA.out).mono ?_
        rintro e w3 ⟨rfl, hb4⟩
        have hb5 := hb3.trans (hb4.mono hb3.size)
        clear hb3 hb4
        go_wp2_with fail
        refine (next_any w3 b HB.out).mono ?_
        rintro e w4 ⟨rfl, hb6⟩
        have hb7 := hb5.trans (hb6.mono hb5.size)
        clear hb5 hb6
        go_wp2_with fail
        refine (awake_any _).mono ?_
        rintro e w5 ⟨rfl, hb8⟩
        go_wp2_with fail
        go_ret
        exact ⟨rfl, hb7.trans (hb8.mono hb7.size)⟩

end Go.Proofs.Ytjcddmelkgmiiaa
