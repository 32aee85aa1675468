/- Contracts of mix.From, Next, valueOf, Value, Below, Skip. -/
import Derived.Test.YtjcddmelkgmiiaaMixC
namespace Go.Proofs.Ytjcddmelkgmiiaa
open Go.RowKit

/-- the number that a state begins with, before 0 is replaced -/
def fromV (n : Int) : Nat := (IntKind.u64.wrap (IntKind.u64.wrap (IntKind.u64.wrap n * 2654435769) + 1)).toNat

theorem fromV_eq (n : Int) : IntKind.u64.wrap (IntKind.u64.wrap (IntKind.u64.wrap n * 2654435769) + 1) = (fromV n : Int) := by
  unfold fromV
  rw [Int.toNat_of_nonneg]
  rw [IntKind.wrap_u64 (IntKind.u64.wrap (IntKind.u64.wrap n * 2654435769) + 1)]
  exact Int.emod_nonneg _ (by decide)

theorem fromV_lt (n : Int) : fromV n < Mx.M := by
  have h : (fromV n : Int) < 18446744073709551616 := by
    rw [← fromV_eq, IntKind.wrap_u64 (IntKind.u64.wrap (IntKind.u64.wrap n * 2654435769) + 1)]
    exact Int.emod_lt_of_pos _ (by decide)
  exact Int.ofNat_lt.1 h

/-- the random bits of a state, once stepped -/
def valN (s : Nat) : Nat := (IntKind.u64.wrap ((s : Int) * 2685821657736338717) / 4294967296 % 4294967296).toNat

theorem valN_eq (s : Nat) : IntKind.u64.wrap ((s : Int) * 2685821657736338717) / 4294967296 % 4294967296 = (valN s : Int) := by
  unfold valN
  rw [Int.toNat_of_nonneg]
  exact Int.emod_nonneg _ (by decide)

theorem valN_lt (s : Nat) : valN s < 4294967296 := by
  have h : (valN s : Int) < 4294967296 := by
    rw [← valN_eq]
    exact Int.emod_lt_of_pos _ (by decide)
  exact Int.ofNat_lt.1 h

set_option maxRecDepth 100000 in
set_option maxHeartbeats 400000 in
theorem from_any (w : World) (n : Int) : Calls Try.prog 8 #[.int .i64 n] w fun e w' => e = .returned (.int .u64 (Mx.nz (fromV n) : Nat)) ∧ w = w' := by
  go_enter Try.func8, Try.ntmps8
  go_wp2_with fail
  rw [fromV_eq]
  refine (nonzero_any w (fromV n)).mono ?_
  rintro e w1 ⟨rfl, rfl⟩
  go_wp2_with fail
  go_ret
  exact ⟨rfl, rfl⟩

set_option maxRecDepth 100000 in
set_option maxHeartbeats 400000 in
theorem valueOf_any (w : World) (s : Nat) : Calls Try.prog 21 #[.int .u64 s] w fun e w' => e = .returned (.int .u32 (valN s : Nat)) ∧ w = w' := by
  go_enter Try.func21, Try.ntmps21
  go_wp2_with fail
  go_ret
  exact ⟨ret_int (valN_eq s), rfl⟩

set_option maxRecDepth 100000 in
set_option maxHeartbeats 400000 in
theorem next_any (w : World) (s : Nat) (hs : s < Mx.M) : Calls Try.prog 10 #[.int .u64 s] w fun e w' => e = .returned (.int .u64 (Mx.next s : Nat)) ∧ Below w.heap.size w w' := by
  have kc := entersC.run
  have HS := Lib.hid hs
  clear hs
  go_enter Try.func10, Try.ntmps10
  go_wp2_with fail
  refine (transition_any w).mono ?_
  rintro e w1 ⟨g1, g2, g3, g4, g5, rfl, hb1, hc⟩
  have HC := Lib.hid hc
  clear hc
  go_wp2_with fail
  refine (chain1_any w1 _ g1 g2 g3 g4 g5 s HS.out HC.out).mono ?_
  rintro e w2 ⟨rfl, rfl⟩
  go_wp2_with fail
  go_ret
  exact ⟨rfl, hb1⟩

set_option maxRecDepth 100000 in
set_option maxHeartbeats 400000 in
theorem value_any (w : World) (s : Nat) (hs : s < Mx.M) : Calls Try.prog 12 #[.int .u64 s] w fun e w' => e = .returned (.int .u32 (valN (Mx.next s) : Nat)) ∧ Below w.heap.size w w' := by
  have HS := Lib.hid hs
  clear hs
  go_enter Try.func12, Try.ntmps12
  go_wp2_with fail
  refine (next_any w s HS.out).mono ?_
  rintro e w1 ⟨rfl, hb⟩
  go_wp2_with fail
  refine (valueOf_any _ _).mono ?_
  rintro e w2 ⟨rfl, rfl⟩
  go_wp2_with fail
  go_ret
  exact ⟨rfl, hb⟩

/-- what Below hands back -/
def belowN (s : Nat) (n : Int) : Int := if n < 1 then 0 else (valN (Mx.next s) : Int) % n
def belowS (s : Nat) (n : Int) : Nat := if n < 1 then s else Mx.next s

theorem wrap_in (n : Int) (h0 : 0 ≤ n) (h : n ≤ 9223372036854775807) : IntKind.u64.wrap n = n := by
  rw [IntKind.wrap_u64]
  exact Int.emod_eq_of_lt h0 (by omega)

set_option maxRecDepth 100000 in
set_option maxHeartbeats 800000 in
theorem below_any (w : World) (s : Nat) (n : Int) (hs : s < Mx.M) (hn : n ≤ 9223372036854775807) :
    Calls Try.prog 15 #[.int .u64 s, .int .i64 n] w fun e w' => e = .returned (.tuple #[.int .i64 (belowN s n), .int .u64 (belowS s n : Nat)]) ∧ Below w.heap.size w w' := by
  by_cases h1 : n < 1
  · have e1 : belowN s n = 0 := by unfold belowN; rw [if_pos h1]
    have e2 : belowS s n = s := by unfold belowS; rw [if_pos h1]
    rw [e1, e2]
    clear e1 e2 hs
    go_enter Try.func15, Try.ntmps15
    go_wp2_with fail
    go_ret2
    exact ⟨rfl, Below.refl _ _⟩
  · have e1 : belowN s n = (valN (Mx.next s) : Int) % n := by unfold belowN; rw [if_neg h1]
    have e2 : belowS s n = Mx.next s := by unfold belowS; rw [if_neg h1]
    rw [e1, e2]
    clear e1 e2
    have hn0 : 1 ≤ n := by omega
    clear h1
    have hw := wrap_in n (by omega) hn
    have HS := Lib.hid hs
    clear hs
    go_enter Try.func15, Try.ntmps15
    go_wp2_with fail
    refine (next_any w s HS.out).mono ?_
    rintro e w1 ⟨rfl, hb⟩
    go_wp2_with fail
    refine (valueOf_any _ _).mono ?_
    rintro e w2 ⟨rfl, rfl⟩
    have hv := valN_lt (Mx.next s)
    have hm0 : 0 ≤ (valN (Mx.next s) : Int) % n := Int.emod_nonneg _ (by omega)
    have hm1 : (valN (Mx.next s) : Int) % n ≤ 9223372036854775807 := by
      have := Int.emod_lt_of_pos (valN (Mx.next s) : Int) (show 0 < n by omega)
      omega
    go_wp2_with fail
    go_ret2
    exact ⟨rfl, hb⟩

/-- how many steps are taken -/
def stepsN (k : Int) : Nat := if 65536 < k then 65536 else k.toNat

theorem stepsN_le (k : Int) : stepsN k ≤ 65536 := by
  unfold stepsN
  split <;> omega

set_option maxRecDepth 100000 in
set_option maxHeartbeats 1600000 in
theorem skip_any (w : World) (s : Nat) (k : Int) (hs : s < Mx.M) :
    Calls Try.prog 17 #[.int .u64 s, .int .i64 k] w fun e w' => e = .returned (.int .u64 (Mx.skip s (stepsN k) : Nat)) ∧ Below w.heap.size w w' := by
  have kc := entersC.run
  have HS := Lib.hid hs
  clear hs
  by_cases h1 : 65536 < k
  · have e1 : stepsN k = 65536 := by unfold stepsN; rw [if_pos h1]
    rw [e1]
    clear e1
    obtain ⟨K, hK⟩ : ∃ K : Nat, K = 65536 := ⟨_, rfl⟩
    rw [← hK]
    have HK := Lib.hid hK
    clear hK
    go_enter Try.func17, Try.ntmps17
    go_wp2_with fail
    refine (transition_any w).mono ?_
    rintro e w1 ⟨g1, g2, g3, g4, g5, rfl, hb1, hc⟩
    have HC := Lib.hid hc
    clear hc
    go_wp2_with fail
    go_loop [0, 9] (fun v i => ∃ j : Nat, j ≤ K ∧ i = .int .i64 j ∧ v = .int .u64 (Mx.skip s j : Nat)) (fun _ i => K - (intOf i).toNat)
    case atStart => exact ⟨0, Nat.zero_le _, rfl, rfl⟩
    case round =>
      obtain ⟨j, hj, rfl, rfl⟩ := hrel
      have hK := HK.out
      by_cases hlt : j < K
      · have hlt2 : (j : Int) < 65536 := by omega
        clear hK
        go_wp2_with fail
        refine (chain1_any w1 _ g1 g2 g3 g4 g5 _ (Mx.skip_lt HS.out j) HC.out).mono ?_
        rintro e w2 ⟨rfl, rfl⟩
        go_wp2_with fail
        go_round
        case rel => exact ⟨j + 1, by omega, by go_num, rfl⟩
        case measure => simp [intOf]; omega
      · obtain rfl : j = K := by omega
        have hlt2 : ¬ (j : Int) < 65536 := by omega
        clear hK
        go_wp2_with fail
        go_ret
        exact ⟨rfl, hb1⟩
  · by_cases h2 : k ≤ 0
    · have e1 : stepsN k = 0 := by unfold stepsN; rw [if_neg h1]; omega
      rw [e1]
      clear e1
      go_enter Try.func17, Try.ntmps17
      go_wp2_with fail
      refine (transition_any w).mono ?_
      rintro e w1 ⟨g1, g2, g3, g4, g5, rfl, hb1, hc⟩
      have HC := Lib.hid hc
      clear hc
      go_wp2_with fail
      go_loop [0, 9] (fun v i => ∃ j : Nat, j ≤ 0 ∧ i = .int .i64 j ∧ v = .int .u64 (Mx.skip s j : Nat)) (fun _ i => 0 - (intOf i).toNat)
      case atStart => exact ⟨0, Nat.zero_le _, rfl, rfl⟩
      case round =>
        obtain ⟨j, hj, rfl, rfl⟩ := hrel
        obtain rfl : j = 0 := by omega
        go_wp2_with fail
        go_ret
        exact ⟨rfl, hb1⟩
    · obtain ⟨K, rfl⟩ : ∃ K : Nat, k = (K : Int) := ⟨k.toNat, by omega⟩
      have e1 : stepsN (K : Int) = K := by unfold stepsN; rw [if_neg h1]; omega
      rw [e1]
      clear e1
      go_enter Try.func17, Try.ntmps17
      go_wp2_with fail
      refine (transition_any w).mono ?_
      rintro e w1 ⟨g1, g2, g3, g4, g5, rfl, hb1, hc⟩
      have HC := Lib.hid hc
      clear hc
      go_wp2_with fail
      go_loop [0, 9] (fun v i => ∃ j : Nat, j ≤ K ∧ i = .int .i64 j ∧ v = .int .u64 (Mx.skip s j : Nat)) (fun _ i => K - (intOf i).toNat)
      case atStart => exact ⟨0, Nat.zero_le _, rfl, rfl⟩
      case round =>
        obtain ⟨j, hj, rfl, rfl⟩ := hrel
        by_cases hlt : j < K
        · go_wp2_with fail
          refine (chain1_any w1 _ g1 g2 g3 g4 g5 _ (Mx.skip_lt HS.out j) HC.out).mono ?_
          rintro e w2 ⟨rfl, rfl⟩
          go_wp2_with fail
          go_round
          case rel => exact ⟨j + 1, by omega, by go_num, rfl⟩
          case measure => simp [intOf]; omega
        · obtain rfl : j = K := by omega
          go_wp2_with fail
          go_ret
          exact ⟨rfl, hb1⟩

end Go.Proofs.Ytjcddmelkgmiiaa
