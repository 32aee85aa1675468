/- Contracts of the reference's From, Next, Value, Below, Skip of layer 5. -/
import Derived.Test.YtjcddmelkgmiiaaMix
import Derived.BigQuiet
import Derived.Deep.QuietTactic
namespace Go.Proofs.Ytjcddmelkgmiiaa
open Go.RowKit

set_option maxRecDepth 100000 in
set_option maxHeartbeats 400000 in
theorem rfrom_any (w : World) (n : Int) : Calls Try.prog 9 #[.int .i64 n] w fun e w' => e = .returned (.int .u64 (Mx.nz (fromV n) : Nat)) ∧ w = w' := by
  have hf := fromV_eq n
  by_cases h : fromV n = 0
  · have e : Mx.nz (fromV n) = 1 := by rw [h]; rfl
    rw [e]
    rw [h] at hf
    clear e h
    have hz : ((IntKind.u64.wrap (IntKind.u64.wrap (IntKind.u64.wrap n * 2654435769) + 1)) == 0) = true := by rw [hf]; rfl
    clear hf
    go_enter Try.func9, Try.ntmps9
    go_wp2_with fail
    go_ret
    exact ⟨rfl, rfl⟩
  · have e : Mx.nz (fromV n) = fromV n := by unfold Mx.nz; rw [if_neg h]
    rw [e]
    have hz : ((IntKind.u64.wrap (IntKind.u64.wrap (IntKind.u64.wrap n * 2654435769) + 1)) == 0) = false := by rw [hf, beq_eq_false_iff_ne]; omega
    have HF := Lib.hid hf
    clear hf e h
    go_enter Try.func9, Try.ntmps9
    go_wp2_with fail
    go_ret
    exact ⟨ret_int HF.out, rfl⟩

theorem next_bits (s : Nat) (hs : s < Mx.M) (x : Int) (hx : x = (Mx.nz s : Nat)) :
    bits BinOp.xor IntKind.u64
      (bits BinOp.xor IntKind.u64 (bits BinOp.xor IntKind.u64 x (x / 4096)) (IntKind.u64.wrap (bits BinOp.xor IntKind.u64 x (x / 4096) * 33554432)))
      (bits BinOp.xor IntKind.u64 (bits BinOp.xor IntKind.u64 x (x / 4096)) (IntKind.u64.wrap (bits BinOp.xor IntKind.u64 x (x / 4096) * 33554432)) / 134217728) = ((Mx.next s : Nat) : Int) := by
  have h1 := xor_right 12 _ (Mx.nz_lt hs)
  have h2 := xor_left 25 _ (Mx.mr_lt 12 (Mx.nz_lt hs))
  have h3 := xor_right 27 _ (Mx.ml_lt 25 (Mx.mr_lt 12 (Mx.nz_lt hs)))
  rw [show (2 : Int) ^ 12 = 4096 from rfl] at h1
  rw [show (2 : Int) ^ 25 = 33554432 from rfl] at h2
  rw [show (2 : Int) ^ 27 = 134217728 from rfl] at h3
  rw [hx, h1, h2, h3]
  rfl

set_option maxRecDepth 100000 in
set_option maxHeartbeats 400000 in
theorem rnext_any (w : World) (s : Nat) (hs : s < Mx.M) : Calls Try.prog 11 #[.int .u64 s] w fun e w' => e = .returned (.int .u64 (Mx.next s : Nat)) ∧ w = w' := by
  have HS := Lib.hid hs
  clear hs
  by_cases h : s = 0
  · have H0 := Lib.hid h
    subst h
    go_enter Try.func11, Try.ntmps11
    go_wp2_with fail
    go_ret
    exact ⟨ret_int (next_bits 0 HS.out 1 rfl), rfl⟩
  · have HE : Hid (Mx.nz s = s) := Lib.hid (by unfold Mx.nz; rw [if_neg h])
    have hz : ((s : Int) == 0) = false := by rw [beq_eq_false_iff_ne]; omega
    clear h
    go_enter Try.func11, Try.ntmps11
    go_wp2_with fail
    go_ret
    exact ⟨ret_int (next_bits s HS.out s (by rw [HE.out])), rfl⟩

set_option maxRecDepth 100000 in
set_option maxHeartbeats 400000 in
theorem rvalue_any (w : World) (s : Nat) (hs : s < Mx.M) : Calls Try.prog 13 #[.int .u64 s] w fun e w' => e = .returned (.int .u32 (valN (Mx.next s) : Nat)) ∧ w = w' := by
  have HS := Lib.hid hs
  clear hs
  go_enter Try.func13, Try.ntmps13
  go_wp2_with fail
  refine (rnext_any w s HS.out).mono ?_
  rintro e w1 ⟨rfl, rfl⟩
  go_wp2_with fail
  go_ret
  exact ⟨ret_int (valN_eq _), rfl⟩

set_option maxRecDepth 100000 in
set_option maxHeartbeats 1600000 in
theorem rskip_any (w : World) (s : Nat) (k : Int) (hs : s < Mx.M) :
    Calls Try.prog 18 #[.int .u64 s, .int .i64 k] w fun e w' => e = .returned (.int .u64 (Mx.skip s (stepsN k) : Nat)) ∧ w = w' := by
  have HS := Lib.hid hs
  clear hs
  by_cases h1 : 65536 < k
  · have e1 : stepsN k = 65536 := by unfold stepsN; rw [if_pos h1]
    rw [e1]
    clear e1
    obtain ⟨K, hK⟩ : ∃ K : Nat, K = 65536 := ⟨_, rfl⟩
    rw [← hK]
    have HK := Lib.hid hK
    clear hK
    go_enter Try.func18, Try.ntmps18
    go_wp2_with fail
    go_loop [0, 5] (fun v i => ∃ j : Nat, j ≤ K ∧ i = .int .i64 j ∧ v = .int .u64 (Mx.skip s j : Nat)) (fun _ i => K - (intOf i).toNat)
    case atStart => exact ⟨0, Nat.zero_le _, rfl, rfl⟩
    case round =>
      obtain ⟨j, hj, rfl, rfl⟩ := hrel
      have hK := HK.out
      by_cases hlt : j < K
      · have hlt2 : (j : Int) < 65536 := by omega
        clear hK
        go_wp2_with fail
        refine (rnext_any w _ (Mx.skip_lt HS.out j)).mono ?_
        rintro e w2 ⟨rfl, rfl⟩
        go_wp2_with fail
        go_round
        case rel => exact ⟨j + 1, by omega, by go_num, rfl⟩
        case measure => simp [intOf]; omega
      · obtain rfl : j = K := by omega
        have hlt2 : ¬ (j : Int) < 65536 := by omega
        clear hK
        go_wp2_with fail
        go_ret
        exact ⟨rfl, rfl⟩
  · by_cases h2 : k ≤ 0
    · have e1 : stepsN k = 0 := by unfold stepsN; rw [if_neg h1]; omega
      rw [e1]
      clear e1
      go_enter Try.func18, Try.ntmps18
      go_wp2_with fail
      go_loop [0, 5] (fun v i => ∃ j : Nat, j ≤ 0 ∧ i = .int .i64 j ∧ v = .int .u64 (Mx.skip s j : Nat)) (fun _ i => 0 - (intOf i).toNat)
      case atStart => exact ⟨0, Nat.zero_le _, rfl, rfl⟩
      case round =>
        obtain ⟨j, hj, rfl, rfl⟩ := hrel
        obtain rfl : j = 0 := by omega
        go_wp2_with fail
        go_ret
        exact ⟨rfl, rfl⟩
    · obtain ⟨K, rfl⟩ : ∃ K : Nat, k = (K : Int) := ⟨k.toNat, by omega⟩
      have e1 : stepsN (K : Int) = K := by unfold stepsN; rw [if_neg h1]; omega
      rw [e1]
      clear e1
      go_enter Try.func18, Try.ntmps18
      go_wp2_with fail
      go_loop [0, 5] (fun v i => ∃ j : Nat, j ≤ K ∧ i = .int .i64 j ∧ v = .int .u64 (Mx.skip s j : Nat)) (fun _ i => K - (intOf i).toNat)
      case atStart => exact ⟨0, Nat.zero_le _, rfl, rfl⟩
      case round =>
        obtain ⟨j, hj, rfl, rfl⟩ := hrel
        by_cases hlt : j < K
        · go_wp2_with fail
          refine (rnext_any w _ (Mx.skip_lt HS.out j)).mono ?_
          rintro e w2 ⟨rfl, rfl⟩
          go_wp2_with fail
          go_round
          case rel => exact ⟨j + 1, by omega, by go_num, rfl⟩
          case measure => simp [intOf]; omega
        · obtain rfl : j = K := by omega
          go_wp2_with fail
          go_ret
          exact ⟨rfl, rfl⟩

set_option maxRecDepth 100000 in
set_option maxHeartbeats 800000 in
theorem rbelow_any (w : World) (s : Nat) (n : Int) (hs : s < Mx.M) (hn : n ≤ 9223372036854775807) :
    Calls Try.prog 16 #[.int .u64 s, .int .i64 n] w fun e w' => e = .returned (.tuple #[.int .i64 (belowN s n), .int .u64 (belowS s n : Nat)]) ∧ Below w.heap.size w w' := by
  by_cases h1 : n < 1
  · have e1 : belowN s n = 0 := by unfold belowN; rw [if_pos h1]
    have e2 : belowS s n = s := by unfold belowS; rw [if_pos h1]
    rw [e1, e2]
    clear e1 e2 hs
    go_enter Try.func16, Try.ntmps16
    go_wp2_with fail
    go_ret2
    exact ⟨rfl, Below.refl _ _⟩
  · have e1 : belowN s n = (valN (Mx.next s) : Int) % n := by unfold belowN; rw [if_neg h1]
    have e2 : belowS s n = Mx.next s := by unfold belowS; rw [if_neg h1]
    rw [e1, e2]
    clear e1 e2
    have hn0 : 1 ≤ n := by omega
    clear h1
    have hv := valN_lt (Mx.next s)
    have hv0 : 0 ≤ (valN (Mx.next s) : Int) := Int.natCast_nonneg _
    have htm : (valN (Mx.next s) : Int).tmod n = (valN (Mx.next s) : Int) % n := Int.tmod_eq_emod_of_nonneg hv0
    have HS := Lib.hid hs
    clear hs
    go_enter Try.func16, Try.ntmps16
    go_wp2_with fail
    go_quiet ((first | (go_at_call 13; exact Calls.quiet_of_same ((rvalue_any _ s HS.out).mono fun e w2 h => ⟨h.1, h.2.symm⟩)) | (go_at_call 11; exact Calls.quiet_of_same ((rnext_any _ s HS.out).mono fun e w2 h => ⟨h.1, h.2.symm⟩))))
    go_wp2_with fail
    go_ret2
    exact ⟨rfl, rfl, rfl, rfl, Nat.le_refl _, fun _ _ => rfl⟩

end Go.Proofs.Ytjcddmelkgmiiaa
