/- Contracts of the functions of wire and of its reference that append bytes. -/
import Derived.Test.YtpenilbnhhcmiaaRows
import Derived.Test.YtpenilbnhhcmiaaBase
namespace Go.Proofs.Ytpenilbnhhcmiaa
open Go.RowKit

theorem Try.infoB : (Try.prog.info? 5).map (fun i => (i.zero, i.size, i.bytes)) = some (some (.int .u8 0), 1, 1) := by kernel_rfl

set_option maxHeartbeats 400000 in
theorem copied_any (w : World) (B : Nat) (A : Option Addr) (n c : Nat) (l : List UInt8) (k : Nat) (K : Int) (hK : K = (k : Int)) (h : Rd w B A n l) (hB : B ≤ w.heap.size) (hl : l.length ≤ 1000000) (hk : k ≤ 1000000) :
    Calls Try.prog 27 #[.slice A n c, .int .i64 K] w (OutO w.heap.size w l) := by
  subst hK
  obtain ⟨i0, hi, hz, hs, hb⟩ := info_parts Try.infoB
  have hn : n ≤ 1000000 := by have := h.1; omega
  have H := Lib.hid h
  clear h hl
  go_enter Try.func27, Try.ntmps27
  go_wp2_with (first
    | (at_make; refine wpList_make_own _ rfl _ _ 22 rfl w.heap.size 5 i0 _ 1 Try.underlying22 hi hz hs .i64 .i64 _ (n + k) rfl rfl (by omega) (by rw [hb]; omega) (by unfold maxLen; omega) (Nat.le_refl _) ?_; intro w1 hown1 hg1; have hb1 := (Below.refl w.heap.size w).grown hg1 (Nat.le_refl _) (by simp))
    | (at_builtin; refine wpList_app _ rfl _ _ 22 rfl w.heap.size 5 i0 Try.underlying22 hi hz hs hb _ 0 [] rfl hown1 B A n c l rfl (H.out.below (hb1.mono hB)) (by omega) hb1.size ?_; intro A2 c2 w2 hown2 hg2))
  go_ret
  exact ⟨A2, _, c2, rfl, by simpa using hown2, hb1.grown hg2 hb1.size (own_from hown1)⟩

set_option maxHeartbeats 400000 in
theorem beU32_any (w : World) (base : Nat) (A : Option Addr) (n c : Nat) (l : List UInt8) (x : Int) (k : Nat) (K : Int) (hK : K = (k : Int)) (hown : w.ownsRow base 5 1 (.slice A n c) n (bc l)) (hB : base ≤ w.heap.size) (hl : l.length ≤ 2000000) (hk : k ≤ 4) (_x0 : 0 ≤ x) (_x1 : x ≤ 4294967295) :
    Calls Try.prog 26 #[.slice A n c, .int .u32 x, .int .i64 K] w (OutO base w (l ++ beL k x)) := by
  subst hK
  obtain ⟨i0, hi, hz, hs, hb⟩ := info_parts Try.infoB
  have hn : n ≤ 2000000 := by have := own_len hown; omega
  clear hl
  have H := Lib.hid hown
  clear hown
  go_enter Try.func26, Try.ntmps26
  go_wp2_with fail
  go_loopw [0, 9] (fun v i wr => ∃ (j : Nat) (A' : Option Addr) (c' : Nat), j ≤ k ∧ i = .int .i64 j ∧ v = .slice A' (n + j) c' ∧ wr.ownsRow base 5 1 (.slice A' (n + j) c') (n + j) (bc (l ++ (beL k x).take j)) ∧ Below base w wr) (fun _ i _ => k - (intOf i).toNat)
  case atStart => exact ⟨0, A, c, Nat.zero_le _, rfl, rfl, by simpa using H.out, Below.refl _ _⟩
  case round =>
    obtain ⟨j, A', c', hj, rfl, rfl, ho, hbel⟩ := hrel
    have HO := Lib.hid ho
    clear ho
    have hbs := hbel.size
    by_cases hlt : j < k
    · go_wp2_with (at_builtin; refine wpList_app _ rfl _ _ 22 rfl base 5 i0 Try.underlying22 hi hz hs hb _ (n + j) (l ++ (beL k x).take j) rfl (HO.out.alloc _) (wr.heap.size + 1) (some ⟨wr.heap.size, 0, none⟩) 1 1 [byt (x / 2 ^ (8 * (k - 1 - j)))] rfl (Rd.new1 wr _ _) (by omega) (by simp; omega) ?_; intro A2 c2 w2 hown2 hg2)
      have H2 := Lib.hid hown2
      clear hown2
      go_roundw
      case rel =>
        refine ⟨j + 1, A2, c2, by omega, by go_num, rfl, ?_, (hbel.alloc (by omega) _).grown hg2 (by simp; omega) (own_from HO.out)⟩
        rw [beL_take k x j hlt, ← List.append_assoc]
        exact H2.out
      case measure => simp [intOf]; omega
    · go_wp2_with fail
      go_ret
      have e : j = k := by omega
      subst e
      refine ⟨A', _, c', rfl, ?_, hbel⟩
      have h := HO.out
      rw [List.take_of_length_le (by rw [beL_length]; exact Nat.le_refl _)] at h
      exact h

end Go.Proofs.Ytpenilbnhhcmiaa
