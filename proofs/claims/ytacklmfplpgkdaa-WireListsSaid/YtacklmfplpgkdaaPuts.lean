/- Contracts of the functions of wire and of its reference that append bytes. -/
import Derived.Test.YtacklmfplpgkdaaRows
import Derived.Test.YtacklmfplpgkdaaBase
namespace Go.Proofs.Ytacklmfplpgkdaa
open Go.RowKit

theorem Try.infoB : (Try.prog.info? 5).map (fun i => (i.zero, i.size, i.bytes)) = some (some (.int .u8 0), 1, 1) := by kernel_rfl

set_option maxHeartbeats 400000 in
theorem bytes_any (w : World) (B B' : Nat) (A A' : Option Addr) (n n' c c' : Nat) (l l' : List UInt8) (h : Rd w B A n l) (h' : Rd w B' A' n' l') :
    Calls Try.prog 9 #[.slice A n c, .slice A' n' c'] w fun e w' => e = .returned (.bool (l == l')) ∧ w = w' := by
  have k := h.toStr 22 9 5 c Try.underlying22 Try.underlying5 Try.underlying9
  have k' := h'.toStr 22 9 5 c' Try.underlying22 Try.underlying5 Try.underlying9
  clear h h'
  go_enter Try.func9, Try.ntmps9
  go_wp2
  go_ret
  exact ⟨rfl, rfl⟩

set_option maxHeartbeats 400000 in
theorem copied_any (w : World) (B : Nat) (A : Option Addr) (n c : Nat) (l : List UInt8) (k : Nat) (K : Int) (hK : K = (k : Int)) (h : Rd w B A n l) (hB : B ≤ w.heap.size) (hl : l.length ≤ 1000000) (hk : k ≤ 1000000) :
    Calls Try.prog 44 #[.slice A n c, .int .i64 K] w (OutO w.heap.size w l) := by
  subst hK
  obtain ⟨i0, hi, hz, hs, hb⟩ := info_parts Try.infoB
  have hn : n ≤ 1000000 := by have := h.1; omega
  have H := Lib.hid h
  clear h hl
  go_enter Try.func44, Try.ntmps44
  go_wp2_with (first
    | (at_make; refine wpList_make_own _ rfl _ _ 22 rfl w.heap.size 5 i0 _ 1 Try.underlying22 hi hz hs .i64 .i64 _ (n + k) rfl rfl (by omega) (by rw [hb]; omega) (by unfold maxLen; omega) (Nat.le_refl _) ?_; intro w1 hown1 hg1; have hb1 := (Below.refl w.heap.size w).grown hg1 (Nat.le_refl _) (by simp))
    | (at_builtin; refine wpList_app _ rfl _ _ 22 rfl w.heap.size 5 i0 Try.underlying22 hi hz hs hb _ 0 [] rfl hown1 B A n c l rfl (H.out.below (hb1.mono hB)) (by omega) hb1.size ?_; intro A2 c2 w2 hown2 hg2))
  go_ret
  exact ⟨A2, _, c2, rfl, by simpa using hown2, hb1.grown hg2 hb1.size (own_from hown1)⟩

set_option maxHeartbeats 400000 in
theorem beInt_any (w : World) (base : Nat) (A : Option Addr) (n c : Nat) (l : List UInt8) (x : Int) (k : Nat) (K : Int) (hK : K = (k : Int)) (hown : w.ownsRow base 5 1 (.slice A n c) n (bc l)) (hB : base ≤ w.heap.size) (hl : l.length ≤ 2000000) (hk : k ≤ 8) (_x0 : -9223372036854775808 ≤ x) (_x1 : x ≤ 9223372036854775807) :
    Calls Try.prog 43 #[.slice A n c, .int .i64 x, .int .i64 K] w (OutO base w (l ++ beL k x)) := by
  subst hK
  obtain ⟨i0, hi, hz, hs, hb⟩ := info_parts Try.infoB
  have hn : n ≤ 2000000 := by have := own_len hown; omega
  clear hl
  have H := Lib.hid hown
  clear hown
  go_enter Try.func43, Try.ntmps43
  go_wp2_with fail
  go_loopw [0, 9] (fun v i wr => ∃ (j : Nat) (A' : Option Addr) (c' : Nat), j ≤ k ∧ i = .int .i64 j ∧ v = .slice A' (n + j) c' ∧ wr.ownsRow base 5 1 (.slice A' (n + j) c') (n + j) (bc (l ++ (beL k x).take j)) ∧ Below base w wr) (fun _ i _ => k - (intOf i).toNat)
  case atStart => exact ⟨0, A, c, Nat.zero_le _, rfl, rfl, by simpa using H.out, Below.refl _ _⟩
  case round =>
    obtain ⟨j, A', c', hj, rfl, rfl, ho, hbel⟩ := hrel
    have HO := Lib.hid ho
    clear ho
    have hbs := hbel.size
    by_cases hlt : j < k
    · go_wp2_with (at_builtin; refine wpList_app _ rfl _ _ 22 rfl base 5 i0 Try.underlying22 hi hz hs hb _ (n + j) (l ++ (beL k x).take j) rfl (HO.out.alloc _) (wr.heap.size + 1) (some ⟨wr.heap.size, 0, none⟩) 1 1 [byt (x / 2 ^ (8 * (k - 1 - j)))] rfl (Rd.new1 wr _ _) (by omega) (by simp; omega) ?_; intro A2 c2 w2 hown2 hg2)
      have H2 := Lib.hid hown2
      clear hown2
      go_roundw
      case rel =>
        refine ⟨j + 1, A2, c2, by omega, by go_num, rfl, ?_, (hbel.alloc (by omega) _).grown hg2 (by simp; omega) (own_from HO.out)⟩
        rw [beL_take k x j hlt, ← List.append_assoc]
        exact H2.out
      case measure => simp [intOf]; omega
    · go_wp2_with fail
      go_ret
      have e : j = k := by omega
      subst e
      refine ⟨A', _, c', rfl, ?_, hbel⟩
      have h := HO.out
      rw [List.take_of_length_le (by rw [beL_length]; exact Nat.le_refl _)] at h
      exact h

set_option maxHeartbeats 400000 in
theorem beU32_any (w : World) (base : Nat) (A : Option Addr) (n c : Nat) (l : List UInt8) (x : Int) (k : Nat) (K : Int) (hK : K = (k : Int)) (hown : w.ownsRow base 5 1 (.slice A n c) n (bc l)) (hB : base ≤ w.heap.size) (hl : l.length ≤ 2000000) (hk : k ≤ 4) (_x0 : 0 ≤ x) (_x1 : x ≤ 4294967295) :
    Calls Try.prog 45 #[.slice A n c, .int .u32 x, .int .i64 K] w (OutO base w (l ++ beL k x)) := by
  subst hK
  obtain ⟨i0, hi, hz, hs, hb⟩ := info_parts Try.infoB
  have hn : n ≤ 2000000 := by have := own_len hown; omega
  clear hl
  have H := Lib.hid hown
  clear hown
  go_enter Try.func45, Try.ntmps45
  go_wp2_with fail
  go_loopw [0, 9] (fun v i wr => ∃ (j : Nat) (A' : Option Addr) (c' : Nat), j ≤ k ∧ i = .int .i64 j ∧ v = .slice A' (n + j) c' ∧ wr.ownsRow base 5 1 (.slice A' (n + j) c') (n + j) (bc (l ++ (beL k x).take j)) ∧ Below base w wr) (fun _ i _ => k - (intOf i).toNat)
  case atStart => exact ⟨0, A, c, Nat.zero_le _, rfl, rfl, by simpa using H.out, Below.refl _ _⟩
  case round =>
    obtain ⟨j, A', c', hj, rfl, rfl, ho, hbel⟩ := hrel
    have HO := Lib.hid ho
    clear ho
    have hbs := hbel.size
    by_cases hlt : j < k
    · go_wp2_with (at_builtin; refine wpList_app _ rfl _ _ 22 rfl base 5 i0 Try.underlying22 hi hz hs hb _ (n + j) (l ++ (beL k x).take j) rfl (HO.out.alloc _) (wr.heap.size + 1) (some ⟨wr.heap.size, 0, none⟩) 1 1 [byt (x / 2 ^ (8 * (k - 1 - j)))] rfl (Rd.new1 wr _ _) (by omega) (by simp; omega) ?_; intro A2 c2 w2 hown2 hg2)
      have H2 := Lib.hid hown2
      clear hown2
      go_roundw
      case rel =>
        refine ⟨j + 1, A2, c2, by omega, by go_num, rfl, ?_, (hbel.alloc (by omega) _).grown hg2 (by simp; omega) (own_from HO.out)⟩
        rw [beL_take k x j hlt, ← List.append_assoc]
        exact H2.out
      case measure => simp [intOf]; omega
    · go_wp2_with fail
      go_ret
      have e : j = k := by omega
      subst e
      refine ⟨A', _, c', rfl, ?_, hbel⟩
      have h := HO.out
      rw [List.take_of_length_le (by rw [beL_length]; exact Nat.le_refl _)] at h
      exact h

set_option maxHeartbeats 400000 in
theorem beU64_any (w : World) (base : Nat) (A : Option Addr) (n c : Nat) (l : List UInt8) (x : Int) (k : Nat) (K : Int) (hK : K = (k : Int)) (hown : w.ownsRow base 5 1 (.slice A n c) n (bc l)) (hB : base ≤ w.heap.size) (hl : l.length ≤ 2000000) (hk : k ≤ 8) (_x0 : 0 ≤ x) (_x1 : x ≤ 18446744073709551615) :
    Calls Try.prog 46 #[.slice A n c, .int .u64 x, .int .i64 K] w (OutO base w (l ++ beL k x)) := by
  subst hK
  obtain ⟨i0, hi, hz, hs, hb⟩ := info_parts Try.infoB
  have hn : n ≤ 2000000 := by have := own_len hown; omega
  clear hl
  have H := Lib.hid hown
  clear hown
  go_enter Try.func46, Try.ntmps46
  go_wp2_with fail
  go_loopw [0, 9] (fun v i wr => ∃ (j : Nat) (A' : Option Addr) (c' : Nat), j ≤ k ∧ i = .int .i64 j ∧ v = .slice A' (n + j) c' ∧ wr.ownsRow base 5 1 (.slice A' (n + j) c') (n + j) (bc (l ++ (beL k x).take j)) ∧ Below base w wr) (fun _ i _ => k - (intOf i).toNat)
  case atStart => exact ⟨0, A, c, Nat.zero_le _, rfl, rfl, by simpa using H.out, Below.refl _ _⟩
  case round =>
    obtain ⟨j, A', c', hj, rfl, rfl, ho, hbel⟩ := hrel
    have HO := Lib.hid ho
    clear ho
    have hbs := hbel.size
    by_cases hlt : j < k
    · go_wp2_with (at_builtin; refine wpList_app _ rfl _ _ 22 rfl base 5 i0 Try.underlying22 hi hz hs hb _ (n + j) (l ++ (beL k x).take j) rfl (HO.out.alloc _) (wr.heap.size + 1) (some ⟨wr.heap.size, 0, none⟩) 1 1 [byt (x / 2 ^ (8 * (k - 1 - j)))] rfl (Rd.new1 wr _ _) (by omega) (by simp; omega) ?_; intro A2 c2 w2 hown2 hg2)
      have H2 := Lib.hid hown2
      clear hown2
      go_roundw
      case rel =>
        refine ⟨j + 1, A2, c2, by omega, by go_num, rfl, ?_, (hbel.alloc (by omega) _).grown hg2 (by simp; omega) (own_from HO.out)⟩
        rw [beL_take k x j hlt, ← List.append_assoc]
        exact H2.out
      case measure => simp [intOf]; omega
    · go_wp2_with fail
      go_ret
      have e : j = k := by omega
      subst e
      refine ⟨A', _, c', rfl, ?_, hbel⟩
      have h := HO.out
      rw [List.take_of_length_le (by rw [beL_length]; exact Nat.le_refl _)] at h
      exact h

set_option maxRecDepth 100000 in
set_option maxHeartbeats 400000 in
theorem varint_any (w : World) (base : Nat) (A : Option Addr) (n c : Nat) (l : List UInt8) (x : Int) (hown : w.ownsRow base 5 1 (.slice A n c) n (bc l)) (hB : base ≤ w.heap.size) (hl : l.length ≤ 2000000) (_x0 : -9223372036854775808 ≤ x) (_x1 : x ≤ 9223372036854775807) :
    Calls Try.prog 47 #[.slice A n c, .int .i64 x] w (OutO base w (l ++ vr x.toNat)) := by
  obtain ⟨i0, hi, hz, hs, hb⟩ := info_parts Try.infoB
  have hlen : l.length = n := own_len hown
  have H := Lib.hid hown
  clear hown
  have hn : n ≤ 2000000 := by omega
  clear hl
  have HL := Lib.hid hlen
  clear hlen
  go_enter Try.func47, Try.ntmps47
  go_wp2_with fail
  all_goals
    go_loopw [0, 5] (fun v i wr => ∃ (r n' : Nat) (l' : List UInt8) (A' : Option Addr) (c' : Nat), (r : Int) ≤ 9223372036854775807 ∧ i = .int .i64 r ∧ v = .slice A' n' c' ∧ Hid (l' ++ vr r = l ++ vr x.toNat) ∧ wr.ownsRow base 5 1 (.slice A' n' c') n' (bc l') ∧ Below base w wr) (fun _ i _ => (intOf i).toNat)
    case atStart => exact ⟨x.toNat, n, l, A, c, by omega, by first | (rw [Int.toNat_of_nonneg (by assumption)]) | (rw [Int.toNat_of_nonpos (by omega)]; rfl), rfl, rfl, H.out, Below.refl _ _⟩
    case round =>
      obtain ⟨r, n', l', A', c', hr, rfl, rfl, he, ho, hbel⟩ := hrel
      have hbs := hbel.size
      have hn' : n' ≤ 2000010 := by
        have h1 := congrArg List.length he.out
        have h2 := ho.1
        have h3 := vr_len10 x.toNat (by omega)
        have h4 := HL.out
        rw [bc_length] at h2
        simp only [List.length_append] at h1
        omega
      have HO := Lib.hid ho
      clear ho
      by_cases hlt : 128 ≤ r
      · go_wp2_with (at_builtin; refine wpList_app _ rfl _ _ 22 rfl base 5 i0 Try.underlying22 hi hz hs hb _ n' l' rfl (HO.out.alloc _) (wr.heap.size + 1) (some ⟨wr.heap.size, 0, none⟩) 1 1 [byt ((r : Int) % 128 + 128)] rfl (Rd.newOf wr _ _ _ ?_) (by omega) (by simp; omega) ?_)
        · rw [byt_val]; omega
        · intro A2 c2 w2 hown2 hg2
          have H2 := Lib.hid hown2
          clear hown2
          go_wp2_with fail
          go_roundw
          case rel => exact ⟨r / 128, n' + 1, _, A2, c2, by omega, by go_num, rfl, vr_step hlt he, H2.out, (hbel.alloc (by omega) _).grown hg2 (by simp; omega) (own_from HO.out)⟩
          case measure => simp [intOf]; omega
      · go_wp2_with (at_builtin; refine wpList_app _ rfl _ _ 22 rfl base 5 i0 Try.underlying22 hi hz hs hb _ n' l' rfl (HO.out.alloc _) (wr.heap.size + 1) (some ⟨wr.heap.size, 0, none⟩) 1 1 [byt (r : Int)] rfl (Rd.newOf wr _ _ _ ?_) (by omega) (by simp; omega) ?_)
        · rw [byt_val]; omega
        · intro A2 c2 w2 hown2 hg2
          go_wp2_with fail
          go_ret
          refine ⟨A2, _, c2, rfl, ?_, (hbel.alloc (by omega) _).grown hg2 (by simp; omega) (own_from HO.out)⟩
          rw [← he.out, vr_lt (by omega)]
          exact hown2
end Go.Proofs.Ytacklmfplpgkdaa
