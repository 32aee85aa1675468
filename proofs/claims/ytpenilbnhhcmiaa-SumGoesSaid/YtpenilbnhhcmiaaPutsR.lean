/- Contracts of the reference's functions that append. -/
import Derived.Test.YtpenilbnhhcmiaaPuts
namespace Go.Proofs.Ytpenilbnhhcmiaa
open Go.RowKit

theorem byt_congr {x y : Int} (h : x % 256 = y % 256) : byt x = byt y := by unfold byt; rw [h]

theorem tmod_neg (x b : Int) (hx : x < 0) (hb : 0 < b) : -b < x.tmod b ∧ x.tmod b ≤ 0 ∧ (x.tmod b = x % b ∧ x % b = 0 ∨ x.tmod b = x % b - b) := by
  have h0 := Int.emod_nonneg x (show b ≠ 0 by omega)
  have h1 := Int.emod_lt_of_pos x hb
  rw [Int.tmod_eq_emod]
  by_cases hd : b ∣ x
  · rw [if_pos (.inr hd)]
    have := Int.emod_eq_zero_of_dvd hd
    omega
  · rw [if_neg (by rintro (h | h); omega; exact hd h)]
    have hne : x % b ≠ 0 := fun h => hd (Int.dvd_of_emod_eq_zero h)
    omega

theorem own_empty (w : World) (e : TypeId) : (w.alloc (.cells #[] e)).ownsRow w.heap.size e 1 (.slice (some ⟨w.heap.size, 0, none⟩) 0 0) 0 (bc []) :=
  World.ownsRow_lit (base := w.heap.size) w #[] 0 (Nat.le_refl _) (by unfold maxLen; omega) rfl

set_option maxRecDepth 100000 in
set_option maxHeartbeats 400000 in
theorem rByte_any (w : World) (B : Nat) (A : Option Addr) (n c : Nat) (l : List UInt8) (x : Int) (h : Rd w B A n l) (hB : B ≤ w.heap.size) (hl : l.length ≤ 1000000) (x0 : -9223372036854775808 ≤ x) (x1 : x ≤ 9223372036854775807) :
    Calls Try.prog 25 #[.slice A n c, .int .i64 x] w (OutO w.heap.size w (l ++ [byt x])) := by
  obtain ⟨i0, hi, hz, hs, hb⟩ := info_parts Try.infoB
  have hn : n ≤ 1000000 := by have := h.1; omega
  have H := Lib.hid h
  clear h hl
  have hba : Below w.heap.size w (w.alloc (.cells #[] 5)) := (Below.refl _ _).alloc (Nat.le_refl _) _
  by_cases hx : 0 ≤ x
  · go_enter Try.func25, Try.ntmps25
    go_wp2_with (first
      | (at_builtin; refine wpList_app _ rfl (.tmp 12) (.tmp 13) 22 rfl w.heap.size 5 i0 Try.underlying22 hi hz hs hb _ 0 [] rfl (own_empty w _) B A n c l rfl (H.out.below (hba.mono hB)) (by omega) (by simp) ?_; intro A2 c2 w2 ho2 hg2; have hb2 := hba.grown hg2 (by simp) (by simp [Act.eval, Value.ownBlock]); have hs2 := hb2.size; rw [List.nil_append, Nat.zero_add] at ho2; have H2 := Lib.hid ho2; clear ho2 hg2)
      | (at_builtin; refine wpList_app _ rfl (.tmp 14) (.tmp 17) 22 rfl w.heap.size 5 i0 Try.underlying22 hi hz hs hb _ n l rfl (H2.out.alloc _) (w2.heap.size + 1) (some ⟨w2.heap.size, 0, none⟩) 1 1 [byt x] rfl (Rd.newOf w2 _ _ _ ?_) (by omega) (by simp; omega) ?_))
    · exact byt_val x
    · intro A3 c3 w3 ho3 hg3
      have H3 := Lib.hid ho3
      clear ho3
      go_wp2_with fail
      go_ret
      exact ⟨A3, _, c3, rfl, H3.out, (hb2.alloc hs2 _).grown hg3 (by simp; omega) (own_from H2.out)⟩
  · obtain ⟨t0, t1, ht⟩ := tmod_neg x 256 (by omega) (by omega)
    have HT := Lib.hid ht
    clear ht
    by_cases hm : 0 ≤ x.tmod 256
    all_goals
      go_enter Try.func25, Try.ntmps25
      go_wp2_with (first
        | (at_builtin; refine wpList_app _ rfl (.tmp 12) (.tmp 13) 22 rfl w.heap.size 5 i0 Try.underlying22 hi hz hs hb _ 0 [] rfl (own_empty w _) B A n c l rfl (H.out.below (hba.mono hB)) (by omega) (by simp) ?_; intro A2 c2 w2 ho2 hg2; have hb2 := hba.grown hg2 (by simp) (by simp [Act.eval, Value.ownBlock]); have hs2 := hb2.size; rw [List.nil_append, Nat.zero_add] at ho2; have H2 := Lib.hid ho2; clear ho2 hg2)
        | (at_builtin; refine wpList_app _ rfl (.tmp 14) (.tmp 17) 22 rfl w.heap.size 5 i0 Try.underlying22 hi hz hs hb _ n l rfl (H2.out.alloc _) (w2.heap.size + 1) (some ⟨w2.heap.size, 0, none⟩) 1 1 [byt x] rfl (Rd.newOf w2 _ _ _ ?_) (by omega) (by simp; omega) ?_))
      · have h5 := HT.out
        rw [byt_val]
        omega
      · intro A3 c3 w3 ho3 hg3
        have H3 := Lib.hid ho3
        clear ho3
        go_wp2_with fail
        go_ret
        exact ⟨A3, _, c3, rfl, H3.out, (hb2.alloc hs2 _).grown hg3 (by simp; omega) (own_from H2.out)⟩

/-- a value of 16 bits -/
def w16 (x : Int) : Int := (x + 32768) % 65536 - 32768

theorem ret_i64 {a b : Int} (h : a = b) : Ending.returned (.int .i64 a) = .returned (.int .i64 b) := by rw [h]

theorem w16_bounds (x : Int) : -32768 ≤ w16 x ∧ w16 x ≤ 32767 := by unfold w16; omega

theorem beL2 (x : Int) : beL 2 x = [byt (x / 256), byt x] := by
  show [byt (x / 2 ^ 8), byt (x / 2 ^ 0)] = _
  simp

theorem beL4 (x : Int) : beL 4 x = [byt (x / 16777216), byt (x / 65536), byt (x / 256), byt x] := by
  show [byt (x / 2 ^ 24), byt (x / 2 ^ 16), byt (x / 2 ^ 8), byt (x / 2 ^ 0)] = _
  simp

theorem beL8 (x : Int) : beL 8 x = beL 4 (x / 4294967296) ++ beL 4 x := by
  show [byt (x / 2 ^ 56), byt (x / 2 ^ 48), byt (x / 2 ^ 40), byt (x / 2 ^ 32), byt (x / 2 ^ 24), byt (x / 2 ^ 16), byt (x / 2 ^ 8), byt (x / 2 ^ 0)] = _
  rw [beL4, beL4]
  simp only [List.cons_append, List.nil_append]
  have h7 : (x / 4294967296) / 16777216 = x / 2 ^ 56 := by omega
  have h6 : (x / 4294967296) / 65536 = x / 2 ^ 48 := by omega
  have h5 : (x / 4294967296) / 256 = x / 2 ^ 40 := by omega
  rw [h7, h6, h5]
  simp

theorem beL4_mod (x : Int) : beL 4 (x % 4294967296) = beL 4 x := by
  rw [beL4, beL4, byt_congr (x := x % 4294967296 / 16777216) (y := x / 16777216) (by omega), byt_congr (x := x % 4294967296 / 65536) (y := x / 65536) (by omega),
    byt_congr (x := x % 4294967296 / 256) (y := x / 256) (by omega), byt_congr (x := x % 4294967296) (y := x) (by omega)]

end Go.Proofs.Ytpenilbnhhcmiaa
