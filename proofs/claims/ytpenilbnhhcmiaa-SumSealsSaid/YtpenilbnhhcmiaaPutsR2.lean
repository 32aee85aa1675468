/- Contracts of the reference's functions that append: Long, Huge, Size, Text, Ints. -/
import Derived.Test.YtpenilbnhhcmiaaPutsR
namespace Go.Proofs.Ytpenilbnhhcmiaa
open Go.RowKit

set_option maxRecDepth 100000 in
set_option maxHeartbeats 800000 in
theorem rLong_any (w : World) (B : Nat) (A : Option Addr) (n c : Nat) (l : List UInt8) (x : Int) (h : Rd w B A n l) (hB : B ≤ w.heap.size) (hl : l.length ≤ 900000) (x0 : 0 ≤ x) (x1 : x ≤ 4294967295) :
    Calls Try.prog 21 #[.slice A n c, .int .u32 x] w (OutO w.heap.size w (l ++ beL 4 x)) := by
  have H := Lib.hid h
  clear h
  go_enter Try.func21, Try.ntmps21
  go_wp2_with fail
  refine (rByte_any w B A n c l _ H.out hB (by omega) (by omega) (by omega)).mono ?_
  rintro e w1 ⟨A1, n1, c1, rfl, ho1, hb1⟩
  have H1 := Lib.hid ho1
  clear ho1
  go_wp2_with fail
  refine (rByte_any w1 w1.heap.size A1 n1 c1 _ _ (Rd.of_own H1.out) (Nat.le_refl _) (by simp; omega) (by omega) (by omega)).mono ?_
  intro e w2 ho2
  obtain ⟨A2, n2, c2, rfl, ho2, hb2⟩ := OutO.after hb1 (Nat.le_refl _) ho2
  have H2 := Lib.hid ho2
  clear ho2
  go_wp2_with fail
  refine (rByte_any w2 w2.heap.size A2 n2 c2 _ _ (Rd.of_own H2.out) (Nat.le_refl _) (by simp; omega) (by omega) (by omega)).mono ?_
  intro e w3 ho3
  obtain ⟨A3, n3, c3, rfl, ho3, hb3⟩ := OutO.after hb2 (Nat.le_refl _) ho3
  have H3 := Lib.hid ho3
  clear ho3
  go_wp2_with fail
  refine (rByte_any w3 w3.heap.size A3 n3 c3 _ _ (Rd.of_own H3.out) (Nat.le_refl _) (by simp; omega) (by omega) (by omega)).mono ?_
  intro e w4 ho4
  obtain ⟨A4, n4, c4, rfl, ho4, hb4⟩ := OutO.after hb3 (Nat.le_refl _) ho4
  have H4 := Lib.hid ho4
  clear ho4
  go_wp2_with fail
  go_ret
  refine ⟨A4, n4, c4, rfl, ?_, hb4⟩
  have h6 := H4.out
  rw [beL4, byt_congr (x := x / 65536) (y := x / 65536 % 256) (by omega), byt_congr (x := x / 256) (y := x / 256 % 256) (by omega), byt_congr (x := x) (y := x % 256) (by omega)]
  simp only [List.append_assoc, List.cons_append, List.nil_append] at h6
  exact h6

/-- what a string's conversion to bytes lays reads as the string -/
theorem Rd.conv (w : World) (s : ByteArray) (cap : Nat) (t : TypeId) (fr : Nat × Nat) : Rd (w.alloc (.cells (bytesRow s cap) t fr)) (w.heap.size + 1) (some ⟨w.heap.size, 0, none⟩) s.size s.data.toList := by
  refine ⟨by rw [Array.length_toList]; rfl, fun _ => ⟨_, rfl, Nat.lt_succ_self _, fun j hj => ?_⟩⟩
  rw [Array.length_toList] at hj
  rw [Addr.add_lit, Nat.zero_add, World.cell?_alloc_mark, bytesRow_at _ _ _ hj]
  simp

end Go.Proofs.Ytpenilbnhhcmiaa
