/- The walks of the statements WirePuts and WireInts: the contracts of all that they call, one behind the other. -/
import Derived.Test.YtacklmfplpgkdaaAwake
import Derived.Test.YtacklmfplpgkdaaPutsR2
namespace Go.Proofs.Ytacklmfplpgkdaa
open Go.RowKit

theorem beL1 (x : Int) : beL 1 x = [byt x] := by
  show [byt (x / 2 ^ 0)] = _
  simp

set_option maxRecDepth 100000 in
set_option maxHeartbeats 4000000 in
theorem puts_walk (A : Option Addr) (n c : Nat) (l : List UInt8) (x u : Int) (s : ByteArray) (w : World) (h : Rd w w.heap.size A n l) (x0 : -9223372036854775808 ≤ x) (x1 : x ≤ 9223372036854775807) (u0 : 0 ≤ u) (u1 : u ≤ 18446744073709551615) (hs : s.size ≤ maxLen) :
    Calls Try.prog 3 #[.slice A n c, .int .i64 x, .int .u64 u, .string s] w fun e w' => e = .returned (.bool true) ∧ Below w.heap.size w w' := by
  have hs' : (s.size : Int) ≤ 9223372036854775807 := by unfold maxLen at hs; omega
  have hl := h.1
  have HL := Lib.hid hl
  clear hl hs
  have H := Lib.hid h
  clear h
  by_cases hn : (n : Int) ≤ 300
  · by_cases hs3 : (s.size : Int) ≤ 300
    · have hl1 : l.length ≤ 300 := by have := HL.out; omega
      go_enter Try.func3, Try.ntmps3
      have hb0 : Below w.heap.size w w := Below.refl _ _
      go_wp2_with fail
      refine (wByte_any _ w.heap.size A n c l x (H.out.below hb0) hb0.size (by omega) x0 x1).mono ?_
      rintro e w1 ⟨A1, n1, c1, rfl, ho1, hc1⟩
      have hs1 := hb0.size
      have hb1 := hb0.trans (hc1.mono hs1)
      have H1 := Lib.hid ho1
      clear ho1
      go_wp2_with fail
      refine (rByte_any _ w.heap.size A n c l x (H.out.below hb1) hb1.size (by omega) x0 x1).mono ?_
      rintro e w2 ⟨A2, n2, c2, rfl, ho2, hc2⟩
      have hs2 := hb1.size
      have hb2 := hb1.trans (hc2.mono hs2)
      have H2 := Lib.hid ho2
      clear ho2
      go_wp2_with fail
      refine (bytes_same _ _ _ _ _ _ _ _ _ _ _ ((Rd.of_own H1.out).below hc2) (Rd.of_own H2.out) (by rw [beL1])).mono ?_
      rintro e w0 ⟨rfl, rfl⟩
      clear H1 H2 hc1 hc2 hs1 hs2 hb1
      go_wp2_with fail
      refine (wWord_any _ w.heap.size A n c l x (H.out.below hb2) hb2.size (by omega) x0 x1).mono ?_
      rintro e w3 ⟨A3, n3, c3, rfl, ho3, hc3⟩
      have hs3 := hb2.size
      have hb3 := hb2.trans (hc3.mono hs3)
      have H3 := Lib.hid ho3
      clear ho3
      go_wp2_with fail
      refine (rWord_any _ w.heap.size A n c l x (H.out.below hb3) hb3.size (by omega) x0 x1).mono ?_
      rintro e w4 ⟨A4, n4, c4, rfl, ho4, hc4⟩
      have hs4 := hb3.size
      have hb4 := hb3.trans (hc4.mono hs4)
      have H4 := Lib.hid ho4
      clear ho4
      go_wp2_with fail
      refine (bytes_same _ _ _ _ _ _ _ _ _ _ _ ((Rd.of_own H3.out).below hc4) (Rd.of_own H4.out) (rfl)).mono ?_
      rintro e w0 ⟨rfl, rfl⟩
      clear H3 H4 hc3 hc4 hs3 hs4 hb2 hb3
      go_wp2_with fail
      refine (wLong_any _ w.heap.size A n c l _ (H.out.below hb4) hb4.size (by omega) (by omega) (by omega)).mono ?_
      rintro e w5 ⟨A5, n5, c5, rfl, ho5, hc5⟩
      have hs5 := hb4.size
      have hb5 := hb4.trans (hc5.mono hs5)
      have H5 := Lib.hid ho5
      clear ho5
      go_wp2_with fail
      refine (rLong_any _ w.heap.size A n c l _ (H.out.below hb5) hb5.size (by omega) (by omega) (by omega)).mono ?_
      rintro e w6 ⟨A6, n6, c6, rfl, ho6, hc6⟩
      have hs6 := hb5.size
      have hb6 := hb5.trans (hc6.mono hs6)
      have H6 := Lib.hid ho6
      clear ho6
      go_wp2_with fail
      refine (bytes_same _ _ _ _ _ _ _ _ _ _ _ ((Rd.of_own H5.out).below hc6) (Rd.of_own H6.out) (rfl)).mono ?_
      rintro e w0 ⟨rfl, rfl⟩
      clear H5 H6 hc5 hc6 hs5 hs6 hb4 hb5
      go_wp2_with fail
      refine (wHuge_any _ w.heap.size A n c l u (H.out.below hb6) hb6.size (by omega) u0 u1).mono ?_
      rintro e w7 ⟨A7, n7, c7, rfl, ho7, hc7⟩
      have hs7 := hb6.size
      have hb7 := hb6.trans (hc7.mono hs7)
      have H7 := Lib.hid ho7
      clear ho7
      go_wp2_with fail
      refine (rHuge_any _ w.heap.size A n c l u (H.out.below hb7) hb7.size (by omega) u0 u1).mono ?_
      rintro e w8 ⟨A8, n8, c8, rfl, ho8, hc8⟩
      have hs8 := hb7.size
      have hb8 := hb7.trans (hc8.mono hs8)
      have H8 := Lib.hid ho8
      clear ho8
      go_wp2_with fail
      refine (bytes_same _ _ _ _ _ _ _ _ _ _ _ ((Rd.of_own H7.out).below hc8) (Rd.of_own H8.out) (rfl)).mono ?_
      rintro e w0 ⟨rfl, rfl⟩
      clear H7 H8 hc7 hc8 hs7 hs8 hb6 hb7
      go_wp2_with fail
      refine (wSize_any _ w.heap.size A n c l x (H.out.below hb8) hb8.size (by omega) x0 x1).mono ?_
      rintro e w9 ⟨A9, n9, c9, rfl, ho9, hc9⟩
      have hs9 := hb8.size
      have hb9 := hb8.trans (hc9.mono hs9)
      have H9 := Lib.hid ho9
      clear ho9
      go_wp2_with fail
      refine (rSize_any _ w.heap.size A n c l x (H.out.below hb9) hb9.size (by omega) x0 x1).mono ?_
      rintro e w10 ⟨A10, n10, c10, rfl, ho10, hc10⟩
      have hs10 := hb9.size
      have hb10 := hb9.trans (hc10.mono hs10)
      have H10 := Lib.hid ho10
      clear ho10
      go_wp2_with fail
      refine (bytes_same _ _ _ _ _ _ _ _ _ _ _ ((Rd.of_own H9.out).below hc10) (Rd.of_own H10.out) (rfl)).mono ?_
      rintro e w0 ⟨rfl, rfl⟩
      clear H9 H10 hc9 hc10 hs9 hs10 hb8 hb9
      go_wp2_with fail
      refine (wText_any _ w.heap.size A n c l s (H.out.below hb10) hb10.size (by omega) (by omega)).mono ?_
      rintro e w11 ⟨A11, n11, c11, rfl, ho11, hc11⟩
      have hs11 := hb10.size
      have hb11 := hb10.trans (hc11.mono hs11)
      have H11 := Lib.hid ho11
      clear ho11
      go_wp2_with fail
      refine (rText_any _ w.heap.size A n c l s (H.out.below hb11) hb11.size (by omega) (by omega)).mono ?_
      rintro e w12 ⟨A12, n12, c12, rfl, ho12, hc12⟩
      have hs12 := hb11.size
      have hb12 := hb11.trans (hc12.mono hs12)
      have H12 := Lib.hid ho12
      clear ho12
      go_wp2_with fail
      refine (bytes_same _ _ _ _ _ _ _ _ _ _ _ ((Rd.of_own H11.out).below hc12) (Rd.of_own H12.out) (rfl)).mono ?_
      rintro e w0 ⟨rfl, rfl⟩
      clear H11 H12 hc11 hc12 hs11 hs12 hb10 hb11
      go_wp2_with fail
      refine (awake_any _).mono ?_
      rintro e w0 ⟨rfl, hc⟩
      go_wp2_with fail
      go_ret
      exact ⟨rfl, hb12.trans (hc.mono hb12.size)⟩
    · go_enter Try.func3, Try.ntmps3
      go_wp2_with fail
      refine (awake_any _).mono ?_
      rintro e w0 ⟨rfl, hc⟩
      go_wp2_with fail
      go_ret
      exact ⟨rfl, hc⟩
  · go_enter Try.func3, Try.ntmps3
    go_wp2_with fail
    refine (awake_any _).mono ?_
    rintro e w0 ⟨rfl, hc⟩
    go_wp2_with fail
    go_ret
    exact ⟨rfl, hc⟩

set_option maxRecDepth 100000 in
set_option maxHeartbeats 4000000 in
theorem ints_walk (A A' : Option Addr) (n c m c' : Nat) (l : List UInt8) (zs : List Int) (w : World) (h : Rd w w.heap.size A n l) (h' : RdI w w.heap.size A' m zs) :
    Calls Try.prog 4 #[.slice A n c, .slice A' m c'] w fun e w' => e = .returned (.bool true) ∧ Below w.heap.size w w' := by
  have hl := h.1
  have HL := Lib.hid hl
  clear hl
  have H := Lib.hid h
  clear h
  have HI := Lib.hid h'
  clear h'
  by_cases hn : (n : Int) ≤ 300
  · by_cases hs3 : (m : Int) ≤ 300
    · have hl1 : l.length ≤ 300 := by have := HL.out; omega
      go_enter Try.func4, Try.ntmps4
      have hb0 : Below w.heap.size w w := Below.refl _ _
      go_wp2_with fail
      refine (wInts_any _ w.heap.size w.heap.size A A' n c m c' l zs H.out (Nat.le_refl _) HI.out (Nat.le_refl _) (by omega) (by omega)).mono ?_
      rintro e w1 ⟨A1, n1, c1, rfl, ho1, hb1⟩
      have H1 := Lib.hid ho1
      clear ho1
      go_wp2_with fail
      refine (rInts_any _ w.heap.size w.heap.size A A' n c m c' l zs (H.out.below hb1) hb1.size (HI.out.below hb1) hb1.size (by omega) (by omega)).mono ?_
      rintro e w2 ⟨A2, n2, c2, rfl, ho2, hc2⟩
      have hs2 := hb1.size
      have hb2 := hb1.trans (hc2.mono hs2)
      have H2 := Lib.hid ho2
      clear ho2
      go_wp2_with fail
      refine (bytes_same _ _ _ _ _ _ _ _ _ _ _ ((Rd.of_own H1.out).below hc2) (Rd.of_own H2.out) rfl).mono ?_
      rintro e w0 ⟨rfl, rfl⟩
      go_wp2_with fail
      refine (awake_any _).mono ?_
      rintro e w0 ⟨rfl, hc⟩
      go_wp2_with fail
      go_ret
      exact ⟨rfl, hb2.trans (hc.mono hb2.size)⟩
    · go_enter Try.func4, Try.ntmps4
      go_wp2_with fail
      refine (awake_any _).mono ?_
      rintro e w0 ⟨rfl, hc⟩
      go_wp2_with fail
      go_ret
      exact ⟨rfl, hc⟩
  · go_enter Try.func4, Try.ntmps4
    go_wp2_with fail
    refine (awake_any _).mono ?_
    rintro e w0 ⟨rfl, hc⟩
    go_wp2_with fail
    go_ret
    exact ⟨rfl, hc⟩

end Go.Proofs.Ytacklmfplpgkdaa
