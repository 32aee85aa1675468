/- The walks of the statements AlphaCodes and AlphaTexts. -/
import Derived.Test.YtdolmhnajofkoaaAwake
namespace Go.Proofs.Ytdolmhnajofkoaa
open Go.RowKit

theorem eqI_self (zs : List Int) : eqI zs zs = true := by unfold eqI; simp

set_option maxRecDepth 100000 in
set_option maxHeartbeats 1600000 in
theorem codes_walk (s : ByteArray) (w : World) :
    Calls Try.prog 3 #[.string s] w fun e w' => e = .returned (.bool true) ∧ Below w.heap.size w w' := by
  by_cases hn : (s.size : Int) ≤ 1100
  · have ES := Lib.hid (eqI_self (cdZ s.data.toList))
    go_enter Try.func3, Try.ntmps3
    go_wp2_with fail
    refine (codes_any w s (by omega)).mono ?_
    rintro e w1 ⟨A1, n1, c1, rfl, ho1, hb1⟩
    have hl : (cdZ s.data.toList).length ≤ 10000 := by
      have h1 := (codes_len s.data.toList).2
      have h2 : s.data.toList.length = s.size := by rw [Array.length_toList]; rfl
      unfold cdZ
      split
      · omega
      · simp
    have HL := Lib.hid hl
    have hn1 : n1 ≤ 10000 := by have := ownI_len ho1; omega
    have HO1 := Lib.hid ho1
    clear ho1 hl
    go_wp2_with fail
    refine (rcodes_any w1 s (by omega)).mono ?_
    rintro e w2 ⟨A2, n2, c2, rfl, ho2, hb2⟩
    have hn2 : n2 ≤ 10000 := by have := ownI_len ho2; have := HL.out; omega
    have HF : Hid (FitI (cdZ s.data.toList)) := Lib.hid (by unfold cdZ; split; exact codes_fit _; exact FitI.nil)
    have R1 := Lib.hid (RdI.of_iv (own_below HO1.out hb2) HF.out)
    have R2 := Lib.hid (RdI.of_iv ho2 HF.out)
    have HB2 := Lib.hid (hb1.trans (hb2.mono hb1.size))
    clear ho2 hb1 hb2 HO1
    go_wp2_with fail
    refine (same6_any _ _ _ A1 A2 n1 n2 c1 c2 _ _ R1.out R2.out (by omega) (by omega)).mono ?_
    rintro e w3 ⟨rfl, hb3⟩
    rw [ES.out]
    have HB3 := Lib.hid (HB2.out.trans (hb3.mono HB2.out.size))
    clear hb3 HB2
    go_wp2_with fail
    refine (cost_any _ s (by omega)).mono ?_
    rintro e w4 ⟨rfl, hb4⟩
    have HB4 := Lib.hid (HB3.out.trans (hb4.mono HB3.out.size))
    clear hb4 HB3
    go_wp2_with fail
    refine (rcost_any _ s (by omega)).mono ?_
    rintro e w5 ⟨rfl, hb5⟩
    have HB5 := Lib.hid (HB4.out.trans (hb5.mono HB4.out.size))
    clear hb5 HB4
    go_wp2_with fail
    refine (awake_any _).mono ?_
    rintro e w6 ⟨rfl, hb6⟩
    go_wp2_with fail
    go_ret
    exact ⟨rfl, HB5.out.trans (hb6.mono HB5.out.size)⟩
  · go_enter Try.func3, Try.ntmps3
    go_wp2_with fail
    refine (awake_any _).mono ?_
    rintro e w4 ⟨rfl, hb4⟩
    go_wp2_with fail
    go_ret
    exact ⟨rfl, hb4⟩

set_option maxRecDepth 100000 in
set_option maxHeartbeats 1600000 in
theorem texts_walk (A : Option Addr) (n c : Nat) (zs : List Int) (w : World) (h : RdI w w.heap.size A n zs) (hc : n ≤ c) :
    Calls Try.prog 4 #[.slice A n c] w fun e w' => e = .returned (.bool true) ∧ Below w.heap.size w w' := by
  have HCC := Lib.hid hc
  clear hc
  by_cases hn : (n : Int) ≤ 1100
  · have H := Lib.hid h
    clear h
    go_enter Try.func4, Try.ntmps4
    go_wp2_with fail
    refine (textof_any w A n c zs H.out (by omega) HCC.out).mono ?_
    rintro e w1 ⟨t, er, hT, rfl, hb1⟩
    have HT := Lib.hid hT
    clear hT
    go_wp2_with fail
    refine (rtextof_any w1 A n c zs ((H.out.below hb1).more hb1.size) (by omega)).mono ?_
    rintro e w2 ⟨t', er', hT', rfl, hb2⟩
    obtain ⟨rfl, rfl⟩ := HT.out.unique hT'
    have HB2 := Lib.hid (hb1.trans (hb2.mono hb1.size))
    clear hT' hb1 hb2
    go_wp2_with fail
    refine (awake_any _).mono ?_
    rintro e w6 ⟨rfl, hb6⟩
    go_wp2_with fail
    go_ret
    exact ⟨rfl, HB2.out.trans (hb6.mono HB2.out.size)⟩
  · go_enter Try.func4, Try.ntmps4
    go_wp2_with fail
    refine (awake_any _).mono ?_
    rintro e w4 ⟨rfl, hb4⟩
    go_wp2_with fail
    go_ret
    exact ⟨rfl, hb4⟩

end Go.Proofs.Ytdolmhnajofkoaa
