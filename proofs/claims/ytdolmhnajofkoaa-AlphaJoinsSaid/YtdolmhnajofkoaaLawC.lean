/- The walk of the statement AlphaBack. -/
import Derived.Test.YtdolmhnajofkoaaLawA
namespace Go.Proofs.Ytdolmhnajofkoaa
open Go.RowKit

theorem fit_cd (l : List UInt8) : FitI (cdZ l) := by unfold cdZ; split; exact codes_fit _; exact FitI.nil

theorem cd_len (l : List UInt8) : (cdZ l).length ≤ 3 * l.length := by
  unfold cdZ
  split
  · exact (codes_len l).2
  · simp

set_option maxRecDepth 100000 in
set_option maxHeartbeats 3200000 in
/-- the second half: numbers for which there is a text, or not -/
theorem back_tail (s : ByteArray) (A : Option Addr) (n c : Nat) (zs : List Int) (w : World) (h : RdI w w.heap.size A n zs) (hc : n ≤ c) (hs : (s.size : Int) ≤ 1100) (hn : (n : Int) ≤ 1100) :
    Calls Try.prog 6 #[.string s, .slice A n c] w fun e w' => e = .returned (.bool true) ∧ Below w.heap.size w w' := by
  have H := Lib.hid h
  have HCC := Lib.hid hc
  clear h hc
  have hsl : s.data.toList.length = s.size := by rw [Array.length_toList]; rfl
  by_cases ht : textB s.data.toList = true
  · have e1 : Hid (cdZ s.data.toList = codes s.data.toList) := Lib.hid (by unfold cdZ; rw [if_pos ht])
    have e2 : Hid (cdE s.data.toList = 0) := Lib.hid (by unfold cdE; rw [if_pos ht])
    have e3 : Hid (costL s.data.toList = (codes s.data.toList).length) := Lib.hid (costL_text (textB_all ht))
    have e4 : Hid (TextRel (codes s.data.toList) s.data.toList 0) := Lib.hid (.inl ⟨ht, rfl, rfl⟩)
    have e5 := Lib.hid (codes_len s.data.toList).2
    have HSL := Lib.hid hsl
    clear ht hsl
    go_enter Try.func6, Try.ntmps6
    go_wp2_with fail
    refine (codes_any w s (by omega)).mono ?_
    rintro e w1 ⟨A1, n1, c1, rfl, ho1, hb1⟩
    rw [e1.out] at ho1
    rw [e2.out]
    have hn1 : n1 ≤ 10000 := by have := ownI_len ho1; have := e5.out; have := HSL.out; omega
    have HN1 := Lib.hid (ownI_len ho1)
    have HC1 := Lib.hid (own_cap ho1).1
    have R1 := Lib.hid (RdI.of_iv ho1 (codes_fit _))
    have HB1 := Lib.hid hb1
    clear ho1 hb1
    go_wp2_with fail
    refine (textof_any w1 A1 n1 c1 _ R1.out (by omega) HC1.out).mono ?_
    rintro e w2 ⟨t, er, hT, rfl, hb2⟩
    obtain ⟨rfl, rfl⟩ := hT.unique e4.out
    rw [bs_data]
    have HB2 := Lib.hid (HB1.out.trans (hb2.mono HB1.out.size))
    clear hT hb2
    go_wp2_with fail
    refine (cost_any _ s (by omega)).mono ?_
    rintro e w3 ⟨rfl, hb3⟩
    rw [e3.out, HN1.out]
    have HB3 := Lib.hid (HB2.out.trans (hb3.mono HB2.out.size))
    clear hb3 HB2
    go_wp2_with fail
    refine (textof_any w3 A n c zs ((H.out.below HB3.out).more HB3.out.size) (by omega) HCC.out).mono ?_
    rintro e w4 ⟨t, er, hT, rfl, hb4⟩
    have HB4 := Lib.hid (HB3.out.trans (hb4.mono HB3.out.size))
    clear hb4 HB3
    rcases hT with ⟨h1, h2, rfl⟩ | ⟨rfl, rfl, _⟩
    · have HC : Hid (cdZ (bs t).data.toList = zs) := Lib.hid (by rw [data_bs]; unfold cdZ; rw [if_pos h1, h2])
      have HE : Hid (cdE (bs t).data.toList = 0) := Lib.hid (by rw [data_bs]; unfold cdE; rw [if_pos h1])
      have HS : Hid (((bs t).size : Int) ≤ 100000) := Lib.hid (by
        have h3 := (codes_len t).1
        have h4 := H.out.1
        rw [h2] at h3
        rw [bs_size]; omega)
      have HQ := Lib.hid (eqI_self zs)
      clear h1 h2
      go_wp2_with fail
      refine (codes_any w4 (bs t) HS.out).mono ?_
      rintro e w5 ⟨A5, n5, c5, rfl, ho5, hb5⟩
      rw [HC.out] at ho5
      rw [HE.out]
      have hn5 : n5 ≤ 1100 := by have := ownI_len ho5; have := H.out.1; omega
      have R5 := Lib.hid (RdI.of_iv ho5 H.out.2.2)
      have HB5 := Lib.hid (HB4.out.trans (hb5.mono HB4.out.size))
      clear ho5 hb5
      go_wp2_with fail
      refine (same6_any _ _ _ A5 A n5 n c5 c _ _ R5.out (H.out.below HB5.out) (by omega) (by omega)).mono ?_
      rintro e w6 ⟨rfl, hb6⟩
      rw [HQ.out]
      have HB6 := Lib.hid (HB5.out.trans (hb6.mono HB5.out.size))
      clear hb6
      go_wp2_with fail
      refine (awake_any _).mono ?_
      rintro e w7 ⟨rfl, hb7⟩
      go_wp2_with fail
      go_ret
      exact ⟨rfl, HB6.out.trans (hb7.mono HB6.out.size)⟩
    · have hbs : bs [] = ⟨#[]⟩ := rfl
      rw [hbs]
      clear hbs
      go_wp2_with fail
      refine (awake_any _).mono ?_
      rintro e w7 ⟨rfl, hb7⟩
      go_wp2_with fail
      go_ret
      exact ⟨rfl, HB4.out.trans (hb7.mono HB4.out.size)⟩
  · rw [Bool.not_eq_true] at ht
    have e1 : Hid (cdZ s.data.toList = []) := Lib.hid (by unfold cdZ; rw [ht]; rfl)
    have e2 : Hid (cdE s.data.toList = 13) := Lib.hid (by unfold cdE; rw [ht]; rfl)
    clear ht hsl
    go_enter Try.func6, Try.ntmps6
    go_wp2_with fail
    refine (codes_any w s (by omega)).mono ?_
    rintro e w1 ⟨A1, n1, c1, rfl, ho1, hb1⟩
    rw [e2.out]
    have HB3 := Lib.hid hb1
    clear ho1 hb1
    go_wp2_with fail
    refine (textof_any w1 A n c zs ((H.out.below HB3.out).more HB3.out.size) (by omega) HCC.out).mono ?_
    rintro e w4 ⟨t, er, hT, rfl, hb4⟩
    have HB4 := Lib.hid (HB3.out.trans (hb4.mono HB3.out.size))
    clear hb4 HB3
    rcases hT with ⟨h1, h2, rfl⟩ | ⟨rfl, rfl, _⟩
    · have HC : Hid (cdZ (bs t).data.toList = zs) := Lib.hid (by rw [data_bs]; unfold cdZ; rw [if_pos h1, h2])
      have HE : Hid (cdE (bs t).data.toList = 0) := Lib.hid (by rw [data_bs]; unfold cdE; rw [if_pos h1])
      have HS : Hid (((bs t).size : Int) ≤ 100000) := Lib.hid (by
        have h3 := (codes_len t).1
        have h4 := H.out.1
        rw [h2] at h3
        rw [bs_size]; omega)
      have HQ := Lib.hid (eqI_self zs)
      clear h1 h2
      go_wp2_with fail
      refine (codes_any w4 (bs t) HS.out).mono ?_
      rintro e w5 ⟨A5, n5, c5, rfl, ho5, hb5⟩
      rw [HC.out] at ho5
      rw [HE.out]
      have hn5 : n5 ≤ 1100 := by have := ownI_len ho5; have := H.out.1; omega
      have R5 := Lib.hid (RdI.of_iv ho5 H.out.2.2)
      have HB5 := Lib.hid (HB4.out.trans (hb5.mono HB4.out.size))
      clear ho5 hb5
      go_wp2_with fail
      refine (same6_any _ _ _ A5 A n5 n c5 c _ _ R5.out (H.out.below HB5.out) (by omega) (by omega)).mono ?_
      rintro e w6 ⟨rfl, hb6⟩
      rw [HQ.out]
      have HB6 := Lib.hid (HB5.out.trans (hb6.mono HB5.out.size))
      clear hb6
      go_wp2_with fail
      refine (awake_any _).mono ?_
      rintro e w7 ⟨rfl, hb7⟩
      go_wp2_with fail
      go_ret
      exact ⟨rfl, HB6.out.trans (hb7.mono HB6.out.size)⟩
    · have hbs : bs [] = ⟨#[]⟩ := rfl
      rw [hbs]
      clear hbs
      go_wp2_with fail
      refine (awake_any _).mono ?_
      rintro e w7 ⟨rfl, hb7⟩
      go_wp2_with fail
      go_ret
      exact ⟨rfl, HB4.out.trans (hb7.mono HB4.out.size)⟩

set_option maxRecDepth 100000 in
set_option maxHeartbeats 1600000 in
theorem back_walk (s : ByteArray) (A : Option Addr) (n c : Nat) (zs : List Int) (w : World) (h : RdI w w.heap.size A n zs) (hc : n ≤ c) :
    Calls Try.prog 6 #[.string s, .slice A n c] w fun e w' => e = .returned (.bool true) ∧ Below w.heap.size w w' := by
  by_cases hs : (s.size : Int) ≤ 1100
  · by_cases hn : (n : Int) ≤ 1100
    · exact back_tail s A n c zs w h hc hs hn
    · clear h
      go_enter Try.func6, Try.ntmps6
      go_wp2_with fail
      refine (awake_any _).mono ?_
      rintro e w4 ⟨rfl, hb4⟩
      go_wp2_with fail
      go_ret
      exact ⟨rfl, hb4⟩
  · clear h
    go_enter Try.func6, Try.ntmps6
    go_wp2_with fail
    refine (awake_any _).mono ?_
    rintro e w4 ⟨rfl, hb4⟩
    go_wp2_with fail
    go_ret
    exact ⟨rfl, hb4⟩

end Go.Proofs.Ytdolmhnajofkoaa
