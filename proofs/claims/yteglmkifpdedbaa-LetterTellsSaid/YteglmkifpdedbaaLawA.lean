/- The walks of the statements LetterCases and LetterTells. -/
import Derived.Test.YteglmkifpdedbaaAwake
import Derived.Test.YteglmkifpdedbaaTellsR
namespace Go.Proofs.Yteglmkifpdedbaa
open Go.RowKit

theorem lowB_size (s : ByteArray) : (lowB s).size = s.size := by
  rw [Lib.size_eq, Lib.size_eq]
  unfold lowB
  simp [lower]
theorem capB_size (s : ByteArray) : (capB s).size = s.size := by
  rw [Lib.size_eq, Lib.size_eq]
  unfold capB
  cases s.data.toList <;> simp [capL]
theorem lowB_lowB (s : ByteArray) : lowB (lowB s) = lowB s := by
  show (⟨(lower (lower s.data.toList)).toArray⟩ : ByteArray) = _
  rw [lower_lower]; rfl
theorem lowB_capB (s : ByteArray) : lowB (capB s) = lowB s := by
  show (⟨(lower (capL s.data.toList)).toArray⟩ : ByteArray) = _
  rw [lower_cap]; rfl

set_option maxRecDepth 100000 in
set_option maxHeartbeats 1600000 in
theorem cases_walk (s : ByteArray) (w : World) :
    Calls Try.prog 3 #[.string s] w fun e w' => e = .returned (.bool true) ∧ Below w.heap.size w w' := by
  by_cases hn : (s.size : Int) ≤ 4000
  · have S1 := Lib.hid (lowB_size s)
    have S2 := Lib.hid (capB_size s)
    have L1 := Lib.hid (lowB_lowB s)
    have L2 := Lib.hid (lowB_capB s)
    go_enter Try.func3, Try.ntmps3
    go_wp2_with fail
    refine (lower_any _ s (by omega)).mono ?_
    rintro e w1 ⟨rfl, hb1⟩
    go_wp2_with fail
    refine (cap_any _ s).mono ?_
    rintro e w2 ⟨rfl, hb2⟩
    have hb3 := hb1.trans (hb2.mono hb1.size)
    clear hb1 hb2
    go_wp2_with fail
    refine (rlower_any _ s (by omega)).mono ?_
    rintro e w3 ⟨rfl, hb4⟩
    have hb5 := hb3.trans (hb4.mono hb3.size)
    clear hb3 hb4
    go_wp2_with fail
    refine (rcap_any _ s (by omega)).mono ?_
    rintro e w4 ⟨rfl, hb6⟩
    have hb7 := hb5.trans (hb6.mono hb5.size)
    clear hb5 hb6
    go_wp2_with fail
    refine (lower_any _ (lowB s) (by rw [S1.out]; omega)).mono ?_
    rintro e w5 ⟨rfl, hb8⟩
    rw [L1.out]
    have hb9 := hb7.trans (hb8.mono hb7.size)
    clear hb7 hb8
    go_wp2_with fail
    refine (lower_any _ (capB s) (by rw [S2.out]; omega)).mono ?_
    rintro e w6 ⟨rfl, hb10⟩
    rw [L2.out]
    have hb11 := hb9.trans (hb10.mono hb9.size)
    clear hb9 hb10
    go_wp2_with fail
    refine (awake_any _).mono ?_
    rintro e w7 ⟨rfl, hb12⟩
    go_wp2_with fail
    go_ret
    exact ⟨rfl, hb11.trans (hb12.mono hb11.size)⟩
  · go_enter Try.func3, Try.ntmps3
    go_wp2_with fail
    refine (awake_any _).mono ?_
    rintro e w4 ⟨rfl, hb4⟩
    go_wp2_with fail
    go_ret
    exact ⟨rfl, hb4⟩

set_option maxRecDepth 100000 in
set_option maxHeartbeats 1600000 in
theorem tells_walk (s : ByteArray) (w : World) :
    Calls Try.prog 4 #[.string s] w fun e w' => e = .returned (.bool true) ∧ Below w.heap.size w w' := by
  by_cases hn : (s.size : Int) ≤ 4000
  · go_enter Try.func4, Try.ntmps4
    go_wp2_with fail
    refine (isName_any _ s (by omega)).mono ?_
    rintro e w1 ⟨rfl, hb1⟩
    go_wp2_with fail
    refine (rname_any _ s (by omega)).mono ?_
    rintro e w2 ⟨rfl, rfl⟩
    go_wp2_with fail
    refine (isWord_any _ s (by omega)).mono ?_
    rintro e w3 ⟨rfl, hb3⟩
    have hb4 := hb1.trans (hb3.mono hb1.size)
    clear hb1 hb3
    go_wp2_with fail
    refine (rword_any _ s (by omega)).mono ?_
    rintro e w2 ⟨rfl, rfl⟩
    go_wp2_with fail
    refine (isText_any _ s (by omega)).mono ?_
    rintro e w5 ⟨rfl, hb5⟩
    have hb6 := hb4.trans (hb5.mono hb4.size)
    clear hb4 hb5
    go_wp2_with fail
    refine (rtext_any _ s (by omega)).mono ?_
    rintro e w2 ⟨rfl, rfl⟩
    go_wp2_with fail
    refine (awake_any _).mono ?_
    rintro e w7 ⟨rfl, hb12⟩
    go_wp2_with fail
    go_ret
    exact ⟨rfl, hb6.trans (hb12.mono hb6.size)⟩
  · go_enter Try.func4, Try.ntmps4
    go_wp2_with fail
    refine (awake_any _).mono ?_
    rintro e w4 ⟨rfl, hb4⟩
    go_wp2_with fail
    go_ret
    exact ⟨rfl, hb4⟩

end Go.Proofs.Yteglmkifpdedbaa
