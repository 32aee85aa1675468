/- The walk of the statement LetterWords. -/
import Derived.Test.YteglmkifpdedbaaAwake
import Derived.Test.YteglmkifpdedbaaWordsR
import Derived.Test.YteglmkifpdedbaaJoin
namespace Go.Proofs.Yteglmkifpdedbaa
open Go.RowKit

theorem join_len (ls : List (List UInt8)) (sep : List UInt8) : (Lib.join ls sep).length ≤ Lib.lens ls + sep.length * ls.length := by
  cases ls with
  | nil => simp [Lib.join_nil]
  | cons x r =>
    rw [Lib.join_length, List.length_cons, Nat.mul_succ]
    omega

theorem line_words (s : ByteArray) : words (bs (Lib.join (words s.data.toList) (⟨#[32]⟩ : ByteArray).data.toList)).data.toList = words s.data.toList := by
  rw [data_bs]
  exact words_join _ (words_wordish _)

set_option maxRecDepth 100000 in
set_option maxHeartbeats 3200000 in
theorem words_walk (s : ByteArray) (w : World) :
    Calls Try.prog 5 #[.string s] w fun e w' => e = .returned (.bool true) ∧ Below w.heap.size w w' := by
  by_cases hn : (s.size : Int) ≤ 2000
  · have hwl := words_lens s.data.toList
    rw [← Lib.size_eq] at hwl
    have hjl := join_len (words s.data.toList) (⟨#[32]⟩ : ByteArray).data.toList
    have hj : ((Lib.join (words s.data.toList) (⟨#[32]⟩ : ByteArray).data.toList).length : Int) ≤ 4000 := by
      have : (⟨#[32]⟩ : ByteArray).data.toList.length = 1 := rfl
      rw [this] at hjl
      omega
    have HJ := Lib.hid hj
    have HW := Lib.hid (line_words s)
    have HL := Lib.hid hwl
    clear hjl hj hwl
    go_enter Try.func5, Try.ntmps5
    go_wp2_with fail
    refine (words_any _ s (by omega)).mono ?_
    rintro e w1 ⟨A, n, c, rfl, ho, hb1⟩
    have hnn : n ≤ 2000 := by have := ownS_len ho; have := HL.out; omega
    have hcap := (own_cap ho).1
    have HR := Lib.hid (RdS.of_own ho)
    clear ho
    go_wp2_with fail
    refine (rwords_any _ s (by omega)).mono ?_
    rintro e w2 ⟨A2, n2, c2, rfl, ho2, hb2⟩
    have HR2 := Lib.hid (RdS.of_own ho2)
    have HRa := Lib.hid (HR.out.below hb2)
    have hb3 := hb1.trans (hb2.mono hb1.size)
    have hs2 := hb2.size
    clear ho2 hb1 hb2
    go_wp2_with fail
    refine (rsame_same _ _ _ _ _ _ _ _ _ _ HRa.out HR2.out (by omega)).mono ?_
    rintro e w3 ⟨rfl, hb4⟩
    have HRb := Lib.hid (HRa.out.below (hb4.mono hs2))
    have hb5 := hb3.trans (hb4.mono hb3.size)
    have hs3 := Nat.le_trans hs2 hb4.size
    clear hb3 hb4 hs2
    go_wp2_with fail
    refine (join_any _ _ _ _ _ _ ⟨#[32]⟩ HRb.out hs3 hcap (by omega) (Int.le_trans HJ.out (by omega))).mono ?_
    rintro e w4 ⟨rfl, hb6⟩
    have HRc := Lib.hid (HRb.out.below (hb6.mono hs3))
    have hb7 := hb5.trans (hb6.mono hb5.size)
    have hs4 := Nat.le_trans hs3 hb6.size
    clear hb5 hb6 hs3
    go_wp2_with fail
    refine (words_any _ _ (by rw [bs_size]; exact Int.le_trans HJ.out (by omega))).mono ?_
    rw [HW.out]
    rintro e w5 ⟨A3, n3, c3, rfl, ho3, hb8⟩
    have HR3 := Lib.hid (RdS.of_own ho3)
    have hn3 : n3 ≤ 2000 := by have := ownS_len ho3; have := HL.out; omega
    have HRd := Lib.hid (HRc.out.below (hb8.mono hs4))
    have hb9 := hb7.trans (hb8.mono hb7.size)
    clear ho3 hb7 hb8
    go_wp2_with fail
    refine (rsame_same _ _ _ _ _ _ _ _ _ _ HR3.out HRd.out (by omega)).mono ?_
    rintro e w6 ⟨rfl, hb10⟩
    have hb11 := hb9.trans (hb10.mono hb9.size)
    clear hb9 hb10
    go_wp2_with fail
    refine (awake_any _).mono ?_
    rintro e w7 ⟨rfl, hb12⟩
    go_wp2_with fail
    go_ret
    exact ⟨rfl, hb11.trans (hb12.mono hb11.size)⟩
  · go_enter Try.func5, Try.ntmps5
    go_wp2_with fail
    refine (awake_any _).mono ?_
    rintro e w4 ⟨rfl, hb4⟩
    go_wp2_with fail
    go_ret
    exact ⟨rfl, hb4⟩

end Go.Proofs.Yteglmkifpdedbaa
