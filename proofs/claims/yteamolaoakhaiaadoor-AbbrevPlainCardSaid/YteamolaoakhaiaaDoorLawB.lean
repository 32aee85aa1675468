/- The walk of the statement AbbrevCuts. -/
import Derived.Test.YteamolaoakhaiaaDoorLawA
namespace Go.Proofs.YteamolaoakhaiaaDoor
open Go.RowKit

set_option maxRecDepth 100000 in
set_option maxHeartbeats 3200000 in
theorem cuts_walk (s : ByteArray) (A : Option Addr) (n c : Nat) (ls : List (List UInt8)) (w : World) (h : RdS w w.heap.size A n ls) (hc : n ≤ c) (hc63 : (c : Int) ≤ 9223372036854775807) (hsz : Sized ls) (hs63 : (s.size : Int) ≤ 9223372036854775807) (hm : MaxL w) :
    Calls Tryd.prog 4 #[.string s, .slice A n c] w fun e w' => e = .returned (.bool true) ∧ Below w.heap.size w w' := by
  have H := Lib.hid h
  have HMX := Lib.hid hm
  clear hm
  have HS := Lib.hid hsz
  have HC := Lib.hid hc
  have HL := Lib.hid h.1
  clear h hsz
  by_cases hsn : (s.size : Int) ≤ 300
  · by_cases hf : fewB ls 40 300 = true
    · obtain ⟨f1, f2⟩ := few_tot hf
      have hn40 : n ≤ 40 := by have := HL.out; omega
      have HSH := Lib.hid (short_tot (m := 1000) (ls := ls) (by omega))
      have HF := Lib.hid hf
      have hsl : s.data.toList.length = s.size := by rw [Array.length_toList]; rfl
      obtain ⟨z1, z2⟩ := cut_size ls s.data.toList
      rw [hsl] at z1 z2
      have HZ1 := Lib.hid z1
      have HZ2 : Hid (ShortP 1000 (cutL ls s.data.toList)) := Lib.hid (fun j => Nat.le_trans (z2 j) (by omega))
      clear hf f1 f2 hc hsl z1 z2
      go_enter Tryd.func4, Tryd.ntmps4
      go_wp2_with fail
      refine (rfew_any w _ A n c ls 40 300 H.out (by omega) (by omega) (by omega) (by have := HC.out; omega) HS.out).mono ?_
      rintro e w1 ⟨rfl, rfl⟩
      rw [HF.out]
      go_wp2_with fail
      refine (cut_any w s A n c ls H.out HC.out (by omega) HSH.out (by omega)).mono ?_
      rintro e w1 ⟨A1, n1, c1, rfl, ho1, hb1⟩
      have HR1 := Lib.hid (RdP.of_own ho1)
      have HB1 := Lib.hid hb1
      have hn1 : n1 ≤ 300 := by have := ownP_len ho1; have := HZ1.out; omega
      clear ho1 hb1
      go_wp2_with fail
      refine (rCut_any w1 s A n c ls (H.out.at_ (Nat.le_refl _) HB1.out) (by omega) HSH.out (by omega)).mono ?_
      rintro e w2 ⟨A2, n2, c2, rfl, ho2, hb2⟩
      have HR2 := Lib.hid (RdP.of_own ho2)
      have HB2 := Lib.hid hb2
      clear ho2 hb2
      go_wp2_with fail
      refine (rPsame_same w2 _ _ A1 A2 n1 n2 c1 c2 _ (HR1.out.at_ (Nat.le_refl _) HB2.out) HR2.out (by omega)).mono ?_
      rintro e w3 ⟨rfl, hb3⟩
      have HB13 := Lib.hid (after HB2.out hb3)
      have HB3 := Lib.hid (after HB1.out HB13.out)
      clear hb3
      go_wp2_with fail
      refine (pcosts_any w3 A1 A n1 n c1 c _ ls (HR1.out.at_ (Nat.le_refl _) HB13.out) (H.out.at_ (Nat.le_refl _) HB3.out) HZ2.out (by omega)).mono ?_
      rintro e w4 ⟨rfl, hb4⟩
      have HB14 := Lib.hid (after HB13.out hb4)
      have HB4 := Lib.hid (after HB3.out hb4)
      clear hb4
      go_wp2_with fail
      refine (rPCost_any w4 _ A1 n1 c1 _ _ (HR1.out.at_ (Nat.le_refl _) HB14.out) (Nat.le_refl _) HZ2.out (by omega)).mono ?_
      rintro e w5 ⟨rfl, hb5⟩
      have HB5 := Lib.hid (after HB4.out hb5)
      clear hb5
      go_wp2_with fail
      refine (awake_any w5 (HMX.out.up HB5.out)).mono ?_
      rintro e w6 ⟨rfl, hb6⟩
      go_wp2_with fail
      go_ret
      exact ⟨rfl, after HB5.out hb6⟩
    · rw [Bool.not_eq_true] at hf
      have HF := Lib.hid hf
      clear hf hc
      go_enter Tryd.func4, Tryd.ntmps4
      go_wp2_with fail
      refine (rfew_any w _ A n c ls 40 300 H.out (by omega) (by omega) (by omega) (by have := HC.out; omega) HS.out).mono ?_
      rintro e w1 ⟨rfl, rfl⟩
      rw [HF.out]
      go_wp2_with fail
      refine (awake_any w HMX.out).mono ?_
      rintro e w4 ⟨rfl, hb4⟩
      go_wp2_with fail
      go_ret
      exact ⟨rfl, hb4⟩
  · clear hc
    go_enter Tryd.func4, Tryd.ntmps4
    go_wp2_with fail
    refine (awake_any w HMX.out).mono ?_
    rintro e w4 ⟨rfl, hb4⟩
    go_wp2_with fail
    go_ret
    exact ⟨rfl, hb4⟩

end Go.Proofs.YteamolaoakhaiaaDoor
