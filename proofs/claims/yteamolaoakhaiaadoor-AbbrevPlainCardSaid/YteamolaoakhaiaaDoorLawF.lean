/- The walk of the statement AbbrevPlain. -/
import Derived.Test.YteamolaoakhaiaaDoorLawC
import Derived.Test.YteamolaoakhaiaaDoorAlpH
namespace Go.Proofs.YteamolaoakhaiaaDoor
open Go.RowKit

set_option maxRecDepth 100000 in
set_option maxHeartbeats 6400000 in
theorem plain_walk (s : ByteArray) (A : Option Addr) (n c : Nat) (ls : List (List UInt8)) (w : World) (h : RdS w w.heap.size A n ls) (hc : n ≤ c) (_hc63 : (c : Int) ≤ 9223372036854775807) (hsz : Sized ls) (hs63 : (s.size : Int) ≤ 9223372036854775807) (hm : MaxL w) :
    Calls Tryd.prog 8 #[.string s, .slice A n c] w fun e w' => e = .returned (.bool true) ∧ Below w.heap.size w w' := by
  have H := Lib.hid h
  have HMX := Lib.hid hm
  clear hm
  have HS := Lib.hid hsz
  have HC := Lib.hid hc
  have HL := Lib.hid h.1
  clear h hsz hc
  by_cases hsn : (s.size : Int) ≤ 200
  · by_cases hn : (n : Int) ≤ 40
    · go_enter Tryd.func8, Tryd.ntmps8
      go_wp2_with fail
      go_loopw [22] (fun i wr => ∃ j : Nat, j ≤ n ∧ i = .int .i64 j ∧ wr = w ∧ Hid (∀ m, m < j → (ls[m]?.getD []).length ≤ 20)) (fun i _ => n - (intOf i).toNat)
      case atStart => exact ⟨0, by omega, rfl, rfl, Lib.hid (fun m hm => absurd hm (by omega))⟩
      case round =>
        obtain ⟨j, hj, rfl, rfl, HM⟩ := hrel
        by_cases hlt : j < n
        · obtain ⟨ad, rfl, _, hcell⟩ := H.out.2 (by omega)
          have k1 := hcell j (by rw [HL.out]; exact hlt)
          obtain ⟨R, hR⟩ : ∃ R, R = bs (ls[j]?.getD []) := ⟨_, rfl⟩
          have hRz : (ls[j]?.getD []).length = R.size := by rw [hR, bs_size]
          have hR63 := HS.out j
          rw [← hR] at k1 hR63
          clear hcell hR
          by_cases h20 : (R.size : Int) ≤ 20
          · have HM2 : Hid (∀ m, m < j + 1 → (ls[m]?.getD []).length ≤ 20) := Lib.hid (fun m hm => by
              by_cases e : m = j
              · subst e; omega
              · exact HM.out m (by omega))
            clear hRz
            go_wp2_with fail
            go_roundw
            case rel => exact ⟨j + 1, by omega, by go_num, trivial, HM2⟩
            case measure => simp [intOf]; omega
          · clear hRz
            go_wp2_with fail
            refine (awake_any _ HMX.out).mono ?_
            rintro e w4 ⟨rfl, hb4⟩
            go_wp2_with fail
            go_ret
            exact ⟨rfl, hb4⟩
        · have hsh : Short_ 1000 ls := fun m => by
            by_cases hm : m < n
            · have := HM.out m (by omega); omega
            · rw [List.getElem?_eq_none (by rw [HL.out]; omega)]; simp
          have HSH := Lib.hid hsh
          have hsl : s.data.toList.length = s.size := by rw [Array.length_toList]; rfl
          obtain ⟨z1, z2⟩ := cut_size ls s.data.toList
          obtain ⟨y1, y2⟩ := cut_size [] s.data.toList
          rw [hsl] at z1 z2 y1 y2
          have HZ1 := Lib.hid z1
          have HZ2 : Hid (ShortP 1000 (cutL ls s.data.toList)) := Lib.hid (fun j => Nat.le_trans (z2 j) (by omega))
          have HY1 := Lib.hid y1
          have HY2 : Hid (ShortP 1000 (cutL [] s.data.toList)) := Lib.hid (fun j => Nat.le_trans (y2 j) (by omega))
          have HJ := Lib.hid (cut_join ls s.data.toList)
          have hm1 := least_le_cost ls s.data.toList
          obtain ⟨a, ha⟩ : ∃ a, a = least ls s.data.toList := ⟨_, rfl⟩
          obtain ⟨b, hb⟩ : ∃ a, a = costL s.data.toList := ⟨_, rfl⟩
          rw [← ha, ← hb] at hm1
          have HPC : Hid (pcost (cutL ls s.data.toList) = a) := Lib.hid (by rw [cut_cost, ha])
          have HPN : Hid (pcost (cutL [] s.data.toList) = b) := Lib.hid (by rw [cut_cost, least_none, hb])
          have HBB := Lib.hid hb.symm
          have HBS := Lib.hid (bs_data s)
          clear hsh hsl z1 z2 y1 y2 ha hb
          go_wp2_with fail
          refine (cut_any _ s A n c ls H.out HC.out (by omega) HSH.out (by omega)).mono ?_
          rintro e w1 ⟨A1, n1, c1, rfl, ho1, hb1⟩
          have HR1 := Lib.hid (RdP.of_own ho1)
          have HB1 := Lib.hid hb1
          have hn1 : n1 ≤ 200 := by have := ownP_len ho1; have := HZ1.out; omega
          clear ho1 hb1
          go_wp2_with fail
          refine (pjoin_any w1 A1 A n1 n c1 c _ ls HR1.out (H.out.at_ (Nat.le_refl _) HB1.out) HZ2.out HSH.out (by omega) (by omega) HC.out).mono ?_
          rintro e w2 ⟨rfl, hb2⟩
          rw [HJ.out]
          have HB2 := Lib.hid hb2
          clear hb2
          rw [show bs (jnT (some s.data.toList)) = s from HBS.out, show jnE (some s.data.toList) = 0 from rfl]
          go_wp2_with fail
          refine (cut_any w2 s none 0 0 [] (RdS.nil _ _ _) (Nat.le_refl _) (by omega) (fun j => by simp) (by omega)).mono ?_
          rintro e w3 ⟨A3, n3, c3, rfl, ho3, hb3⟩
          have HR3 := Lib.hid (RdP.of_own ho3)
          have HB3 := Lib.hid (after HB2.out hb3)
          have hn3 : n3 ≤ 200 := by have := ownP_len ho3; have := HY1.out; omega
          clear ho3 hb3
          go_wp2_with fail
          refine (pcosts_any w3 A3 none n3 0 c3 0 _ [] HR3.out (RdS.nil _ _ _) HY2.out (by omega)).mono ?_
          rintro e w4 ⟨rfl, hb4⟩
          rw [HPN.out]
          have HB4 := Lib.hid (after HB3.out hb4)
          clear hb4
          go_wp2_with fail
          refine (cost_any w4 s (by omega)).mono ?_
          rintro e w5 ⟨rfl, hb5⟩
          rw [HBB.out]
          have HB5 := Lib.hid (after HB4.out hb5)
          have HB5w := Lib.hid (after HB1.out HB5.out)
          clear hb5
          go_wp2_with fail
          refine (pcosts_any w5 A1 A n1 n c1 c _ ls (HR1.out.at_ (Nat.le_refl _) HB5.out) (H.out.at_ (Nat.le_refl _) HB5w.out) HZ2.out (by omega)).mono ?_
          rintro e w6 ⟨rfl, hb6⟩
          rw [HPC.out]
          have HB6 := Lib.hid (after HB5w.out hb6)
          clear hb6
          go_wp2_with fail
          refine (awake_any w6 (HMX.out.up HB6.out)).mono ?_
          rintro e w7 ⟨rfl, hb7⟩
          go_wp2_with fail
          go_ret
          exact ⟨rfl, after HB6.out hb7⟩
    · go_enter Tryd.func8, Tryd.ntmps8
      go_wp2_with fail
      refine (awake_any w HMX.out).mono ?_
      rintro e w4 ⟨rfl, hb4⟩
      go_wp2_with fail
      go_ret
      exact ⟨rfl, hb4⟩
  · go_enter Tryd.func8, Tryd.ntmps8
    go_wp2_with fail
    refine (awake_any w HMX.out).mono ?_
    rintro e w4 ⟨rfl, hb4⟩
    go_wp2_with fail
    go_ret
    exact ⟨rfl, hb4⟩

end Go.Proofs.YteamolaoakhaiaaDoor
