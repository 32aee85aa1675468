/- The walk of the statement AbbrevBack. -/
import Derived.Test.YteamolaoakhaiaaDoorLawB
namespace Go.Proofs.YteamolaoakhaiaaDoor
open Go.RowKit

theorem RdS.head {w : World} {B : Nat} {A : Option Addr} {n : Nat} {ls : List (List UInt8)} (h : RdS w B A n ls) (k : Nat) (hk : k ≤ n) : RdS w B A k (ls.take k) := by
  have hl := h.1
  refine ⟨by rw [List.length_take]; omega, fun h0 => ?_⟩
  obtain ⟨ad, e, hb, hc⟩ := h.2 (by omega)
  refine ⟨ad, e, hb, fun j hj => ?_⟩
  have hj2 : j < k := by rw [List.length_take] at hj; omega
  rw [hc j (by omega), List.getElem?_take_of_lt hj2]

theorem short_take {m : Nat} {ls : List (List UInt8)} (h : Short_ m ls) (k : Nat) : Short_ m (ls.take k) := fun j => by
  by_cases hj : j < k
  · rw [List.getElem?_take_of_lt hj]; exact h j
  · rw [List.getElem?_eq_none (by rw [List.length_take]; omega)]; simp

set_option maxRecDepth 100000 in
set_option maxHeartbeats 6400000 in
theorem back_walk (s : ByteArray) (A : Option Addr) (n c : Nat) (ls : List (List UInt8)) (fewer : Int) (w : World) (h : RdS w w.heap.size A n ls) (hc : n ≤ c) (hc63 : (c : Int) ≤ 9223372036854775807) (hsz : Sized ls) (hs63 : (s.size : Int) ≤ 9223372036854775807) (hm : MaxL w) :
    Calls Tryd.prog 5 #[.string s, .slice A n c, .int .i64 fewer] w fun e w' => e = .returned (.bool true) ∧ Below w.heap.size w w' := by
  have H := Lib.hid h
  have HMX := Lib.hid hm
  clear hm
  have HS := Lib.hid hsz
  have HC := Lib.hid hc
  have HL := Lib.hid h.1
  clear h hsz
  by_cases hsn : (s.size : Int) ≤ 300
  · by_cases hf : fewB ls 40 300 = true
    · obtain ⟨f1, f2⟩ := few_tot hf
      have hn40 : n ≤ 40 := by have := HL.out; omega
      have HSH := Lib.hid (short_tot (m := 1000) (ls := ls) (by omega))
      have HF := Lib.hid hf
      have hsl : s.data.toList.length = s.size := by rw [Array.length_toList]; rfl
      obtain ⟨z1, z2⟩ := cut_size ls s.data.toList
      rw [hsl] at z1 z2
      have HZ1 := Lib.hid z1
      have HZ2 : Hid (ShortP 1000 (cutL ls s.data.toList)) := Lib.hid (fun j => Nat.le_trans (z2 j) (by omega))
      have HJ := Lib.hid (cut_join ls s.data.toList)
      have HPC := Lib.hid (cut_cost ls s.data.toList)
      obtain ⟨k, hk⟩ : ∃ k : Nat, (k : Int) = max 0 (min fewer (n : Int)) := ⟨(max 0 (min fewer (n : Int))).toNat, by omega⟩
      have hkn : k ≤ n := by omega
      obtain ⟨y1, y2⟩ := cut_size (ls.take k) s.data.toList
      rw [hsl] at y1 y2
      have HY1 := Lib.hid y1
      have HY2 : Hid (ShortP 1000 (cutL (ls.take k) s.data.toList)) := Lib.hid (fun j => Nat.le_trans (y2 j) (by omega))
      have HPK := Lib.hid (cut_cost (ls.take k) s.data.toList)
      have hm1 := least_le_cost ls s.data.toList
      have hm2 := least_mono ls k _ s.data.toList (Nat.le_refl _)
      obtain ⟨a, ha⟩ : ∃ a, a = least ls s.data.toList := ⟨_, rfl⟩
      obtain ⟨b, hb⟩ : ∃ a, a = costL s.data.toList := ⟨_, rfl⟩
      obtain ⟨d, hd⟩ : ∃ a, a = least (ls.take k) s.data.toList := ⟨_, rfl⟩
      rw [← ha, ← hb] at hm1
      rw [← ha, ← hd] at hm2
      have HA := Lib.hid ha.symm
      have HBB := Lib.hid hb.symm
      have HDD := Lib.hid hd.symm
      have hk' := hk.symm
      have hbs : bs s.data.toList = s := bs_data s
      have HBS := Lib.hid hbs
      clear hf f1 f2 hc hsl z1 z2 y1 y2 ha hb hd hk hbs
      go_enter Tryd.func5, Tryd.ntmps5
      go_wp2_with fail
      refine (rfew_any w _ A n c ls 40 300 H.out (by omega) (by omega) (by omega) (by have := HC.out; omega) HS.out).mono ?_
      rintro e w1 ⟨rfl, rfl⟩
      rw [HF.out]
      go_wp2_with fail
      refine (cut_any w s A n c ls H.out HC.out (by omega) HSH.out (by omega)).mono ?_
      rintro e w1 ⟨A1, n1, c1, rfl, ho1, hb1⟩
      have HR1 := Lib.hid (RdP.of_own ho1)
      have HB1 := Lib.hid hb1
      have hn1 : n1 ≤ 300 := by have := ownP_len ho1; have := HZ1.out; omega
      clear ho1 hb1
      go_wp2_with fail
      refine (pjoin_any w1 A1 A n1 n c1 c _ ls HR1.out (H.out.at_ (Nat.le_refl _) HB1.out) HZ2.out HSH.out (by omega) (by omega) HC.out).mono ?_
      rintro e w2 ⟨rfl, hb2⟩
      rw [HJ.out]
      have HB2 := Lib.hid hb2
      have HB2w := Lib.hid (after HB1.out hb2)
      clear hb2
      rw [show bs (jnT (some s.data.toList)) = s from HBS.out, show jnE (some s.data.toList) = 0 from rfl]
      have hnc : 0 ≤ (n : Int) ∧ (n : Int) ≤ (c : Int) := by have := HC.out; omega
      have hkc : k ≤ c := by have := HC.out; omega
      go_wp2_with fail
      refine (pcosts_any w2 A1 A n1 n c1 c _ ls (HR1.out.at_ (Nat.le_refl _) HB2.out) (H.out.at_ (Nat.le_refl _) HB2w.out) HZ2.out (by omega)).mono ?_
      rintro e w3 ⟨rfl, hb3⟩
      rw [HPC.out, HA.out]
      have HB3 := Lib.hid (after HB2w.out hb3)
      clear hb3
      go_wp2_with fail
      refine (rcost_any w3 s (by omega)).mono ?_
      rintro e w4 ⟨rfl, hb4⟩
      rw [HBB.out]
      have HB4 := Lib.hid (after HB3.out hb4)
      clear hb4
      go_wp2_with fail
      refine (cut_any w4 s A _ c _ ((H.out.at_ (Nat.le_refl _) HB4.out).head k (by omega)) (by have := HC.out; omega) (by omega) (short_take HSH.out k) (by omega)).mono ?_
      rintro e w5 ⟨A5, n5, c5, rfl, ho5, hb5⟩
      have HR5 := Lib.hid (RdP.of_own ho5)
      have HB5 := Lib.hid (after HB4.out hb5)
      have hn5 : n5 ≤ 300 := by have := ownP_len ho5; have := HY1.out; omega
      clear ho5 hb5
      go_wp2_with fail
      refine (pcosts_any w5 A5 A n5 _ c5 c _ _ HR5.out ((H.out.at_ (Nat.le_refl _) HB5.out).head k (by omega)) HY2.out (by omega)).mono ?_
      rintro e w6 ⟨rfl, hb6⟩
      rw [HPK.out, HDD.out]
      have HB6 := Lib.hid (after HB5.out hb6)
      clear hb6
      go_wp2_with fail
      refine (awake_any w6 (HMX.out.up HB6.out)).mono ?_
      rintro e w7 ⟨rfl, hb7⟩
      go_wp2_with fail
      go_ret
      exact ⟨rfl, after HB6.out hb7⟩
    · rw [Bool.not_eq_true] at hf
      have HF := Lib.hid hf
      clear hf hc
      go_enter Tryd.func5, Tryd.ntmps5
      go_wp2_with fail
      refine (rfew_any w _ A n c ls 40 300 H.out (by omega) (by omega) (by omega) (by have := HC.out; omega) HS.out).mono ?_
      rintro e w1 ⟨rfl, rfl⟩
      rw [HF.out]
      go_wp2_with fail
      refine (awake_any w HMX.out).mono ?_
      rintro e w4 ⟨rfl, hb4⟩
      go_wp2_with fail
      go_ret
      exact ⟨rfl, hb4⟩
  · clear hc
    go_enter Tryd.func5, Tryd.ntmps5
    go_wp2_with fail
    refine (awake_any w HMX.out).mono ?_
    rintro e w4 ⟨rfl, hb4⟩
    go_wp2_with fail
    go_ret
    exact ⟨rfl, hb4⟩

end Go.Proofs.YteamolaoakhaiaaDoor
