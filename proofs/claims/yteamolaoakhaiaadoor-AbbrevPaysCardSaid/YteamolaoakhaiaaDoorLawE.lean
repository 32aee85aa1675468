/- The walk of the statement AbbrevPays. -/
import Derived.Test.YteamolaoakhaiaaDoorLawB
namespace Go.Proofs.YteamolaoakhaiaaDoor
open Go.RowKit

/-- sums over the first texts -/
def sumK (f : List UInt8 → Nat) (ls : List (List UInt8)) (j : Nat) : Nat := ((ls.take j).map f).sum

theorem sumK_succ (f : List UInt8 → Nat) {ls : List (List UInt8)} {j : Nat} (h : j < ls.length) : sumK f ls (j + 1) = sumK f ls j + f (ls[j]?.getD []) := by
  unfold sumK
  rw [List.take_succ_eq_append_getElem h, List.map_append, List.sum_append]
  simp [h]

theorem sumK_all (f : List UInt8 → Nat) {ls : List (List UInt8)} {j : Nat} (h : ls.length ≤ j) : sumK f ls j = (ls.map f).sum := by unfold sumK; rw [List.take_of_length_le h]

set_option maxRecDepth 100000 in
set_option maxHeartbeats 6400000 in
theorem pays_walk (A : Option Addr) (n c : Nat) (ls : List (List UInt8)) (most : Int) (w : World) (h : RdS w w.heap.size A n ls) (hc : n ≤ c) (hc63 : (c : Int) ≤ 9223372036854775807) (hsz : Sized ls) (hm : MaxL w) :
    Calls Tryd.prog 7 #[.slice A n c, .int .i64 most] w fun e w' => e = .returned (.bool true) ∧ Below w.heap.size w w' := by
  have H := Lib.hid h
  have HMX := Lib.hid hm
  clear hm
  have HS := Lib.hid hsz
  have HC := Lib.hid hc
  have HL := Lib.hid h.1
  clear h hsz
  by_cases hf : fewB ls 8 120 = true
  · obtain ⟨f1, f2⟩ := few_tot hf
    have ht : n + tot ls ≤ 1000 := by have := HL.out; omega
    have hn8 : n ≤ 8 := by have := HL.out; omega
    have HTT := Lib.hid ht
    have HF := Lib.hid hf
    have HSH := Lib.hid (short_tot (m := 120) (ls := ls) (by omega))
    obtain ⟨p1, p2, p3, p4⟩ := choose_pays ls most
    obtain ⟨L, hLL⟩ : ∃ L, L = chooseL ls most := ⟨_, rfl⟩
    rw [← hLL] at p1 p2 p3 p4
    have HLL := Lib.hid hLL.symm
    have HP3 := Lib.hid p3
    have HP4 := Lib.hid p4
    have hLs : Short_ 8 L := fun j => by
      by_cases hj : j < L.length
      · have e : L[j]?.getD [] = L[j] := by rw [List.getElem?_eq_getElem hj]; rfl
        rw [e]
        exact (p3 _ (List.getElem_mem hj)).2
      · rw [List.getElem?_eq_none (by omega)]; simp
    have HLS := Lib.hid hLs
    have HLS2 : Hid (Short_ 1000 L) := Lib.hid (fun j => Nat.le_trans (hLs j) (by omega))
    clear hf ht f1 f2 hc hLL p3 p4 hLs
    go_enter Tryd.func7, Tryd.ntmps7
    go_wp2_with fail
    refine (rfew_any w _ A n c ls 8 120 H.out (by omega) (by omega) (by omega) (by have := HC.out; omega) HS.out).mono ?_
    rintro e w1 ⟨rfl, rfl⟩
    rw [HF.out]
    go_wp2_with fail
    refine (choose_any w A n c ls most H.out HC.out HTT.out HMX.out).mono ?_
    rintro e w1 ⟨A1, n1, c1, rfl, ho1, hb1⟩
    rw [HLL.out] at ho1
    have HR1 := Lib.hid (RdS.of_own ho1)
    have HB1 := Lib.hid hb1
    have HC1 := Lib.hid (own_cap ho1).1
    have hl1 : L.length = n1 := ownS_len ho1
    have HL1 := Lib.hid hl1
    have q1 : ¬ (32 : Int) < (n1 : Int) := by omega
    have q2 : ¬ max most 0 < (n1 : Int) := by omega
    have hn1 : n1 ≤ 32 := by omega
    clear ho1 hb1 hl1 p1 p2
    go_wp2_with fail
    go_loopw [7, 31] (fun v i wr => ∃ (j q : Nat), j ≤ n1 ∧ i = .int .i64 j ∧ v = .int .i64 q ∧ q ≤ 24 * j ∧ Hid (q = sumK costL L j) ∧ Hid (Below w1.heap.size w1 wr)) (fun _ i _ => n1 - (intOf i).toNat)
    case atStart => exact ⟨0, 0, by omega, rfl, rfl, by omega, Lib.hid rfl, Lib.hid (Below.refl _ _)⟩
    case round =>
      obtain ⟨j, q, hj, rfl, rfl, hq, HQ, HB⟩ := hrel
      by_cases hlt : j < n1
      · obtain ⟨ad, rfl, hab, hcell⟩ := HR1.out.2 (by omega)
        have hjl : j < L.length := by rw [HL1.out]; exact hlt
        have k1 := (HB.out.cell (p := ad.add j) (by rw [blk_add]; exact hab)).trans (hcell j hjl)
        have HT := Lib.hid (sumK_succ costL hjl)
        have e0 : L[j]?.getD [] = L[j] := by rw [List.getElem?_eq_getElem hjl]; rfl
        have h28 := HP3.out _ (List.getElem_mem hjl)
        rw [← e0] at h28
        obtain ⟨x, hx⟩ : ∃ x, x = bs (L[j]?.getD []) := ⟨_, rfl⟩
        have hxs : x.size = (L[j]?.getD []).length := by rw [hx, bs_size]
        have hxc := costL_le (L[j]?.getD [])
        obtain ⟨z, hz⟩ : ∃ z, z = costL (L[j]?.getD []) := ⟨_, rfl⟩
        have HXZ : Hid (costL x.data.toList = z) := Lib.hid (by rw [hx, data_bs, hz])
        rw [← hz] at HT hxc
        rw [← hx] at k1
        have x2 : ¬ (x.size : Int) < 2 := by omega
        have x8 : ¬ (8 : Int) < (x.size : Int) := by omega
        have hz24 : z ≤ 24 := by omega
        clear hcell hx hxs hxc hz e0 h28
        go_wp2_with fail
        refine (rcost_any _ x (by omega)).mono ?_
        rintro e w2 ⟨rfl, hb2⟩
        rw [HXZ.out]
        have HB2 := Lib.hid (HB.out.trans (hb2.mono HB.out.size))
        clear hb2
        go_wp2_with fail
        go_roundw
        case rel => exact ⟨j + 1, q + z, by omega, by go_num, by go_num, by omega, Lib.hid (by rw [HT.out, HQ.out]), HB2⟩
        case measure => simp [intOf]; omega
      · have HC0 : Hid (q = (L.map costL).sum) := Lib.hid (by rw [HQ.out]; exact sumK_all _ (by rw [HL1.out]; omega))
        obtain ⟨C0, hC0⟩ : ∃ C0, C0 = q := ⟨_, rfl⟩
        have hC0b : C0 ≤ 768 := by omega
        rw [← hC0] at HC0
        go_wp2_with fail
        rw [← hC0]
        clear hC0 hq HQ
        go_loopw [6, 7, 50] (fun v u i wi => ∃ (k a b : Nat), k ≤ n ∧ i = .int .i64 k ∧ v = .int .i64 a ∧ u = .int .i64 b ∧ a ≤ 1000 * k ∧ b ≤ 768 + 1000 * k ∧ Hid (a = sumK costL ls k) ∧ Hid (b = C0 + sumK (least L) ls k) ∧ Hid (Below w1.heap.size w1 wi)) (fun _ _ i _ => n - (intOf i).toNat)
        case atStart => exact ⟨0, 0, C0, by omega, rfl, rfl, rfl, by omega, by omega, Lib.hid rfl, Lib.hid rfl, HB⟩
        case round =>
          clear HB
          obtain ⟨k, a, b, hk, rfl, rfl, rfl, ha, hbb, HA, HBS, HB⟩ := hrel
          have HBW := Lib.hid (after HB1.out HB.out)
          by_cases hlt2 : k < n
          · obtain ⟨ad, rfl, hab, hcell⟩ := H.out.2 (by omega)
            have hkl : k < ls.length := by rw [HL.out]; exact hlt2
            have k1 := (HBW.out.cell (p := ad.add k) (by rw [blk_add]; exact hab)).trans (hcell k hkl)
            have HT1 := Lib.hid (sumK_succ costL hkl)
            have HT2 := Lib.hid (sumK_succ (least L) hkl)
            obtain ⟨x, hx⟩ : ∃ x, x = bs (ls[k]?.getD []) := ⟨_, rfl⟩
            have hxs : x.size = (ls[k]?.getD []).length := by rw [hx, bs_size]
            have hx120 := HSH.out k
            have hxd : x.data.toList = ls[k]?.getD [] := by rw [hx, data_bs]
            rw [← hx] at k1
            have hxc := costL_le x.data.toList
            have hxl : x.data.toList.length = x.size := by rw [Array.length_toList]; rfl
            have hxm := least_le_cost L x.data.toList
            have hpc := cut_cost L x.data.toList
            obtain ⟨z1, z2⟩ := cut_size L x.data.toList
            rw [hxl] at z1 z2 hxc
            have HZ1 := Lib.hid z1
            have HZ2 : Hid (ShortP 1000 (cutL L x.data.toList)) := Lib.hid (fun j => Nat.le_trans (z2 j) (by omega))
            rw [← hxd] at HT1 HT2
            obtain ⟨z, hz⟩ : ∃ z, z = costL x.data.toList := ⟨_, rfl⟩
            obtain ⟨y, hy⟩ : ∃ y, y = least L x.data.toList := ⟨_, rfl⟩
            rw [← hz] at HT1 hxc hxm
            rw [← hy] at HT2 hxm hpc
            have HZ := Lib.hid hz.symm
            have HPC := Lib.hid hpc
            have hz1 : z ≤ 360 := by omega
            have hy1 : y ≤ 360 := by omega
            have hxs2 : (x.size : Int) ≤ 120 := by omega
            clear hcell hx hxs hx120 hxd hxc hxl hxm hpc z1 z2 hz hy hkl
            go_wp2_with fail
            refine (rcost_any _ x (by omega)).mono ?_
            rintro e w2 ⟨rfl, hb2⟩
            rw [HZ.out]
            have HB2 := Lib.hid (after HB.out hb2)
            clear hb2
            go_wp2_with fail
            refine (cut_any w2 x A1 n1 c1 L (HR1.out.at_ (Nat.le_refl _) HB2.out) HC1.out (by omega) HLS2.out (by omega)).mono ?_
            rintro e w3 ⟨A3, n3, c3, rfl, ho3, hb3⟩
            have HR3 := Lib.hid (RdP.of_own ho3)
            have HB3 := Lib.hid (after HB2.out hb3)
            have hn3 : n3 ≤ 120 := by have := ownP_len ho3; have := HZ1.out; omega
            clear ho3 hb3
            go_wp2_with fail
            refine (pcosts_any w3 A3 A1 n3 n1 c3 c1 _ L HR3.out (HR1.out.at_ (Nat.le_refl _) HB3.out) HZ2.out (by omega)).mono ?_
            rintro e w4 ⟨rfl, hb4⟩
            rw [HPC.out]
            have HB4 := Lib.hid (after HB3.out hb4)
            clear hb4
            go_wp2_with fail
            go_roundw
            case rel => exact ⟨k + 1, a + z, b + y, by omega, by go_num, by go_num, by go_num, by omega, by omega, Lib.hid (by rw [HT1.out, HA.out]), Lib.hid (by rw [HT2.out, HBS.out]; omega), HB4⟩
            case measure => simp [intOf]; omega
          · have hle : (b : Int) ≤ (a : Int) := by
              have h1 := HA.out
              have h2 := HBS.out
              rw [sumK_all _ (by rw [HL.out]; omega)] at h1 h2
              have h3 := HP4.out
              have h4 := HC0.out
              omega
            clear ha hbb
            go_wp2_with fail
            refine (awake_any wr (HMX.out.up HBW.out)).mono ?_
            rintro e w4 ⟨rfl, hb4⟩
            go_wp2_with fail
            go_ret
            exact ⟨rfl, after HBW.out hb4⟩
  · rw [Bool.not_eq_true] at hf
    have HF := Lib.hid hf
    clear hf hc
    go_enter Tryd.func7, Tryd.ntmps7
    go_wp2_with fail
    refine (rfew_any w _ A n c ls 8 120 H.out (by omega) (by omega) (by omega) (by have := HC.out; omega) HS.out).mono ?_
    rintro e w1 ⟨rfl, rfl⟩
    rw [HF.out]
    go_wp2_with fail
    refine (awake_any w HMX.out).mono ?_
    rintro e w4 ⟨rfl, hb4⟩
    go_wp2_with fail
    go_ret
    exact ⟨rfl, hb4⟩

end Go.Proofs.YteamolaoakhaiaaDoor
