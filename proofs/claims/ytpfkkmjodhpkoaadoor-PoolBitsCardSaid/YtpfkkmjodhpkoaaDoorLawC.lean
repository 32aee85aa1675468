/- The walk of the statement PoolBits. -/
import Derived.Test.YtpfkkmjodhpkoaaDoorLawA
import Derived.Test.YtpfkkmjodhpkoaaDoorAbbV
import Derived.Deep.QuietTactic
import Derived.BigQuiet
import Derived.Deep.RegionHeld3
namespace Go.Proofs.YtpfkkmjodhpkoaaDoor
open Go.RowKit

set_option maxRecDepth 100000 in
set_option maxHeartbeats 6400000 in
theorem bits_walk (A : Option Addr) (n c : Nat) (ls : List (List UInt8)) (w : World) (h : RdS w w.heap.size A n ls) (hc : n ≤ c) (hm : MaxL w) :
    Calls Tryd.prog 6 #[.slice A n c] w fun e w' => e = .returned (.bool true) ∧ Below w.heap.size w w' := by
  have H := Lib.hid h
  have HMX := Lib.hid hm
  have HC := Lib.hid hc
  have HL := Lib.hid h.1
  clear h hm hc
  by_cases hf : few8 ls 24 60 = true
  · obtain ⟨f1, f2, f3⟩ := few8_facts hf
    have HF := Lib.hid hf
    have HTT : Hid (ls.length + tot ls ≤ 10000) := Lib.hid (by omega)
    have HSH : Hid (Short_ 1000 ls) := Lib.hid (short_of_mem fun q hq => by have := f2 q hq; omega)
    have hn24 : n ≤ 24 := by have := HL.out; omega
    have HSIX := Lib.hid f2
    clear hf f1 f2 f3
    go_enter Tryd.func6, Tryd.ntmps6
    go_wp2_with fail
    refine (few8_any w w.heap.size A n c 24 60 ls H.out (Nat.le_refl _) (by decide)).mono ?_
    rintro e w1 ⟨rfl, hb1⟩
    rw [HF.out]
    have HB1 := Lib.hid hb1
    clear hb1
    go_wp2_with fail
    refine (pmake_any w1 A n c ls ((H.out.below HB1.out).more HB1.out.size) HC.out HSH.out (by have := HL.out; have := HTT.out; omega) (HMX.out.up HB1.out)).mono ?_
    rintro e w2 ⟨Aa, na, ca, At, nt, ct, Ab, nb, cb, rfl, hra, hrt, hrb, hcb, hct, hca, hb2⟩
    have HRA := Lib.hid hra
    have HRT := Lib.hid hrt
    have HRB := Lib.hid hrb
    have HCB := Lib.hid hcb
    have HB2 := Lib.hid (after8 HB1.out hb2)
    clear hra hrt hrb hcb hb2
    obtain ⟨z1, z2, z3, z4, z5⟩ := mk_sizes ls HTT.out
    have HZ1 := Lib.hid z1
    have hna : na ≤ 31 := by have := HRA.out.1; omega
    have hnb : nb ≤ 30000 := by have := HRB.out.1; omega
    have hnt : nt ≤ 24 := by have := HRT.out.1; have := HL.out; omega
    clear z1 z2 z3 z4
    obtain ⟨er, he⟩ : ∃ er, er = mkE ls := ⟨_, rfl⟩
    have HE := Lib.hid he.symm
    rw [← he]
    clear he
    by_cases h0 : er = 0
    · subst h0
      have HTX := Lib.hid (mkE_ok HE.out).2
      obtain rfl : nt = n := by have h1 := HRT.out.1; have h2 := z5 HE.out; have h3 := HL.out; omega
      obtain ⟨ab, hab⟩ : ∃ ab, ab = chooseL ls 31 := ⟨_, rfl⟩
      have HAB := Lib.hid hab
      have e1 : mkA ls = ab := by unfold mkA; rw [if_pos HE.out, hab]
      have e2 : mkT ls = offs ab ls := by unfold mkT; rw [if_pos HE.out, hab]
      have e3 : mkB ls = bitsP ab ls := by unfold mkB; rw [if_pos HE.out, hab]
      rw [e1] at HRA HZ1
      rw [e2] at HRT
      rw [e3] at HRB
      have HCA := Lib.hid hca
      have HNB : Hid ((bitsP ab ls).length = nb) := Lib.hid HRB.out.1
      have HNA : Hid (ab.length = na) := Lib.hid HRA.out.1
      clear z5 e1 e2 e3 hab hca
      go_wp2_with (refine wpList_store_row rfl 28 _ _ rfl w2.heap.size #[.slice Aa na ca, .slice At nt ct, .slice Ab nb cb] rfl rfl _ _ (Blk.new w2 _ _) pool_size rfl (three_one _ _ _ _ _ _ _ _ _) ?_; obtain ⟨V, hV⟩ : ∃ V, V = (w2.alloc (.cells #[.slice none 0 0, .slice none 0 0, .slice none 0 0] 28)).setRow w2.heap.size #[.slice Aa na ca, .slice At nt ct, .slice Ab nb cb] := ⟨_, rfl⟩; rw [← hV]; obtain ⟨hkV, hbV⟩ := put_pool hV; have HKV := Lib.hid hkV; have HBV := Lib.hid hbV; clear hV hkV hbV; have f0 : V.cell? ⟨w2.heap.size, 0, none⟩ = some (.slice Aa na ca) := HKV.out.cell 0; have f1 : V.cell? ⟨w2.heap.size, 1, none⟩ = some (.slice At nt ct) := HKV.out.cell 1; have f2 : V.cell? ⟨w2.heap.size, 2, none⟩ = some (.slice Ab nb cb) := HKV.out.cell 2)
      go_loopw [5, 37] (fun v i wr => ∃ (j p : Nat), j ≤ nt ∧ i = .int .i64 j ∧ v = .int .i64 p ∧ Hid (p = offP ab ls j) ∧ Hid (Blk wr w2.heap.size 28 #[.slice Aa na ca, .slice At nt ct, .slice Ab nb cb]) ∧ Hid (Below w2.heap.size w2 wr)) (fun _ i _ => nt - (intOf i).toNat)
      case atStart => exact ⟨0, 0, Nat.zero_le _, rfl, rfl, Lib.hid rfl, HKV, HBV⟩
      case round =>
        obtain ⟨j, p, hj, rfl, rfl, HOF, HKR, HBR0⟩ := hrel
        clear f0 f1 f2
        have f0 : wr.cell? ⟨w2.heap.size, 0, none⟩ = some (.slice Aa na ca) := HKR.out.cell 0
        have f1 : wr.cell? ⟨w2.heap.size, 1, none⟩ = some (.slice At nt ct) := HKR.out.cell 1
        have f2 : wr.cell? ⟨w2.heap.size, 2, none⟩ = some (.slice Ab nb cb) := HKR.out.cell 2
        have hp : p ≤ 30000 := by have h1 := offP_le ab ls j; have h2 := HNB.out; rw [← HOF.out] at h1; omega
        by_cases hlt : j < nt
        · have HBW := Lib.hid (after8 HB2.out HBR0.out)
          obtain ⟨ad, rfl, hab, hcl⟩ := H.out.2 (by omega)
          have kx := (HBW.out.cell (p := ad.add j) (by rw [blk_add]; exact hab)).trans (hcl j (by rw [HL.out]; exact hlt))
          obtain ⟨ae, rfl, haeb, hce⟩ := HRT.out.2.1 (by omega)
          have ky := (HBR0.out.cell (p := ae.add j) (by rw [blk_add]; exact haeb)).trans (hce j (by rw [HRT.out.1]; exact hlt))
          rw [offs_getD ab ls (by rw [HL.out]; exact hlt), ← HOF.out] at ky
          have HTS : Hid (textB (ls[j]?.getD []) = true) := Lib.hid (by
            rw [List.getElem?_eq_getElem (by rw [HL.out]; exact hlt)]
            exact HTX.out _ (List.getElem_mem _))
          have hsl : (ls[j]?.getD []).length ≤ 60 := by
            rw [List.getElem?_eq_getElem (by rw [HL.out]; exact hlt)]
            exact HSIX.out _ (List.getElem_mem _)
          have HOS := Lib.hid (offP_succ (ab := ab) (ls := ls) (j := j) (by rw [HL.out]; exact hlt))
          have hol := offP_le ab ls (j + 1)
          rw [HNB.out] at hol
          obtain ⟨s, hse⟩ : ∃ s, s = ls[j]?.getD [] := ⟨_, rfl⟩
          rw [← hse] at kx HTS hsl HOS
          clear hcl hce hse
          have HCS := Lib.hid (cut_size ab s)
          have HSP : Hid (ShortP 1000 (cutL ab s)) := Lib.hid (fun k => by have h1 := HCS.out.2 k; omega)
          obtain ⟨q, hq⟩ : ∃ q, q = pcost (cutL ab s) := ⟨_, rfl⟩
          have HPC := Lib.hid hq.symm
          have hqc : q ≤ costL s := by rw [hq, cut_cost]; exact least_le_cost _ _
          have hcs3 := costL_le s
          have hq3 : q ≤ 180 := by omega
          obtain ⟨p2, hp2⟩ : ∃ p2, p2 = p + (5 * (q + 1) + 7) / 8 := ⟨_, rfl⟩
          have HOF2 : Hid (p2 = offP ab ls (j + 1)) := Lib.hid (by
            rw [HOS.out, hp2, HOF.out]
            unfold bitsOf
            rw [packL_len, ccodes_len HTS.out, hq, cut_cost])
          have HP2 := Lib.hid hp2
          have HKC : ∀ u, Below wr.heap.size wr u → u.cell? ⟨w2.heap.size, 0, none⟩ = some (.slice Aa na ca) := fun u hu => (HKR.out.below hu HKR.out.lt).cell 0
          have hcell := HKC
          have t1 : ((p : Int) != (p : Int)) = false := by simp
          clear hq HKC hol
          clear hp2
          have hp2 := HP2.out
          go_wp2_with fail
          refine wp_region_held_drew (S := Below wr.heap.size wr) (by kernel_rfl) ((Below.refl _ _).drew) (fun hHeld => ?_)
          refine held_take (i := 0) (fuel := 7) (v := ?_) (by rw [List.getElem?_toArray]; rfl) (by kernel_rfl) (by kernel_rfl) (by kernel_rfl) hHeld ?_ ?_ ?_ ?_
          rotate_left
          · intro u hSw
            go_simp
            try with_reducible rfl
          · rfl
          · exact fun _ _ _ h => h
          try simp only [Act.put, List.setIfInBounds_toArray, List.set_cons_zero, List.set_cons_succ]
          refine held_take (i := 1) (fuel := 6) (v := ?_) (by rw [List.getElem?_toArray]; rfl) (by kernel_rfl) (by kernel_rfl) (by kernel_rfl) hHeld ?_ ?_ ?_ ?_
          rotate_left
          · intro u hSw
            go_simp
            try with_reducible rfl
          · rfl
          · exact fun _ _ _ h => h
          try simp only [Act.put, List.setIfInBounds_toArray, List.set_cons_zero, List.set_cons_succ]
          refine held_take (i := 2) (fuel := 5) (v := ?_) (by rw [List.getElem?_toArray]; rfl) (by kernel_rfl) (by kernel_rfl) (by kernel_rfl) hHeld ?_ ?_ ?_ ?_
          rotate_left
          · intro u hSw
            have hcu := hcell u hSw
            go_simp
            try with_reducible rfl
          · rfl
          · exact fun _ _ _ h => h
          try simp only [Act.put, List.setIfInBounds_toArray, List.set_cons_zero, List.set_cons_succ]
          refine held_take (i := 4) (fuel := 4) (v := ?_) (by rw [List.getElem?_toArray]; rfl) (by kernel_rfl) (by kernel_rfl) (by kernel_rfl) hHeld ?_ ?_ ?_ ?_
          rotate_left
          · intro u hSw
            go_simp
            try with_reducible rfl
          · rfl
          · exact fun _ _ _ h => h
          try simp only [Act.put, List.setIfInBounds_toArray, List.set_cons_zero, List.set_cons_succ]
          refine held_take (i := 5) (fuel := 3) (v := ?_) (by rw [List.getElem?_toArray]; rfl) (by kernel_rfl) (by kernel_rfl) (by kernel_rfl) hHeld ?_ ?_ ?_ ?_
          rotate_left
          · intro u hSw
            have hcu := hcell u hSw
            go_simp
            try with_reducible rfl
          · rfl
          · exact fun _ _ _ h => h
          try simp only [Act.put, List.setIfInBounds_toArray, List.set_cons_zero, List.set_cons_succ]
          refine held_one (i := 3) (fuel := 2) (by kernel_rfl) (by rw [List.getElem?_toArray]; rfl) (fun K hK => ?_)
          go_simp
          refine (cut_any _ (bs s) Aa na ca ab ((HRA.out.below (HBR0.out.trans (hHeld.mono HBR0.out.size))).more (Nat.le_trans HBR0.out.size hHeld.size)) HCA.out (by rw [bs_size]; omega) HZ1.out (by omega)).mono ?_
          rw [data_bs]
          rintro e w7 ⟨A7, m7, c7, rfl, ho7, hb7⟩
          refine hK.out _ _ ?_ (fun hHeld => ?_)
          · exact hHeld.trans (hb7.mono hHeld.size)
          clear hK K
          try simp only [Act.put, List.setIfInBounds_toArray, List.set_cons_zero, List.set_cons_succ]
          have R7 := Lib.hid (RdP.of_own ho7)
          have hm7 : m7 ≤ 60 := by
            have h1 := ownP_len ho7
            have h2 := HCS.out.1
            omega
          clear ho7 hb7
          refine held_one (i := 6) (fuel := 1) (by kernel_rfl) (by rw [List.getElem?_toArray]; rfl) (fun K hK => ?_)
          go_simp
          refine (pcosts_any _ A7 Aa m7 na c7 ca (cutL ab s) ab R7.out ((HRA.out.below (HBR0.out.trans (hHeld.mono HBR0.out.size))).more (Nat.le_trans HBR0.out.size hHeld.size)) HSP.out (by omega)).mono ?_
          rintro e w8 ⟨rfl, hb8⟩
          rw [HPC.out]
          refine hK.out _ _ ?_ (fun hHeld => ?_)
          · exact hHeld.trans (hb8.mono hHeld.size)
          clear hK K
          try simp only [Act.put, List.setIfInBounds_toArray, List.set_cons_zero, List.set_cons_succ]
          refine held_take (i := 7) (fuel := 0) (v := ?_) (by rw [List.getElem?_toArray]; rfl) (by kernel_rfl) (by kernel_rfl) (by kernel_rfl) hHeld ?_ ?_ ?_ ?_
          rotate_left
          · intro u hSw
            go_simp
            try with_reducible rfl
          · rfl
          · exact fun _ _ _ h => h
          try simp only [Act.put, List.setIfInBounds_toArray, List.set_cons_zero, List.set_cons_succ]
          refine wpAnyH_done (by kernel_rfl) ?_ _
          have HBR8 := Lib.hid (HBR0.out.trans (hHeld.mono HBR0.out.size))
          have HBW8 := Lib.hid (after8 HB2.out HBR8.out)
          have HKR8 := Lib.hid (HKR.out.below hHeld HKR.out.lt)
          clear hHeld
          go_wp2_with fail
          refine (cost_any _ (bs s) (by rw [bs_size]; omega)).mono ?_
          rw [data_bs]
          rintro e w9 ⟨rfl, hb9⟩
          have HBR9 := Lib.hid (after8 HBR8.out hb9)
          have HKR9 := Lib.hid (HKR8.out.below hb9 HKR8.out.lt)
          clear hb9
          obtain ⟨cs, hcs⟩ : ∃ cs, cs = costL s := ⟨_, rfl⟩
          rw [← hcs] at hqc ⊢
          clear hcs
          go_wp2_with fail
          go_roundw
          case rel => exact ⟨j + 1, p2, by omega, by go_num, by rw [hp2]; go_num, HOF2, HKR9, HBR9⟩
          case measure => simp [intOf]; omega
        · obtain rfl : j = nt := by omega
          have HPN : Hid (p = nb) := Lib.hid (by
            have h1 := HOF.out
            have h2 := HL.out
            rw [← h2, offP_all, HNB.out] at h1
            exact h1)
          have HBW := Lib.hid (after8 HB2.out HBR0.out)
          go_wp2_with fail
          refine (choose_any wr A j c ls 31 ((H.out.below HBW.out).more HBW.out.size) HC.out (by have := HL.out; have := HTT.out; omega) (HMX.out.up HBW.out)).mono ?_
          rintro e w5 ⟨A5, n5, c5, rfl, ho5, hb5⟩
          rw [← HAB.out] at ho5
          obtain rfl : n5 = na := by have h1 := ownS_len ho5; have h2 := HNA.out; omega
          have HR5 := Lib.hid (RdS.of_own ho5)
          have HBR5 := Lib.hid (after8 HBR0.out hb5)
          have HKR5 := Lib.hid (HKR.out.below hb5 HKR.out.lt)
          have g0 : w5.cell? ⟨w2.heap.size, 0, none⟩ = some (.slice Aa n5 ca) := HKR5.out.cell 0
          have t1 : ((n5 : Int) != (n5 : Int)) = false := by simp
          clear ho5 hb5 f0 f1 f2
          go_wp2_with fail
          go_loopw [78] (fun i wr => ∃ k : Nat, k ≤ n5 ∧ i = .int .i64 k ∧ Hid (Below w5.heap.size w5 wr)) (fun i _ => n5 - (intOf i).toNat)
          case atStart => exact ⟨0, Nat.zero_le _, rfl, Lib.hid (Below.refl _ _)⟩
          case round =>
            obtain ⟨k, hk, rfl, HQ⟩ := hrel
            have HKQ := Lib.hid (HKR5.out.below HQ.out HKR5.out.lt)
            clear g0
            have g0 : wr.cell? ⟨w2.heap.size, 0, none⟩ = some (.slice Aa n5 ca) := HKQ.out.cell 0
            have g2 : wr.cell? ⟨w2.heap.size, 2, none⟩ = some (.slice Ab nb cb) := HKQ.out.cell 2
            by_cases hkl : k < n5
            · obtain ⟨ad, rfl, hab, hcl⟩ := HR5.out.2 (by omega)
              have kx := (HQ.out.cell (p := ad.add k) (by rw [blk_add]; exact hab)).trans (hcl k (by rw [HR5.out.1]; exact hkl))
              obtain ⟨ae, rfl, haeb, hce⟩ := HRA.out.2 (by omega)
              have ky := ((HBR5.out.trans (HQ.out.mono HBR5.out.size)).cell (p := ae.add k) (by rw [blk_add]; exact haeb)).trans (hce k (by rw [HRA.out.1]; exact hkl))
              obtain ⟨s, hse⟩ : ∃ s, s = bs (ab[k]?.getD []) := ⟨_, rfl⟩
              rw [← hse] at kx ky
              have HQ2 : ∀ q, Hid (Below w5.heap.size w5 (wr.drewN q)) := fun q => Lib.hid (below_drewN HQ.out q)
              clear hcl hce hse
              go_wp2_with fail
              go_quiet (fail)
              go_wp2_with fail
              go_roundw
              case rel => exact ⟨k + 1, by omega, by go_num, HQ2 _⟩
              case measure => simp [intOf]; omega
            · have HBwr := Lib.hid (after8 HB2.out (HBR5.out.trans (HQ.out.mono HBR5.out.size)))
              have hpn := HPN.out
              subst hpn
              have t2 : ((p : Int) == (p : Int)) = true := by simp
              go_wp2_with fail
              refine (awake8_any wr (HMX.out.up HBwr.out)).mono ?_
              rintro e wz ⟨rfl, hbz⟩
              go_wp2_with fail
              go_ret
              exact ⟨rfl, after8 HBwr.out hbz⟩
    · have h9b : (er != 0) = true := by rw [bne_iff_ne]; exact h0
      clear z5
      go_wp2_with (refine wpList_store_row rfl 28 _ _ rfl w2.heap.size #[.slice Aa na ca, .slice At nt ct, .slice Ab nb cb] rfl rfl _ _ (Blk.new w2 _ _) pool_size rfl (three_one _ _ _ _ _ _ _ _ _) ?_; obtain ⟨V, hV⟩ : ∃ V, V = (w2.alloc (.cells #[.slice none 0 0, .slice none 0 0, .slice none 0 0] 28)).setRow w2.heap.size #[.slice Aa na ca, .slice At nt ct, .slice Ab nb cb] := ⟨_, rfl⟩; rw [← hV]; obtain ⟨hkV, hbV⟩ := put_pool hV; have HKV := Lib.hid hkV; have HBV := Lib.hid hbV; clear hV hkV hbV; have f0 : V.cell? ⟨w2.heap.size, 0, none⟩ = some (.slice Aa na ca) := HKV.out.cell 0; have f1 : V.cell? ⟨w2.heap.size, 1, none⟩ = some (.slice At nt ct) := HKV.out.cell 1; have f2 : V.cell? ⟨w2.heap.size, 2, none⟩ = some (.slice Ab nb cb) := HKV.out.cell 2)
      have HBW := Lib.hid (after8 HB2.out HBV.out)
      refine (awake8_any V (HMX.out.up HBW.out)).mono ?_
      rintro e wz ⟨rfl, hbz⟩
      go_wp2_with fail
      go_ret
      exact ⟨rfl, after8 HBW.out hbz⟩
  · rw [Bool.not_eq_true] at hf
    have HF := Lib.hid hf
    clear hf
    go_enter Tryd.func6, Tryd.ntmps6
    go_wp2_with fail
    refine (few8_any w w.heap.size A n c 24 60 ls H.out (Nat.le_refl _) (by decide)).mono ?_
    rintro e w1 ⟨rfl, hb1⟩
    rw [HF.out]
    have HB1 := Lib.hid hb1
    clear hb1
    go_wp2_with fail
    refine (awake8_any w1 (HMX.out.up HB1.out)).mono ?_
    rintro e w2 ⟨rfl, hb2⟩
    go_wp2_with fail
    go_ret
    exact ⟨rfl, after8 HB1.out hb2⟩

end Go.Proofs.YtpfkkmjodhpkoaaDoor
