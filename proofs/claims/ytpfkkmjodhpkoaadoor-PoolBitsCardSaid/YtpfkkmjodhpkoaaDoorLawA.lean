/- The walk of the statement PoolBack. -/
import Derived.Test.YtpfkkmjodhpkoaaDoorAwake8
import Derived.Test.YtpfkkmjodhpkoaaDoorPolR
import Derived.Test.YtpfkkmjodhpkoaaDoorTellsR
namespace Go.Proofs.YtpfkkmjodhpkoaaDoor
open Go.RowKit

theorem few8_facts {ls : List (List UInt8)} {many long : Nat} (h : few8 ls many long = true) : ls.length ≤ many ∧ (∀ x ∈ ls, x.length ≤ long) ∧ tot ls ≤ many * long := by
  unfold few8 at h
  rw [Bool.and_eq_true, decide_eq_true_eq, List.all_eq_true] at h
  obtain ⟨h1, h2⟩ := h
  have h3 : ∀ x ∈ ls, x.length ≤ long := fun x hx => by simpa using h2 x hx
  refine ⟨h1, h3, ?_⟩
  have key : ∀ l : List (List UInt8), (∀ x ∈ l, x.length ≤ long) → tot l ≤ l.length * long := by
    intro l
    induction l with
    | nil => intro _; exact Nat.zero_le _
    | cons x l ih =>
      intro hh
      have k1 := hh x (by simp)
      have k2 := ih (fun y hy => hh y (by simp [hy]))
      rw [tot_cons, List.length_cons, Nat.succ_mul]
      omega
  have k := key ls h3
  have := Nat.mul_le_mul_right long h1
  omega

theorem eqT_self (ls : List (List UInt8)) : eqT ls ls = true := by
  unfold eqT
  exact decide_eq_true rfl

set_option maxRecDepth 100000 in
set_option maxHeartbeats 6400000 in
theorem back_walk (A : Option Addr) (n c : Nat) (ls : List (List UInt8)) (w : World) (h : RdS w w.heap.size A n ls) (hc : n ≤ c) (hm : MaxL w) :
    Calls Tryd.prog 4 #[.slice A n c] w fun e w' => e = .returned (.bool true) ∧ Below w.heap.size w w' := by
  have H := Lib.hid h
  have HMX := Lib.hid hm
  have HC := Lib.hid hc
  have HL := Lib.hid h.1
  clear h hm hc
  by_cases hf : few8 ls 24 60 = true
  · obtain ⟨f1, f2, f3⟩ := few8_facts hf
    have HF := Lib.hid hf
    have HTT : Hid (ls.length + tot ls ≤ 10000) := Lib.hid (by omega)
    have HSH : Hid (Short_ 1000 ls) := Lib.hid (short_of_mem fun q hq => by have := f2 q hq; omega)
    have hn24 : n ≤ 24 := by have := HL.out; omega
    clear hf f1 f2 f3
    go_enter Tryd.func4, Tryd.ntmps4
    go_wp2_with fail
    refine (few8_any w w.heap.size A n c 24 60 ls H.out (Nat.le_refl _) (by decide)).mono ?_
    rintro e w1 ⟨rfl, hb1⟩
    rw [HF.out]
    have HB1 := Lib.hid hb1
    clear hb1
    go_wp2_with fail
    refine (pmake_any w1 A n c ls ((H.out.below HB1.out).more HB1.out.size) HC.out HSH.out (by have := HL.out; have := HTT.out; omega) (HMX.out.up HB1.out)).mono ?_
    rintro e w2 ⟨Aa, na, ca, At, nt, ct, Ab, nb, cb, rfl, hra, hrt, hrb, hcb, hct, hca, hb2⟩
    have HRA := Lib.hid hra
    have HRT := Lib.hid hrt
    have HRB := Lib.hid hrb
    have HCB := Lib.hid hcb
    have HB2 := Lib.hid (after8 HB1.out hb2)
    clear hra hrt hrb hcb hb2
    obtain ⟨z1, z2, z3, z4, z5⟩ := mk_sizes ls HTT.out
    have HZ1 := Lib.hid z1
    have hna : na ≤ 31 := by have := HRA.out.1; omega
    have hnb : nb ≤ 30000 := by have := HRB.out.1; omega
    have hnt : nt ≤ 24 := by have := HRT.out.1; have := HL.out; omega
    clear z1 z2 z3 z4
    obtain ⟨er, he⟩ : ∃ er, er = mkE ls := ⟨_, rfl⟩
    have HE := Lib.hid he.symm
    rw [← he]
    clear he
    by_cases h0 : er = 0
    · subst h0
      have HALL := Lib.hid (allL_mk HE.out)
      have HRI := Lib.hid (right_made HE.out)
      have HTX := Lib.hid (mkE_ok HE.out).2
      obtain rfl : nt = n := by have h1 := HRT.out.1; have h2 := z5 HE.out; have h3 := HL.out; omega
      clear z5
      go_wp2_with (refine wpList_store_row rfl 28 _ _ rfl w2.heap.size #[.slice Aa na ca, .slice At nt ct, .slice Ab nb cb] rfl rfl _ _ (Blk.new w2 _ _) pool_size rfl (three_one _ _ _ _ _ _ _ _ _) ?_; obtain ⟨V, hV⟩ : ∃ V, V = (w2.alloc (.cells #[.slice none 0 0, .slice none 0 0, .slice none 0 0] 28)).setRow w2.heap.size #[.slice Aa na ca, .slice At nt ct, .slice Ab nb cb] := ⟨_, rfl⟩; rw [← hV]; obtain ⟨hkV, hbV⟩ := put_pool hV; have HKV := Lib.hid hkV; have HBV := Lib.hid hbV; clear hV hkV hbV; have f0 : V.cell? ⟨w2.heap.size, 0, none⟩ = some (.slice Aa na ca) := HKV.out.cell 0; have f1 : V.cell? ⟨w2.heap.size, 1, none⟩ = some (.slice At nt ct) := HKV.out.cell 1; have f2 : V.cell? ⟨w2.heap.size, 2, none⟩ = some (.slice Ab nb cb) := HKV.out.cell 2)
      refine (pall_any V Aa At Ab na ca nt ct nb cb (mkA ls) (mkT ls) (mkB ls) ((HRA.out.below HBV.out).more HBV.out.size) ((HRT.out.below HBV.out).more HBV.out.size) ((HRB.out.below HBV.out).more HBV.out.size) HZ1.out (by omega) (by omega) (by omega) HCB.out).mono ?_
      rintro e V2 ⟨A2, n2, c2, rfl, ho2, hb2⟩
      rw [HALL.out] at ho2 ⊢
      obtain rfl : n2 = nt := by have h1 := ownS_len ho2; have h2 := HL.out; change ls.length = n2 at h1; omega
      have HR2 := Lib.hid (RdS.of_own ho2)
      have HBV2 := Lib.hid (after8 HBV.out hb2)
      have HKV2 := Lib.hid (HKV.out.below hb2 HKV.out.lt)
      clear f0 f1 f2
      have f0 : V2.cell? ⟨w2.heap.size, 0, none⟩ = some (.slice Aa na ca) := HKV2.out.cell 0
      have f1 : V2.cell? ⟨w2.heap.size, 1, none⟩ = some (.slice At n2 ct) := HKV2.out.cell 1
      have f2 : V2.cell? ⟨w2.heap.size, 2, none⟩ = some (.slice Ab nb cb) := HKV2.out.cell 2
      clear ho2 hb2
      have HBW2 := Lib.hid (after8 HB2.out HBV2.out)
      go_wp2_with fail
      refine (rtexts_any V2 _ _ A2 A n2 n2 c2 c ls ls HR2.out (H.out.below HBW2.out) (by omega) (by omega)).mono ?_
      rintro e V3 ⟨rfl, hb3⟩
      rw [eqT_self]
      have HBV3 := Lib.hid (after8 HBV2.out hb3)
      have HKV3 := Lib.hid (HKV2.out.below hb3 HKV2.out.lt)
      clear f0 f1 f2
      have f0 : V3.cell? ⟨w2.heap.size, 0, none⟩ = some (.slice Aa na ca) := HKV3.out.cell 0
      have f1 : V3.cell? ⟨w2.heap.size, 1, none⟩ = some (.slice At n2 ct) := HKV3.out.cell 1
      have f2 : V3.cell? ⟨w2.heap.size, 2, none⟩ = some (.slice Ab nb cb) := HKV3.out.cell 2
      clear hb3
      go_wp2_with fail
      refine (pcount_any V3 Aa At Ab na ca n2 ct nb cb).mono ?_
      rintro e V4 ⟨rfl, hb4⟩
      have HBV4 := Lib.hid (after8 HBV3.out hb4)
      have HKV4 := Lib.hid (HKV3.out.below hb4 HKV3.out.lt)
      clear f0 f1 f2
      have f0 : V4.cell? ⟨w2.heap.size, 0, none⟩ = some (.slice Aa na ca) := HKV4.out.cell 0
      have f1 : V4.cell? ⟨w2.heap.size, 1, none⟩ = some (.slice At n2 ct) := HKV4.out.cell 1
      have f2 : V4.cell? ⟨w2.heap.size, 2, none⟩ = some (.slice Ab nb cb) := HKV4.out.cell 2
      have HBW4 := Lib.hid (after8 HB2.out HBV4.out)
      clear hb4
      have t0 : ((n2 : Int) != (n2 : Int)) = false := by simp
      go_wp2_with fail
      refine (pright_any V4 Aa At Ab na ca n2 ct nb cb (mkA ls) (mkT ls) (mkB ls) ((HRA.out.below HBV4.out).more HBV4.out.size) ((HRT.out.below HBV4.out).more HBV4.out.size) ((HRB.out.below HBV4.out).more HBV4.out.size) HZ1.out (by omega) (by omega) (by omega) HCB.out (by rw [HALL.out]; exact HSH.out) (by rw [HALL.out]; exact HTT.out) (HMX.out.up HBW4.out)).mono ?_
      rintro e V5 ⟨rfl, hb5⟩
      rw [HRI.out]
      have HBV5 := Lib.hid (after8 HBV4.out hb5)
      have HKV5 := Lib.hid (HKV4.out.below hb5 HKV4.out.lt)
      clear f0 f1 f2
      have f0 : V5.cell? ⟨w2.heap.size, 0, none⟩ = some (.slice Aa na ca) := HKV5.out.cell 0
      have f1 : V5.cell? ⟨w2.heap.size, 1, none⟩ = some (.slice At n2 ct) := HKV5.out.cell 1
      have f2 : V5.cell? ⟨w2.heap.size, 2, none⟩ = some (.slice Ab nb cb) := HKV5.out.cell 2
      clear hb5
      go_wp2_with fail
      go_loopw [7] (fun i wr => ∃ j : Nat, j ≤ n2 ∧ i = .int .i64 j ∧ Hid (Blk wr w2.heap.size 28 #[.slice Aa na ca, .slice At n2 ct, .slice Ab nb cb]) ∧ Hid (Below w2.heap.size w2 wr)) (fun i _ => n2 - (intOf i).toNat)
      case atStart => exact ⟨0, Nat.zero_le _, rfl, HKV5, HBV5⟩
      case round =>
        obtain ⟨j, hj, rfl, HKR, HBR⟩ := hrel
        clear f0 f1 f2
        have f0 : wr.cell? ⟨w2.heap.size, 0, none⟩ = some (.slice Aa na ca) := HKR.out.cell 0
        have f1 : wr.cell? ⟨w2.heap.size, 1, none⟩ = some (.slice At n2 ct) := HKR.out.cell 1
        have f2 : wr.cell? ⟨w2.heap.size, 2, none⟩ = some (.slice Ab nb cb) := HKR.out.cell 2
        by_cases hlt : j < n2
        · have HTJ := Lib.hid (textAt_mk (i := j) HE.out (by rw [HL.out]; exact hlt))
          have HBW := Lib.hid (after8 HB2.out HBR.out)
          obtain ⟨ad, rfl, hab, hcell⟩ := H.out.2 (by omega)
          have hk := hcell j (by rw [HL.out]; exact hlt)
          have HTS : Hid (textB (ls[j]?.getD []) = true) := Lib.hid (by
            rw [List.getElem?_eq_getElem (by rw [HL.out]; exact hlt)]
            exact HTX.out _ (List.getElem_mem _))
          have hsl := HSH.out j
          obtain ⟨s, hse⟩ : ∃ s, s = ls[j]?.getD [] := ⟨_, rfl⟩
          rw [← hse] at hk HTJ HTS hsl
          have HK := Lib.hid hk
          clear hcell hse hk
          go_wp2_with fail
          refine (ptext_any wr Aa At Ab na ca n2 ct nb cb (mkA ls) (mkT ls) (mkB ls) j ((HRA.out.below HBR.out).more HBR.out.size) ((HRT.out.below HBR.out).more HBR.out.size) ((HRB.out.below HBR.out).more HBR.out.size) HZ1.out (by omega) (by omega) (by omega) HCB.out).mono ?_
          rintro e wx ⟨rfl, hbx⟩
          rw [HTJ.out]
          have HBX := Lib.hid (after8 HBR.out hbx)
          have HKX := Lib.hid (HKR.out.below hbx HKR.out.lt)
          have kx := ((after8 HB2.out HBX.out).cell (p := ad.add j) (by rw [blk_add]; exact hab)).trans HK.out
          clear hbx f0 f1 f2
          go_wp2_with fail
          refine (rtext_any wx (bs s) (by rw [bs_size]; omega)).mono ?_
          rintro e wy ⟨rfl, rfl⟩
          rw [data_bs, HTS.out]
          go_wp2_with fail
          go_roundw
          case rel => exact ⟨j + 1, by omega, by go_num, HKX, HBX⟩
          case measure => simp [intOf]; omega
        · have HBW := Lib.hid (after8 HB2.out HBR.out)
          go_wp2_with fail
          refine (awake8_any wr (HMX.out.up HBW.out)).mono ?_
          rintro e wz ⟨rfl, hbz⟩
          go_wp2_with fail
          go_ret
          exact ⟨rfl, after8 HBW.out hbz⟩
    · obtain rfl : nt = 0 := by have h1 := HRT.out.1; unfold mkT at h1; rw [if_neg (by rw [HE.out]; exact h0), List.length_nil] at h1; omega
      obtain rfl : na = 0 := by have h1 := HRA.out.1; unfold mkA at h1; rw [if_neg (by rw [HE.out]; exact h0), List.length_nil] at h1; omega
      obtain rfl : nb = 0 := by have h1 := HRB.out.1; unfold mkB at h1; rw [if_neg (by rw [HE.out]; exact h0), List.length_nil] at h1; omega
      have h9b : (er != 0) = true := by rw [bne_iff_ne]; exact h0
      clear z5
      go_wp2_with (refine wpList_store_row rfl 28 _ _ rfl w2.heap.size #[.slice Aa 0 ca, .slice At 0 ct, .slice Ab 0 cb] rfl rfl _ _ (Blk.new w2 _ _) pool_size rfl (three_one _ _ _ _ _ _ _ _ _) ?_; obtain ⟨V, hV⟩ : ∃ V, V = (w2.alloc (.cells #[.slice none 0 0, .slice none 0 0, .slice none 0 0] 28)).setRow w2.heap.size #[.slice Aa 0 ca, .slice At 0 ct, .slice Ab 0 cb] := ⟨_, rfl⟩; rw [← hV]; obtain ⟨hkV, hbV⟩ := put_pool hV; have HKV := Lib.hid hkV; have HBV := Lib.hid hbV; clear hV hkV hbV; have f0 : V.cell? ⟨w2.heap.size, 0, none⟩ = some (.slice Aa 0 ca) := HKV.out.cell 0; have f1 : V.cell? ⟨w2.heap.size, 1, none⟩ = some (.slice At 0 ct) := HKV.out.cell 1; have f2 : V.cell? ⟨w2.heap.size, 2, none⟩ = some (.slice Ab 0 cb) := HKV.out.cell 2)
      have HBW := Lib.hid (after8 HB2.out HBV.out)
      refine (awake8_any V (HMX.out.up HBW.out)).mono ?_
      rintro e wz ⟨rfl, hbz⟩
      go_wp2_with fail
      go_ret
      exact ⟨rfl, after8 HBW.out hbz⟩
  · rw [Bool.not_eq_true] at hf
    have HF := Lib.hid hf
    clear hf
    go_enter Tryd.func4, Tryd.ntmps4
    go_wp2_with fail
    refine (few8_any w w.heap.size A n c 24 60 ls H.out (Nat.le_refl _) (by decide)).mono ?_
    rintro e w1 ⟨rfl, hb1⟩
    rw [HF.out]
    have HB1 := Lib.hid hb1
    clear hb1
    go_wp2_with fail
    refine (awake8_any w1 (HMX.out.up HB1.out)).mono ?_
    rintro e w2 ⟨rfl, hb2⟩
    go_wp2_with fail
    go_ret
    exact ⟨rfl, after8 HB1.out hb2⟩

end Go.Proofs.YtpfkkmjodhpkoaaDoor
