/- Contract of chapter 8's examples, which every statement of the layer asks. -/
import Derived.Test.YtpfkkmjodhpkoaaDoorPolG
namespace Go.Proofs.YtpfkkmjodhpkoaaDoor
open Go.RowKit

def lamp8 : List UInt8 := [108, 97, 109, 112]
def oil8 : List UInt8 := [111, 105, 108, 32, 108, 97, 109, 112]
theorem ex8_e : mkE [lamp8, oil8] = 0 := by decide
theorem ex8_t : mkE [[9]] = 13 := by decide
theorem ex8_r : textAt [] [5] [] 0 = ([], 5) := by decide

set_option maxRecDepth 100000 in
set_option maxHeartbeats 6400000 in
theorem awake8_any (w : World) (hm : MaxL w) : Calls Tryd.prog 8 #[] w fun e w' => e = .returned (.bool true) ∧ Below w.heap.size w w' := by
  have HMX := Lib.hid hm
  clear hm
  go_enter Tryd.func8, Tryd.ntmps8
  go_wp2_with fail
  refine (pmake_any _ _ 2 2 [lamp8, oil8] (RdS.new_at w _ rfl _ _ _ rfl 2 rfl) (by omega) (short_of_mem fun q hq => by simp at hq; rcases hq with rfl | rfl <;> decide) (by decide) (HMX.out.up (al8 w _))).mono ?_
  rintro e w1 ⟨Aa, na, ca, At, nt, ct, Ab, nb, cb, rfl, hra, hrt, hrb, hcb, hct, hca, hb1⟩
  rw [ex8_e]
  obtain ⟨z1, z2, z3, z4, z5⟩ := mk_sizes [lamp8, oil8] (by decide)
  have HZ1 := Lib.hid z1
  have hna : na ≤ 31 := by have := hra.1; omega
  have hnb : nb ≤ 30000 := by have := hrb.1; omega
  obtain rfl : nt = 2 := by have := hrt.1; have := z5 ex8_e; simp at this; omega
  have HRA := Lib.hid hra
  have HRT := Lib.hid hrt
  have HRB := Lib.hid hrb
  have HB1 := Lib.hid (after8 (al8 w _) hb1)
  have E1 : Hid (textAt (mkA [lamp8, oil8]) (mkT [lamp8, oil8]) (mkB [lamp8, oil8]) 1 = (oil8, 0)) := Lib.hid (textAt_mk (i := 1) ex8_e (by decide))
  have E2 : Hid (textAt (mkA [lamp8, oil8]) (mkT [lamp8, oil8]) (mkB [lamp8, oil8]) 2 = ([], 11)) := Lib.hid (textAt_over (by rw [z5 ex8_e]; decide))
  have HCB := Lib.hid hcb
  clear hra hrt hrb hb1 z1 z2 z3 z4 z5 hcb
  go_wp2_with (refine wpList_store_row rfl 28 _ _ rfl w1.heap.size #[.slice Aa na ca, .slice At 2 ct, .slice Ab nb cb] rfl rfl _ _ (Blk.new w1 _ _) pool_size rfl (three_one _ _ _ _ _ _ _ _ _) ?_; obtain ⟨V1, hV1⟩ : ∃ V, V = (w1.alloc (.cells #[.slice none 0 0, .slice none 0 0, .slice none 0 0] 28)).setRow w1.heap.size #[.slice Aa na ca, .slice At 2 ct, .slice Ab nb cb] := ⟨_, rfl⟩; rw [← hV1]; obtain ⟨hkV1, hbV1⟩ := put_pool hV1; have HKV1 := Lib.hid hkV1; have HBV1 := Lib.hid hbV1; clear hV1 hkV1 hbV1; have f0 : V1.cell? ⟨w1.heap.size, 0, none⟩ = some (.slice Aa na ca) := HKV1.out.cell 0; have f1 : V1.cell? ⟨w1.heap.size, 1, none⟩ = some (.slice At 2 ct) := HKV1.out.cell 1; have f2 : V1.cell? ⟨w1.heap.size, 2, none⟩ = some (.slice Ab nb cb) := HKV1.out.cell 2)
  refine (ptext_any V1 Aa At Ab na ca 2 ct nb cb (mkA [lamp8, oil8]) (mkT [lamp8, oil8]) (mkB [lamp8, oil8]) 1 ((HRA.out.below HBV1.out).more HBV1.out.size) ((HRT.out.below HBV1.out).more HBV1.out.size) ((HRB.out.below HBV1.out).more HBV1.out.size) HZ1.out (by omega) (by decide) (by omega) HCB.out).mono ?_
  rintro e V2 ⟨rfl, hb2⟩
  rw [E1.out]
  have HBV2 := Lib.hid (after8 HBV1.out hb2)
  have HKV2 := Lib.hid (HKV1.out.below hb2 HKV1.out.lt)
  clear f0 f1 f2
  have f0 : V2.cell? ⟨w1.heap.size, 0, none⟩ = some (.slice Aa na ca) := HKV2.out.cell 0
  have f1 : V2.cell? ⟨w1.heap.size, 1, none⟩ = some (.slice At 2 ct) := HKV2.out.cell 1
  have f2 : V2.cell? ⟨w1.heap.size, 2, none⟩ = some (.slice Ab nb cb) := HKV2.out.cell 2
  clear hb2
  go_wp2_with fail
  refine (ptext_any V2 Aa At Ab na ca 2 ct nb cb (mkA [lamp8, oil8]) (mkT [lamp8, oil8]) (mkB [lamp8, oil8]) 2 ((HRA.out.below HBV2.out).more HBV2.out.size) ((HRT.out.below HBV2.out).more HBV2.out.size) ((HRB.out.below HBV2.out).more HBV2.out.size) HZ1.out (by omega) (by decide) (by omega) HCB.out).mono ?_
  rintro e V3 ⟨rfl, hb3⟩
  rw [E2.out]
  have HBV3 := Lib.hid (after8 HBV2.out hb3)
  have HKV3 := Lib.hid (HKV2.out.below hb3 HKV2.out.lt)
  clear f0 f1 f2
  have f0 : V3.cell? ⟨w1.heap.size, 0, none⟩ = some (.slice Aa na ca) := HKV3.out.cell 0
  have f1 : V3.cell? ⟨w1.heap.size, 1, none⟩ = some (.slice At 2 ct) := HKV3.out.cell 1
  have f2 : V3.cell? ⟨w1.heap.size, 2, none⟩ = some (.slice Ab nb cb) := HKV3.out.cell 2
  have HBW3 := Lib.hid (after8 HB1.out HBV3.out)
  clear hb3
  go_wp2_with fail
  refine (pmake_any _ _ 1 1 [[9]] (RdS.new_at V3 _ rfl _ _ _ rfl 1 rfl) (by omega) (short_of_mem fun q hq => by simp at hq; subst hq; decide) (by decide) (HMX.out.up (after8 HBW3.out (al8 V3 _)))).mono ?_
  rintro e w4 ⟨Aa4, na4, ca4, At4, nt4, ct4, Ab4, nb4, cb4, rfl, hra4, hrt4, hrb4, hcb4, hct4, hca4, hb4⟩
  rw [ex8_t]
  have HB34 := Lib.hid (after8 (al8 V3 _) hb4)
  clear hra4 hrt4 hrb4 hb4
  go_wp2_with (refine wpList_store_row rfl 28 _ _ rfl w4.heap.size #[.slice Aa4 na4 ca4, .slice At4 nt4 ct4, .slice Ab4 nb4 cb4] rfl rfl _ _ (Blk.new w4 _ _) pool_size rfl (three_one _ _ _ _ _ _ _ _ _) ?_; obtain ⟨V5, hV5⟩ : ∃ V, V = (w4.alloc (.cells #[.slice none 0 0, .slice none 0 0, .slice none 0 0] 28)).setRow w4.heap.size #[.slice Aa4 na4 ca4, .slice At4 nt4 ct4, .slice Ab4 nb4 cb4] := ⟨_, rfl⟩; rw [← hV5]; obtain ⟨hkV5, hbV5⟩ := put_pool hV5; have HKV5 := Lib.hid hkV5; have HBV5 := Lib.hid hbV5; clear hV5 hkV5 hbV5; have f0 : V5.cell? ⟨w4.heap.size, 0, none⟩ = some (.slice Aa4 na4 ca4) := HKV5.out.cell 0; have f1 : V5.cell? ⟨w4.heap.size, 1, none⟩ = some (.slice At4 nt4 ct4) := HKV5.out.cell 1; have f2 : V5.cell? ⟨w4.heap.size, 2, none⟩ = some (.slice Ab4 nb4 cb4) := HKV5.out.cell 2)
  clear f0 f1 f2
  have HB35 := Lib.hid (after8 HB34.out HBV5.out)
  have HBW5 := Lib.hid (after8 HBW3.out HB35.out)
  refine (ptext_any _ none (some ⟨V5.heap.size, 0, none⟩) none 0 0 1 1 0 0 [] [5] [] 0 (RdS.nil _ _ _) ((RdI.lit_at V5 V5.heap.size rfl [5] (FitI.of_mem (by simp)) 3 _ rfl).more (by simp)) (Rd.nil _ _) (short_of_mem fun q hq => (by cases hq)) (by decide) (by decide) (by decide) (Nat.le_refl _)).mono ?_
  rintro e V6 ⟨rfl, hb6⟩
  rw [ex8_r]
  have HB36 := Lib.hid (after8 HB35.out (after8 (al8 V5 _) hb6))
  have HKV6 := Lib.hid (HKV3.out.below HB36.out HKV3.out.lt)
  have f0 : V6.cell? ⟨w1.heap.size, 0, none⟩ = some (.slice Aa na ca) := HKV6.out.cell 0
  have f1 : V6.cell? ⟨w1.heap.size, 1, none⟩ = some (.slice At 2 ct) := HKV6.out.cell 1
  have f2 : V6.cell? ⟨w1.heap.size, 2, none⟩ = some (.slice Ab nb cb) := HKV6.out.cell 2
  have HBW6 := Lib.hid (after8 HBW3.out HB36.out)
  clear hb6
  go_wp2_with fail
  refine (pcount_any V6 Aa At Ab na ca 2 ct nb cb).mono ?_
  rintro e V7 ⟨rfl, hb7⟩
  have HBW7 := Lib.hid (after8 HBW6.out hb7)
  clear hb7 f0 f1 f2
  have t9 : (bs oil8).toList = [111, 105, 108, 32, 108, 97, 109, 112] := by rw [ByteArray.toList_eq]; rfl
  go_wp2_with fail
  go_ret
  exact ⟨rfl, HBW7.out⟩

end Go.Proofs.YtpfkkmjodhpkoaaDoor
