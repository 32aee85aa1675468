/- The walk of the statement PoolMakes. -/
import Derived.Test.YtpfkkmjodhpkoaaDoorLawA
import Derived.Test.YtpfkkmjodhpkoaaDoorPolH
namespace Go.Proofs.YtpfkkmjodhpkoaaDoor
open Go.RowKit

set_option maxRecDepth 100000 in
set_option maxHeartbeats 6400000 in
theorem makes_walk (A : Option Addr) (n c : Nat) (ls : List (List UInt8)) (w : World) (h : RdS w w.heap.size A n ls) (hc : n ≤ c) (hm : MaxL w) :
    Calls Tryd.prog 3 #[.slice A n c] w fun e w' => e = .returned (.bool true) ∧ Below w.heap.size w w' := by
  have H := Lib.hid h
  have HMX := Lib.hid hm
  have HC := Lib.hid hc
  have HL := Lib.hid h.1
  clear h hm hc
  by_cases hf : few8 ls 24 60 = true
  · obtain ⟨f1, f2, f3⟩ := few8_facts hf
    have HF := Lib.hid hf
    have HTT : Hid (ls.length + tot ls ≤ 10000) := Lib.hid (by omega)
    have HSH : Hid (Short_ 1000 ls) := Lib.hid (short_of_mem fun q hq => by have := f2 q hq; omega)
    have hn24 : n ≤ 24 := by have := HL.out; omega
    clear hf f1 f2 f3
    go_enter Tryd.func3, Tryd.ntmps3
    go_wp2_with fail
    refine (few8_any w w.heap.size A n c 24 60 ls H.out (Nat.le_refl _) (by decide)).mono ?_
    rintro e w1 ⟨rfl, hb1⟩
    rw [HF.out]
    have HB1 := Lib.hid hb1
    clear hb1
    go_wp2_with fail
    refine (pmake_any w1 A n c ls ((H.out.below HB1.out).more HB1.out.size) HC.out HSH.out (by have := HL.out; have := HTT.out; omega) (HMX.out.up HB1.out)).mono ?_
    rintro e w2 ⟨Aa, na, ca, At, nt, ct, Ab, nb, cb, rfl, hra, hrt, hrb, hcb, hct, hca, hb2⟩
    have HRA := Lib.hid hra
    have HRT := Lib.hid hrt
    have HRB := Lib.hid hrb
    have HCB := Lib.hid hcb
    have HB2 := Lib.hid (after8 HB1.out hb2)
    clear hra hrt hrb hcb hb2
    obtain ⟨z1, z2, z3, z4, z5⟩ := mk_sizes ls HTT.out
    have HZ1 := Lib.hid z1
    have hna : na ≤ 31 := by have := HRA.out.1; omega
    have hnb : nb ≤ 30000 := by have := HRB.out.1; omega
    have hnt : nt ≤ 24 := by have := HRT.out.1; have := HL.out; omega
    clear z1 z2 z3 z4
    obtain ⟨er, he⟩ : ∃ er, er = mkE ls := ⟨_, rfl⟩
    have HE := Lib.hid he.symm
    rw [← he]
    go_wp2_with (refine wpList_store_row rfl 28 _ _ rfl w2.heap.size #[.slice Aa na ca, .slice At nt ct, .slice Ab nb cb] rfl rfl _ _ (Blk.new w2 _ _) pool_size rfl (three_one _ _ _ _ _ _ _ _ _) ?_; obtain ⟨V, hV⟩ : ∃ V, V = (w2.alloc (.cells #[.slice none 0 0, .slice none 0 0, .slice none 0 0] 28)).setRow w2.heap.size #[.slice Aa na ca, .slice At nt ct, .slice Ab nb cb] := ⟨_, rfl⟩; rw [← hV]; obtain ⟨hkV, hbV⟩ := put_pool hV; have HKV := Lib.hid hkV; have HBV := Lib.hid hbV; clear hV hkV hbV; have f0 : V.cell? ⟨w2.heap.size, 0, none⟩ = some (.slice Aa na ca) := HKV.out.cell 0; have f1 : V.cell? ⟨w2.heap.size, 1, none⟩ = some (.slice At nt ct) := HKV.out.cell 1; have f2 : V.cell? ⟨w2.heap.size, 2, none⟩ = some (.slice Ab nb cb) := HKV.out.cell 2)
    have HBW := Lib.hid (after8 HB2.out HBV.out)
    refine (rmake_any V A n c ls ((H.out.below HBW.out).more HBW.out.size) HSH.out (by have := HL.out; have := HTT.out; omega)).mono ?_
    rintro e w4 ⟨Aa4, na4, ca4, At4, nt4, ct4, Ab4, nb4, cb4, rfl, hra4, hrt4, hrb4, hcb4, hct4, hca4, hb4⟩
    rw [← he]
    have HRA4 := Lib.hid hra4
    have HRT4 := Lib.hid hrt4
    have HRB4 := Lib.hid hrb4
    have HBV4 := Lib.hid (after8 HBV.out hb4)
    have HKV4 := Lib.hid (HKV.out.below hb4 HKV.out.lt)
    obtain ⟨z1, z2, z3, z4, z5⟩ := mk_sizes ls HTT.out
    have hna4 : na4 ≤ 31 := by have := HRA4.out.1; omega
    have hnb4 : nb4 ≤ 30000 := by have := HRB4.out.1; omega
    have hnt4 : nt4 ≤ 24 := by have := HRT4.out.1; have := HL.out; omega
    clear hra4 hrt4 hrb4 hb4 f0 f1 f2 he z1 z2 z3 z4 z5
    go_wp2_with (refine wpList_store_row rfl 28 _ _ rfl w4.heap.size #[.slice Aa4 na4 ca4, .slice At4 nt4 ct4, .slice Ab4 nb4 cb4] rfl rfl _ _ (Blk.new w4 _ _) pool_size rfl (three_one _ _ _ _ _ _ _ _ _) ?_; obtain ⟨X1, hX1⟩ : ∃ V, V = (w4.alloc (.cells #[.slice none 0 0, .slice none 0 0, .slice none 0 0] 28)).setRow w4.heap.size #[.slice Aa4 na4 ca4, .slice At4 nt4 ct4, .slice Ab4 nb4 cb4] := ⟨_, rfl⟩; rw [← hX1]; obtain ⟨hkX1, hbX1⟩ := put_pool hX1; have HKX1 := Lib.hid hkX1; have HBX1 := Lib.hid hbX1; clear hX1 hkX1 hbX1; have f0 : X1.cell? ⟨w4.heap.size, 0, none⟩ = some (.slice Aa4 na4 ca4) := HKX1.out.cell 0; have f1 : X1.cell? ⟨w4.heap.size, 1, none⟩ = some (.slice At4 nt4 ct4) := HKX1.out.cell 1; have f2 : X1.cell? ⟨w4.heap.size, 2, none⟩ = some (.slice Ab4 nb4 cb4) := HKX1.out.cell 2; have HKP := Lib.hid (HKV4.out.below HBX1.out HKV4.out.lt); have g0 : X1.cell? ⟨w2.heap.size, 0, none⟩ = some (.slice Aa na ca) := HKP.out.cell 0; have g1 : X1.cell? ⟨w2.heap.size, 1, none⟩ = some (.slice At nt ct) := HKP.out.cell 1; have g2 : X1.cell? ⟨w2.heap.size, 2, none⟩ = some (.slice Ab nb cb) := HKP.out.cell 2; have t0 : (er == er) = true := by simp)
    have HBX := Lib.hid (after8 HBV4.out HBX1.out)
    have HBWX := Lib.hid (after8 HB2.out HBX.out)
    refine (rPsamePool_any X1 Aa At Ab Aa4 At4 Ab4 na ca nt ct nb cb na4 ca4 nt4 ct4 nb4 cb4 (mkA ls) (mkA ls) (mkT ls) (mkT ls) (mkB ls) (mkB ls) ((HRA.out.below HBX.out).more HBX.out.size) ((HRT.out.below HBX.out).more HBX.out.size) ((HRB.out.below HBX.out).more HBX.out.size) ((HRA4.out.below HBX1.out).more HBX1.out.size) ((HRT4.out.below HBX1.out).more HBX1.out.size) ((HRB4.out.below HBX1.out).more HBX1.out.size) (by omega) (by omega) (by omega) (by omega)).mono ?_
    rintro e w6 ⟨rfl, hb6⟩
    rw [eqPool_self]
    have HB6 := Lib.hid (after8 HBWX.out hb6)
    clear hb6 f0 f1 f2 g0 g1 g2
    go_wp2_with fail
    refine (awake8_any w6 (HMX.out.up HB6.out)).mono ?_
    rintro e wz ⟨rfl, hbz⟩
    go_wp2_with fail
    go_ret
    exact ⟨rfl, after8 HB6.out hbz⟩
  · rw [Bool.not_eq_true] at hf
    have HF := Lib.hid hf
    clear hf
    go_enter Tryd.func3, Tryd.ntmps3
    go_wp2_with fail
    refine (few8_any w w.heap.size A n c 24 60 ls H.out (Nat.le_refl _) (by decide)).mono ?_
    rintro e w1 ⟨rfl, hb1⟩
    rw [HF.out]
    have HB1 := Lib.hid hb1
    clear hb1
    go_wp2_with fail
    refine (awake8_any w1 (HMX.out.up HB1.out)).mono ?_
    rintro e w2 ⟨rfl, hb2⟩
    go_wp2_with fail
    go_ret
    exact ⟨rfl, after8 HB1.out hb2⟩

end Go.Proofs.YtpfkkmjodhpkoaaDoor
