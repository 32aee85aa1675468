/- Contract of the reference's Right. -/
import Derived.Test.YtpfkkmjodhpkoaaGreatDoorPolH
import Derived.Test.YtpfkkmjodhpkoaaGreatDoorPolG
namespace Go.Proofs.YtpfkkmjodhpkoaaGreatDoor
open Go.RowKit

set_option maxRecDepth 100000 in
set_option maxHeartbeats 6400000 in
theorem rright_any (w : World) (Aa At Ab : Option Addr) (na ca nt ct nb cb : Nat) (ab : List (List UInt8)) (at_ : List Int) (l : List UInt8) (ha : RdS w w.heap.size Aa na ab) (ht : RdI w w.heap.size At nt at_) (hb : Rd w w.heap.size Ab nb l)
    (hm : Short_ 1000 ab) (hna : (na : Int) ≤ 10000) (hnt : (nt : Int) ≤ 10000) (hnb : (nb : Int) ≤ 600) (hcb : nb ≤ cb) (hs : Short_ 1000 (allL ab at_ l).1) (htt : (allL ab at_ l).1.length + tot (allL ab at_ l).1 ≤ 10000) :
    Calls Tryz.prog 13 #[pv Aa na ca At nt ct Ab nb cb] w fun e w' => e = .returned (.bool (rightL ab at_ l)) ∧ Below w.heap.size w w' := by
  have HA := Lib.hid ha
  have HT := Lib.hid ht
  have HR := Lib.hid hb
  have HM := Lib.hid hm
  have HS := Lib.hid hs
  have HTT := Lib.hid htt
  have HB1 : Hid (Below w.heap.size w (w.alloc (.cells #[.slice Aa na ca, .slice At nt ct, .slice Ab nb cb] 26))) := Lib.hid ((Below.refl _ _).alloc (Nat.le_refl _) _)
  have HK1 : Hid (Blk (w.alloc (.cells #[.slice Aa na ca, .slice At nt ct, .slice Ab nb cb] 26)) w.heap.size 26 #[.slice Aa na ca, .slice At nt ct, .slice Ab nb cb]) := Lib.hid (Blk.new w _ _)
  have HE : Hid (rightL ab at_ l = (decide ((allL ab at_ l).2 = 0) && (decide (mkE (allL ab at_ l).1 = 0) && eqPool ab (mkA (allL ab at_ l).1) at_ (mkT (allL ab at_ l).1) l (mkB (allL ab at_ l).1)))) := Lib.hid rfl
  clear ha ht hb hm hs htt
  go_enter Tryz.func13, Tryz.ntmps13
  go_wp2_with fail
  refine (rPall_any _ Aa At Ab na ca nt ct nb cb ab at_ l ((HA.out.below HB1.out).more HB1.out.size) ((HT.out.below HB1.out).more HB1.out.size) ((HR.out.below HB1.out).more HB1.out.size) HM.out hna hnt hnb hcb).mono ?_
  rintro e w2 ⟨A2, n2, c2, rfl, ho2, hb2⟩
  have HB2 := Lib.hid (HB1.out.trans (hb2.mono HB1.out.size))
  have HK2 := Lib.hid (HK1.out.below hb2 HK1.out.lt)
  have HRS := Lib.hid (RdS.of_own ho2)
  clear ho2 hb2
  obtain ⟨⟨ts, er⟩, hr⟩ : ∃ r, r = allL ab at_ l := ⟨_, rfl⟩
  rw [← hr] at HE HRS HS HTT ⊢
  have HLT := Lib.hid HRS.out.1
  clear hr
  by_cases h0 : er = 0
  · subst h0
    have HE2 : Hid (rightL ab at_ l = (decide (mkE ts = 0) && eqPool ab (mkA ts) at_ (mkT ts) l (mkB ts))) := Lib.hid (by rw [HE.out]; rfl)
    go_wp2_with fail
    refine (rmake_any w2 A2 n2 c2 ts HRS.out HS.out (by have h1 := HTT.out; have h2 := HLT.out; change ts.length = n2 at h2; change ts.length + tot ts ≤ 10000 at h1; omega)).mono ?_
    rintro e w3 ⟨Aa3, na3, ca3, At3, nt3, ct3, Ab3, nb3, cb3, rfl, hra, hrt, hrb, hcb3, hct3, hca3, hb3⟩
    have HB3 := Lib.hid (HB2.out.trans (hb3.mono HB2.out.size))
    have HK3 := Lib.hid (HK2.out.below hb3 HK2.out.lt)
    have HRA := Lib.hid hra
    have HRT := Lib.hid hrt
    have HRB := Lib.hid hrb
    clear hra hrt hrb hb3
    have HZ : Hid (mkE ts = 0 → (na3 ≤ 31 ∧ nt3 ≤ 10000 ∧ nb3 ≤ 30000)) := Lib.hid (fun h => by
      have h1 := HRA.out.1
      have h2 := HRT.out.1
      have h3 := HRB.out.1
      have h4 := HTT.out
      change ts.length + tot ts ≤ 10000 at h4
      unfold mkA at h1
      unfold mkT at h2
      unfold mkB at h3
      rw [if_pos h] at h1 h2 h3
      rw [offs_len] at h2
      have h5 := (mk_ab ts).1
      have h6 := bitsP_len (ab := chooseL ts 31) (mkE_ok h).2
      omega)
    obtain ⟨er, he⟩ : ∃ er, er = mkE ts := ⟨_, rfl⟩
    rw [← he] at HE2 HZ ⊢
    clear he
    have HK4 : Hid (Blk ((w3.alloc (.cells #[.slice none 0 0, .slice none 0 0, .slice none 0 0] 26)).setRow w3.heap.size #[.slice Aa3 na3 ca3, .slice At3 nt3 ct3, .slice Ab3 nb3 cb3]) w3.heap.size 26 #[.slice Aa3 na3 ca3, .slice At3 nt3 ct3, .slice Ab3 nb3 cb3]) := Lib.hid (setRow_heap _ _ _ _ _ _ (Blk.new w3 _ _))
    have HB4 : Hid (Below w3.heap.size w3 ((w3.alloc (.cells #[.slice none 0 0, .slice none 0 0, .slice none 0 0] 26)).setRow w3.heap.size #[.slice Aa3 na3 ca3, .slice At3 nt3 ct3, .slice Ab3 nb3 cb3])) := Lib.hid (below_setRow ((Below.refl _ _).alloc (Nat.le_refl _) _) (Nat.le_refl _) _)
    by_cases h0 : er = 0
    · subst h0
      obtain ⟨z1, z2, z3⟩ := HZ.out rfl
      have HE3 : Hid (rightL ab at_ l = eqPool ab (mkA ts) at_ (mkT ts) l (mkB ts)) := Lib.hid (by rw [HE2.out]; rfl)
      go_wp2_with (refine wpList_store_row rfl 26 _ _ rfl w3.heap.size #[.slice Aa3 na3 ca3, .slice At3 nt3 ct3, .slice Ab3 nb3 cb3] rfl rfl _ _ (Blk.new w3 _ _) pool_size rfl (three_one _ _ _ _ _ _ _ _ _) ?_; obtain ⟨V, hV⟩ : ∃ V, V = (w3.alloc (.cells #[.slice none 0 0, .slice none 0 0, .slice none 0 0] 26)).setRow w3.heap.size #[.slice Aa3 na3 ca3, .slice At3 nt3 ct3, .slice Ab3 nb3 cb3] := ⟨_, rfl⟩; rw [← hV] at HK4 HB4 ⊢; clear hV; have HK5 := Lib.hid (HK3.out.below HB4.out HK3.out.lt); have f0 : V.cell? ⟨w3.heap.size, 0, none⟩ = some (.slice Aa3 na3 ca3) := HK4.out.cell 0; have f1 : V.cell? ⟨w3.heap.size, 1, none⟩ = some (.slice At3 nt3 ct3) := HK4.out.cell 1; have f2 : V.cell? ⟨w3.heap.size, 2, none⟩ = some (.slice Ab3 nb3 cb3) := HK4.out.cell 2; have g0 : V.cell? ⟨w.heap.size, 0, none⟩ = some (.slice Aa na ca) := HK5.out.cell 0; have g1 : V.cell? ⟨w.heap.size, 1, none⟩ = some (.slice At nt ct) := HK5.out.cell 1; have g2 : V.cell? ⟨w.heap.size, 2, none⟩ = some (.slice Ab nb cb) := HK5.out.cell 2)
      have HBV := Lib.hid (HB3.out.trans (HB4.out.mono HB3.out.size))
      refine (rPsamePool_any V Aa At Ab Aa3 At3 Ab3 na ca nt ct nb cb na3 ca3 nt3 ct3 nb3 cb3 ab (mkA ts) at_ (mkT ts) l (mkB ts) ((HA.out.below HBV.out).more HBV.out.size) ((HT.out.below HBV.out).more HBV.out.size) ((HR.out.below HBV.out).more HBV.out.size)
        ((HRA.out.below HB4.out).more HB4.out.size) ((HRT.out.below HB4.out).more HB4.out.size) ((HRB.out.below HB4.out).more HB4.out.size) (by omega) (by omega) (by omega) (by omega)).mono ?_
      rintro e w5 ⟨rfl, hb5⟩
      have HB5 := Lib.hid (HBV.out.trans (hb5.mono HBV.out.size))
      clear hb5
      rw [← HE3.out]
      obtain ⟨q, hq⟩ : ∃ q, q = rightL ab at_ l := ⟨_, rfl⟩
      rw [← hq]
      have HQ := Lib.hid hq
      clear hq f0 f1 f2 g0 g1 g2
      go_wp2_with fail
      go_ret
      exact ⟨bool_ret8 HQ.out, HB5.out⟩
    · have HE3 : Hid (rightL ab at_ l = false) := Lib.hid (by rw [HE2.out, decide_eq_false h0]; rfl)
      have h9b : (er == 0) = false := by rw [beq_eq_false_iff_ne]; exact h0
      go_wp2_with (refine wpList_store_row rfl 26 _ _ rfl w3.heap.size #[.slice Aa3 na3 ca3, .slice At3 nt3 ct3, .slice Ab3 nb3 cb3] rfl rfl _ _ (Blk.new w3 _ _) pool_size rfl (three_one _ _ _ _ _ _ _ _ _) ?_)
      go_ret
      exact ⟨bool_ret8 HE3.out.symm, HB3.out.trans (HB4.out.mono HB3.out.size)⟩
  · have HE2 : Hid (rightL ab at_ l = false) := Lib.hid (by rw [HE.out, decide_eq_false h0]; rfl)
    have h9b : (er != 0) = true := by rw [bne_iff_ne]; exact h0
    go_wp2_with fail
    go_ret
    exact ⟨bool_ret8 HE2.out.symm, HB2.out⟩

end Go.Proofs.YtpfkkmjodhpkoaaGreatDoor
