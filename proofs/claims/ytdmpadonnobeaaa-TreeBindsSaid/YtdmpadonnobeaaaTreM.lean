/- Contract of the reference's params. -/
import Derived.Test.YtdmpadonnobeaaaTreT
import Derived.Test.YtdmpadonnobeaaaTreH
import Derived.BigQuiet
namespace Go.Proofs.Ytdmpadonnobeaaa
open Go.RowKit

theorem tabs_size : (Try.prog.info? 37).map (·.size) = some 15 := by kernel_rfl

set_option maxRecDepth 100000 in
set_option maxHeartbeats 6400000 in
theorem r10params_any (T : TV) (f : Int) (w : World) (hin : T.In w w.heap.size) :
    Calls Try.prog 66 #[T.val, .int .i64 f] w fun r w' => r = .returned (.int .i64 (paramsT T.tb f)) ∧ Below w.heap.size w w' := by
  obtain ⟨t1, t2, t3, t4, S1, m1, k1, fl, S2, m2, k2, S3, m3, k3, S4, m4, k4, S5, m5, k5, S6, m6, k6, S7, m7, k7, S8, m8, k8, S9, m9, k9, S10, m10, k10, fs, ps⟩ := T
  obtain ⟨⟨_, _, _, hm7, _, hm9⟩, hf, hp⟩ := hin
  change (m7 : Int) ≤ 9223372036854775807 at hm7
  change (m9 : Int) ≤ 9223372036854775807 at hm9
  change RdI w w.heap.size S7 m7 fs at hf
  change RdI w w.heap.size S9 m9 ps at hp
  show Calls Try.prog _ #[.agg #[.int .i64 t1, .int .i64 t2, .int .i64 t3, .int .i64 t4, .slice S1 m1 k1, .int .i64 fl, .slice S2 m2 k2, .slice S3 m3 k3, .slice S4 m4 k4, .slice S5 m5 k5, .slice S6 m6 k6, .slice S7 m7 k7, .slice S8 m8 k8, .slice S9 m9 k9, .slice S10 m10 k10], .int .i64 f] w fun r w' => r = .returned (.int .i64 (paramsT (TB.mk m1 fl m2 m3 m8 fs ps) f)) ∧ Below w.heap.size w w'
  obtain ⟨W, hW⟩ : ∃ W, W = w.alloc (.cells #[.int .i64 t1, .int .i64 t2, .int .i64 t3, .int .i64 t4, .slice S1 m1 k1, .int .i64 fl, .slice S2 m2 k2, .slice S3 m3 k3, .slice S4 m4 k4, .slice S5 m5 k5, .slice S6 m6 k6, .slice S7 m7 k7, .slice S8 m8 k8, .slice S9 m9 k9, .slice S10 m10 k10] 37) := ⟨_, rfl⟩
  have HBW : Hid (Below w.heap.size w W) := Lib.hid (by rw [hW]; exact (Below.refl _ _).alloc (Nat.le_refl _) _)
  have HK : Hid (Blk W w.heap.size 37 #[.int .i64 t1, .int .i64 t2, .int .i64 t3, .int .i64 t4, .slice S1 m1 k1, .int .i64 fl, .slice S2 m2 k2, .slice S3 m3 k3, .slice S4 m4 k4, .slice S5 m5 k5, .slice S6 m6 k6, .slice S7 m7 k7, .slice S8 m8 k8, .slice S9 m9 k9, .slice S10 m10 k10]) := Lib.hid (by rw [hW]; exact Blk.new _ _ _)
  have c11 : W.cell? ⟨w.heap.size, 11, none⟩ = some (.slice S7 m7 k7) := HK.out.cell 11
  have c13 : W.cell? ⟨w.heap.size, 13, none⟩ = some (.slice S9 m9 k9) := HK.out.cell 13
  have hfl := hf.1
  have hpl := hp.1
  have w7 : IntKind.i64.wrap ((m7 : Int) - 1) = (m7 : Int) - 1 := by rw [IntKind.wrap_i64]; omega
  have w9 : IntKind.i64.wrap ((m9 : Int) - 1) = (m9 : Int) - 1 := by rw [IntKind.wrap_i64]; omega
  obtain ⟨r, hr⟩ : ∃ r, r = paramsT (TB.mk m1 fl m2 m3 m8 fs ps) f := ⟨_, rfl⟩
  rw [← hr]
  have HRR := Lib.hid hr
  clear hr
  by_cases h1 : 0 ≤ f ∧ f ≤ (m7 : Int) - 1
  · have e1 : amongB f 0 ((m7 : Int) - 1) = true := by unfold amongB; simp [h1.1, h1.2]
    have hA1 : ∀ u : World, Calls Try.prog 55 #[.int .i64 f, .int .i64 0, .int .i64 ((m7 : Int) - 1)] u fun e u' => e = .returned (.bool true) ∧ u' = u := fun u => by
      have := r10among_any u f 0 ((m7 : Int) - 1)
      rw [e1] at this
      exact this.mono fun _ _ ⟨he, hw⟩ => ⟨he, hw.symm⟩
    obtain ⟨j, hj⟩ : ∃ j : Nat, (j : Int) = f := ⟨f.toNat, by omega⟩
    obtain ⟨ad, rfl, hab, hc⟩ := hf.2.1 (by omega)
    have hcj := hc j (by omega)
    obtain ⟨v, hv⟩ : ∃ v, v = fs.getD j 0 := ⟨_, rfl⟩
    have hvr := hf.2.2 j
    rw [← hv] at hcj hvr
    have cf : W.cell? (ad.add j) = some (.int .i64 v) := (HBW.out.cell (by rw [blk_add]; exact hab)).trans hcj
    have i1 : 0 ≤ (j : Int) ∧ (j : Int) < (m7 : Int) := by omega
    subst hj
    have HA1 := Lib.hid hA1
    clear hA1
    by_cases h2 : 0 ≤ v ∧ v ≤ (m9 : Int) - 1
    · have e2 : amongB v 0 ((m9 : Int) - 1) = true := by unfold amongB; simp [h2.1, h2.2]
      have hA2 : ∀ u : World, Calls Try.prog 55 #[.int .i64 v, .int .i64 0, .int .i64 ((m9 : Int) - 1)] u fun e u' => e = .returned (.bool true) ∧ u' = u := fun u => by
        have := r10among_any u v 0 ((m9 : Int) - 1)
        rw [e2] at this
        exact this.mono fun _ _ ⟨he, hw⟩ => ⟨he, hw.symm⟩
      obtain ⟨i, hi⟩ : ∃ i : Nat, (i : Int) = v := ⟨v.toNat, by omega⟩
      obtain ⟨bd, rfl, hbb, hd⟩ := hp.2.1 (by omega)
      have hdi := hd i (by omega)
      obtain ⟨z, hz⟩ : ∃ z, z = ps.getD i 0 := ⟨_, rfl⟩
      rw [← hz] at hdi
      have cp : W.cell? (bd.add i) = some (.int .i64 z) := (HBW.out.cell (by rw [blk_add]; exact hbb)).trans hdi
      have i2 : 0 ≤ (i : Int) ∧ (i : Int) < (m9 : Int) := by omega
      have HRZ : Hid (r = z) := Lib.hid (by
        rw [HRR.out]
        unfold paramsT
        rw [show (TB.mk m1 fl m2 m3 m8 fs ps).funcs = fs from rfl, show (TB.mk m1 fl m2 m3 m8 fs ps).params = ps from rfl, hfl, hpl, Int.toNat_natCast, ← hv, if_pos ⟨e1, e2⟩, ← hi, Int.toNat_natCast, hz])
      subst hi
      have HA2 := Lib.hid hA2
      clear hA2 hc hd hcj hdi h1 h2 e1 e2 HRR hf hp hab hbb hv hz
      go_enter Try.func66, Try.ntmps66
      go_wp2_with fail
      rw [← hW]
      clear hW
      go_quiet ((first | (go_at_call_of 55 m7; exact Calls.quiet_of_same (HA1.out _)) | (go_at_call_of 55 m9; exact Calls.quiet_of_same (HA2.out _))))
      go_wp2_with fail
      go_quiet (fail)
      go_wp2_with fail
      go_ret
      rw [HRZ.out]
      exact ⟨rfl, below_drewN (below_drewN HBW.out _) _⟩
    · have e2 : amongB v 0 ((m9 : Int) - 1) = false := by
        unfold amongB
        rw [Bool.and_eq_false_iff, decide_eq_false_iff_not, decide_eq_false_iff_not]
        omega
      have hA2 : ∀ u : World, Calls Try.prog 55 #[.int .i64 v, .int .i64 0, .int .i64 ((m9 : Int) - 1)] u fun e u' => e = .returned (.bool false) ∧ u' = u := fun u => by
        have := r10among_any u v 0 ((m9 : Int) - 1)
        rw [e2] at this
        exact this.mono fun _ _ ⟨he, hw⟩ => ⟨he, hw.symm⟩
      have HRZ : Hid (r = -1) := Lib.hid (by
        rw [HRR.out]
        unfold paramsT
        rw [show (TB.mk m1 fl m2 m3 m8 fs ps).funcs = fs from rfl, show (TB.mk m1 fl m2 m3 m8 fs ps).params = ps from rfl, hfl, hpl, Int.toNat_natCast, ← hv, if_neg (fun h => by rw [e2] at h; exact Bool.noConfusion h.2)])
      have HA2 := Lib.hid hA2
      clear hA2 hc hcj h1 h2 e1 e2 HRR hf hp hab hv
      go_enter Try.func66, Try.ntmps66
      go_wp2_with fail
      rw [← hW]
      clear hW
      go_quiet ((first | (go_at_call_of 55 m7; exact Calls.quiet_of_same (HA1.out _)) | (go_at_call_of 55 m9; exact Calls.quiet_of_same (HA2.out _))))
      go_wp2_with fail
      go_ret
      rw [HRZ.out]
      exact ⟨rfl, below_drewN HBW.out _⟩
  · have e1 : amongB f 0 ((m7 : Int) - 1) = false := by
      unfold amongB
      rw [Bool.and_eq_false_iff, decide_eq_false_iff_not, decide_eq_false_iff_not]
      omega
    have hA1 : ∀ u : World, Calls Try.prog 55 #[.int .i64 f, .int .i64 0, .int .i64 ((m7 : Int) - 1)] u fun e u' => e = .returned (.bool false) ∧ u' = u := fun u => by
      have := r10among_any u f 0 ((m7 : Int) - 1)
      rw [e1] at this
      exact this.mono fun _ _ ⟨he, hw⟩ => ⟨he, hw.symm⟩
    have HRZ : Hid (r = -1) := Lib.hid (by
      rw [HRR.out]
      unfold paramsT
      rw [show (TB.mk m1 fl m2 m3 m8 fs ps).funcs = fs from rfl, show (TB.mk m1 fl m2 m3 m8 fs ps).params = ps from rfl, hfl, hpl, if_neg (fun h => by rw [e1] at h; exact Bool.noConfusion h.1)])
    have HA1 := Lib.hid hA1
    clear hA1 h1 e1 HRR hf hp
    go_enter Try.func66, Try.ntmps66
    go_wp2_with fail
    rw [← hW]
    clear hW
    go_quiet ((go_at_call_of 55 m7; exact Calls.quiet_of_same (HA1.out _)))
    go_wp2_with fail
    go_ret
    rw [HRZ.out]
    exact ⟨rfl, below_drewN HBW.out _⟩

end Go.Proofs.Ytdmpadonnobeaaa
