/- Contracts of the reference's bound, Bound. -/
import Derived.Test.YtdmpadonnobeaaaTreJ
import Derived.Test.YtdmpadonnobeaaaTreM
import Derived.Test.YtdmpadonnobeaaaTreX
import Derived.Test.YtdmpadonnobeaaaRegion
import Derived.Deep.CutBlock
namespace Go.Proofs.Ytdmpadonnobeaaa
open Go.RowKit

set_option maxRecDepth 100000 in
theorem r1Is_any (w : World) (n : Int) : Calls Try.prog 65 #[.int .i64 n] w fun f w' => f = .returned (.bool (amongB n (-32768) 32767)) ∧ w = w' := by
  by_cases a : -32768 ≤ n
  · by_cases b : n ≤ 32767
    · go_enter Try.func65, Try.ntmps65
      go_wp2_with fail
      go_ret
      exact ⟨by unfold amongB; simp [a, b], rfl⟩
    · have b1 : decide (n ≤ 32767) = false := by simpa using b
      go_enter Try.func65, Try.ntmps65
      go_wp2_with fail
      go_ret
      exact ⟨by unfold amongB; simp [b], rfl⟩
  · have a1 : decide (-32768 ≤ n) = false := by simpa using a
    go_enter Try.func65, Try.ntmps65
    go_wp2_with fail
    go_ret
    exact ⟨by unfold amongB; rw [a1, Bool.false_and]; rfl, rfl⟩

set_option maxRecDepth 100000 in
set_option maxHeartbeats 6400000 in
theorem r10bound_any (T : TV) (loc : Int) : ∀ (e : EL) (said : Bool) (w : World), T.In w w.heap.size → e.In w w.heap.size →
    Calls Try.prog 38 #[T.val, eVal e, .int .i64 loc, .bool said] w fun f w' => f = .returned (.bool (boundE T.tb loc said e)) ∧ Below w.heap.size w w' := by
  refine EL.ind fun e ih said w hT hin => ?_
  have hrow := hin.row
  have hargs := hin.args
  have hcb : ∀ (b : Nat) (op num named : Bool) (W : World), Below w.heap.size w W → Calls Try.prog 54 #[eVal e, .int .i64 b, .bool op, .bool num, .bool named] W fun f w' => f = .returned (.bool (bareE e b op num named)) ∧ Below W.heap.size W w' := fun b op num named W hb =>
    r10bare_any e b op num named W ((RowE.below hrow hb).more hb.size)
  have hpr : ∀ W : World, Below w.heap.size w W → Calls Try.prog 66 #[T.val, .int .i64 e.num] W fun r w' => r = .returned (.int .i64 (paramsT T.tb e.num)) ∧ Below W.heap.size W w' := fun W hb => r10params_any T e.num W ((hT.below hb).more hb.size)
  have hTW : ∀ W : World, Below w.heap.size w W → T.In W W.heap.size := fun W hb => (hT.below hb).more hb.size
  rw [boundE_eq, boundEs_all]
  have ih1 : ∀ x ∈ e.args, ∀ (W : World), Below w.heap.size w W → x.In W W.heap.size → Calls Try.prog 38 #[T.val, eVal x, .int .i64 loc, .bool false] W fun f w' => f = .returned (.bool (boundE T.tb loc false x)) ∧ Below W.heap.size W w' := fun x hx W hb hxi => ih x hx false W (hTW W hb) hxi
  obtain ⟨⟨hm1, hm2, hm3, hm7, hm8, hm9⟩, hTf, hTp⟩ := hT
  obtain ⟨t1, t2, t3, t4, S1, m1, k1, fl, S2, m2, k2, S3, m3, k3, S4, m4, k4, S5, m5, k5, S6, m6, k6, S7, m7, k7, S8, m8, k8, S9, m9, k9, S10, m10, k10, fs, ps⟩ := T
  obtain ⟨k, o, m, s, A, n, c, es⟩ := e
  have hn : es.length = n := hrow.1
  have hn9 : (n : Int) ≤ 9223372036854775807 := hrow.2.1
  change (m1 : Int) ≤ 9223372036854775807 at hm1
  change (m2 : Int) ≤ 9223372036854775807 at hm2
  change (m3 : Int) ≤ 9223372036854775807 at hm3
  have hcb' : ∀ (b : Nat) (op num named : Bool) (W : World), Below w.heap.size w W → Calls Try.prog 54 #[.agg #[.int .i64 k, .int .i64 o, .int .i64 m, .string (bs s), .slice A n c], .int .i64 b, .bool op, .bool num, .bool named] W fun f w' => f = .returned (.bool (bareE (.mk k o m s A n c es) b op num named)) ∧ Below W.heap.size W w' := hcb
  have hpr' : ∀ W : World, Below w.heap.size w W → Calls Try.prog 66 #[.agg #[.int .i64 t1, .int .i64 t2, .int .i64 t3, .int .i64 t4, .slice S1 m1 k1, .int .i64 fl, .slice S2 m2 k2, .slice S3 m3 k3, .slice S4 m4 k4, .slice S5 m5 k5, .slice S6 m6 k6, .slice S7 m7 k7, .slice S8 m8 k8, .slice S9 m9 k9, .slice S10 m10 k10], .int .i64 m] W fun r w' => r = .returned (.int .i64 (paramsT (TB.mk m1 fl m2 m3 m8 fs ps) m)) ∧ Below W.heap.size W w' := hpr
  have ih' : ∀ x ∈ es, ∀ (W : World), Below w.heap.size w W → x.In W W.heap.size → Calls Try.prog 38 #[.agg #[.int .i64 t1, .int .i64 t2, .int .i64 t3, .int .i64 t4, .slice S1 m1 k1, .int .i64 fl, .slice S2 m2 k2, .slice S3 m3 k3, .slice S4 m4 k4, .slice S5 m5 k5, .slice S6 m6 k6, .slice S7 m7 k7, .slice S8 m8 k8, .slice S9 m9 k9, .slice S10 m10 k10], eVal x, .int .i64 loc, .bool false] W fun f w' => f = .returned (.bool (boundE (TB.mk m1 fl m2 m3 m8 fs ps) loc false x)) ∧ Below W.heap.size W w' := ih1
  have HCB := Lib.hid hcb'
  have HPR := Lib.hid hpr'
  have HR : Hid (RowE w w.heap.size A n es) := Lib.hid hrow
  have HA : Hid (EL.Ins w w.heap.size es) := Lib.hid hargs
  have HL := Lib.hid hn
  have IH := Lib.hid ih'
  obtain ⟨W, hW⟩ : ∃ W, W = ((w.alloc (.cells #[.int .i64 t1, .int .i64 t2, .int .i64 t3, .int .i64 t4, .slice S1 m1 k1, .int .i64 fl, .slice S2 m2 k2, .slice S3 m3 k3, .slice S4 m4 k4, .slice S5 m5 k5, .slice S6 m6 k6, .slice S7 m7 k7, .slice S8 m8 k8, .slice S9 m9 k9, .slice S10 m10 k10] 37)).alloc (.cells #[.int .i64 k, .int .i64 o, .int .i64 m, .string (bs s), .slice A n c] 24)) := ⟨_, rfl⟩
  have HBW : Hid (Below w.heap.size w W) := Lib.hid (by rw [hW]; exact ((Below.refl _ _).alloc (Nat.le_refl _) _).alloc (by simp) _)
  have HKT : Hid (Blk W w.heap.size 37 #[.int .i64 t1, .int .i64 t2, .int .i64 t3, .int .i64 t4, .slice S1 m1 k1, .int .i64 fl, .slice S2 m2 k2, .slice S3 m3 k3, .slice S4 m4 k4, .slice S5 m5 k5, .slice S6 m6 k6, .slice S7 m7 k7, .slice S8 m8 k8, .slice S9 m9 k9, .slice S10 m10 k10]) := Lib.hid (by rw [hW]; exact (Blk.new _ _ _).alloc _)
  have HK : Hid (Blk W (w.heap.size + 1) 24 #[.int .i64 k, .int .i64 o, .int .i64 m, .string (bs s), .slice A n c]) := Lib.hid (by rw [hW]; exact Blk.new_at _ _ _ _ (by simp))
  show Calls Try.prog _ #[.agg #[.int .i64 t1, .int .i64 t2, .int .i64 t3, .int .i64 t4, .slice S1 m1 k1, .int .i64 fl, .slice S2 m2 k2, .slice S3 m3 k3, .slice S4 m4 k4, .slice S5 m5 k5, .slice S6 m6 k6, .slice S7 m7 k7, .slice S8 m8 k8, .slice S9 m9 k9, .slice S10 m10 k10], .agg #[.int .i64 k, .int .i64 o, .int .i64 m, .string (bs s), .slice A n c], .int .i64 loc, .bool said] w fun f w' => f = .returned (.bool (okB (TB.mk m1 fl m2 m3 m8 fs ps) loc said (.mk k o m s A n c es) && es.all (boundE (TB.mk m1 fl m2 m3 m8 fs ps) loc false))) ∧ Below w.heap.size w w'
  clear ih ih1 ih' hrow hargs hin hn hcb hcb' hpr hpr' hTW hTf hTp hm7 hm8 hm9
  go_enter Try.func38, Try.ntmps38
  go_upto_block 0 with fail
  rw [← hW]
  have kk0 : W.cell? ⟨w.heap.size + 1, 0, none⟩ = some (.int .i64 k) := HK.out.cell 0
  have kk1 : W.cell? ⟨w.heap.size + 1, 1, none⟩ = some (.int .i64 o) := HK.out.cell 1
  have kk2 : W.cell? ⟨w.heap.size + 1, 2, none⟩ = some (.int .i64 m) := HK.out.cell 2
  have kk3 : W.cell? ⟨w.heap.size + 1, 3, none⟩ = some (.string (bs s)) := HK.out.cell 3
  have kk4 : W.cell? ⟨w.heap.size + 1, 4, none⟩ = some (.slice A n c) := HK.out.cell 4
  clear hW
  go_cut [9] from 12 to 152 (fun v wx => v = .bool (okB (TB.mk m1 fl m2 m3 m8 fs ps) loc said (.mk k o m s A n c es)) ∧ Below W.heap.size W wx)
  case first =>
    clear IH HR HA
    have HB0 : Hid (Below W.heap.size W W) := Lib.hid (Below.refl _ _)
    by_cases h1 : k = 1
    · subst h1
      obtain ⟨q0, hq0⟩ : ∃ q, q = bareE (.mk 1 o m s A n c es) 0 false true false := ⟨_, rfl⟩
      obtain ⟨q1, hq1⟩ : ∃ q, q = amongB m (-32768) 32767 := ⟨_, rfl⟩
      have e1 : okB (TB.mk m1 fl m2 m3 m8 fs ps) loc said (.mk 1 o m s A n c es) = (q0 && q1) := by
        rw [hq0, hq1]
        exact (if_pos (by show (1 : Int) = 1; decide)).trans rfl
      have Hq0 := Lib.hid hq0
      have Hq1 := Lib.hid hq1
      have HE1 := Lib.hid e1
      clear e1 hq0 hq1
      go_wp2_with (refine wpList_load_row rfl 24 _ rfl (w.heap.size + 1) rfl 24 #[.int .i64 1, .int .i64 o, .int .i64 m, .string (bs s), .slice A n c] (0, 0) _ HK.out Try.underlying24 rfl expr_size ?_)
      refine (HCB.out 0 false true false W HBW.out).mono ?_
      rintro f w2 ⟨rfl, hb2⟩
      rw [← Hq0.out]
      have HB2 := Lib.hid hb2
      have kk1 : w2.cell? ⟨w.heap.size + 1, 1, none⟩ = some (.int .i64 o) := (HK.out.below hb2 HK.out.lt).cell 1
      have kk2 : w2.cell? ⟨w.heap.size + 1, 2, none⟩ = some (.int .i64 m) := (HK.out.below hb2 HK.out.lt).cell 2
      have kk3 : w2.cell? ⟨w.heap.size + 1, 3, none⟩ = some (.string (bs s)) := (HK.out.below hb2 HK.out.lt).cell 3
      have kk4 : w2.cell? ⟨w.heap.size + 1, 4, none⟩ = some (.slice A n c) := (HK.out.below hb2 HK.out.lt).cell 4
      have u4 : w2.cell? ⟨w.heap.size, 4, none⟩ = some (.slice S1 m1 k1) := (HKT.out.below hb2 HKT.out.lt).cell 4
      have u5 : w2.cell? ⟨w.heap.size, 5, none⟩ = some (.int .i64 fl) := (HKT.out.below hb2 HKT.out.lt).cell 5
      have u6 : w2.cell? ⟨w.heap.size, 6, none⟩ = some (.slice S2 m2 k2) := (HKT.out.below hb2 HKT.out.lt).cell 6
      have u7 : w2.cell? ⟨w.heap.size, 7, none⟩ = some (.slice S3 m3 k3) := (HKT.out.below hb2 HKT.out.lt).cell 7
      clear hb2
      cases q0 with
      | false =>
        go_wp2_with fail
        go_meet
        case rel => exact ⟨by rw [HE1.out] <;> rfl, HB2.out⟩
      | true =>
        go_wp2_with fail
        refine (r1Is_any w2 m).mono ?_
        rintro f w3 ⟨rfl, rfl⟩
        rw [← Hq1.out]
        go_wp2_with fail
        go_meet
        case rel => exact ⟨by rw [HE1.out] <;> rfl, HB2.out⟩
    by_cases h14 : k = 14
    · subst h14
      obtain ⟨q0, hq0⟩ : ∃ q, q = bareE (.mk 14 o m s A n c es) 0 false true false := ⟨_, rfl⟩
      obtain ⟨q1, hq1⟩ : ∃ q, q = amongB m 0 ((m3 : Int) - 1) := ⟨_, rfl⟩
      have e1 : okB (TB.mk m1 fl m2 m3 m8 fs ps) loc said (.mk 14 o m s A n c es) = (q0 && q1) := by
        rw [hq0, hq1]
        exact (if_neg (by show ¬ ((14 : Int) = 1); decide)).trans ((if_pos (by show (14 : Int) = 14; decide)).trans rfl)
      have Hq0 := Lib.hid hq0
      have Hq1 := Lib.hid hq1
      have HE1 := Lib.hid e1
      clear e1 hq0 hq1
      go_wp2_with (refine wpList_load_row rfl 24 _ rfl (w.heap.size + 1) rfl 24 #[.int .i64 14, .int .i64 o, .int .i64 m, .string (bs s), .slice A n c] (0, 0) _ HK.out Try.underlying24 rfl expr_size ?_)
      refine (HCB.out 0 false true false W HBW.out).mono ?_
      rintro f w2 ⟨rfl, hb2⟩
      rw [← Hq0.out]
      have HB2 := Lib.hid hb2
      have kk1 : w2.cell? ⟨w.heap.size + 1, 1, none⟩ = some (.int .i64 o) := (HK.out.below hb2 HK.out.lt).cell 1
      have kk2 : w2.cell? ⟨w.heap.size + 1, 2, none⟩ = some (.int .i64 m) := (HK.out.below hb2 HK.out.lt).cell 2
      have kk3 : w2.cell? ⟨w.heap.size + 1, 3, none⟩ = some (.string (bs s)) := (HK.out.below hb2 HK.out.lt).cell 3
      have kk4 : w2.cell? ⟨w.heap.size + 1, 4, none⟩ = some (.slice A n c) := (HK.out.below hb2 HK.out.lt).cell 4
      have u4 : w2.cell? ⟨w.heap.size, 4, none⟩ = some (.slice S1 m1 k1) := (HKT.out.below hb2 HKT.out.lt).cell 4
      have u5 : w2.cell? ⟨w.heap.size, 5, none⟩ = some (.int .i64 fl) := (HKT.out.below hb2 HKT.out.lt).cell 5
      have u6 : w2.cell? ⟨w.heap.size, 6, none⟩ = some (.slice S2 m2 k2) := (HKT.out.below hb2 HKT.out.lt).cell 6
      have u7 : w2.cell? ⟨w.heap.size, 7, none⟩ = some (.slice S3 m3 k3) := (HKT.out.below hb2 HKT.out.lt).cell 7
      clear hb2
      cases q0 with
      | false =>
        go_wp2_with fail
        go_meet
        case rel => exact ⟨by rw [HE1.out] <;> rfl, HB2.out⟩
      | true =>
        go_wp2_with fail
        refine (r10among_any w2 m 0 ((m3 : Int) - 1)).mono ?_
        rintro f w3 ⟨rfl, rfl⟩
        rw [← Hq1.out]
        go_wp2_with fail
        go_meet
        case rel => exact ⟨by rw [HE1.out] <;> rfl, HB2.out⟩
    by_cases h15 : k = 15
    · subst h15
      obtain ⟨q0, hq0⟩ : ∃ q, q = bareE (.mk 15 o m s A n c es) 0 false true false := ⟨_, rfl⟩
      obtain ⟨q1, hq1⟩ : ∃ q, q = decide (0 ≤ m) := ⟨_, rfl⟩
      obtain ⟨q2, hq2⟩ : ∃ q, q = decide (m < loc) := ⟨_, rfl⟩
      have e1 : okB (TB.mk m1 fl m2 m3 m8 fs ps) loc said (.mk 15 o m s A n c es) = (q0 && q1 && q2) := by
        rw [hq0, hq1, hq2]
        exact (if_neg (by show ¬ ((15 : Int) = 1); decide)).trans ((if_neg (by show ¬ ((15 : Int) = 14); decide)).trans ((if_pos (by show (15 : Int) = 15; decide)).trans rfl))
      have Hq0 := Lib.hid hq0
      have Hq1 := Lib.hid hq1
      have Hq2 := Lib.hid hq2
      have HE1 := Lib.hid e1
      clear e1 hq0 hq1 hq2
      go_wp2_with (refine wpList_load_row rfl 24 _ rfl (w.heap.size + 1) rfl 24 #[.int .i64 15, .int .i64 o, .int .i64 m, .string (bs s), .slice A n c] (0, 0) _ HK.out Try.underlying24 rfl expr_size ?_)
      refine (HCB.out 0 false true false W HBW.out).mono ?_
      rintro f w2 ⟨rfl, hb2⟩
      rw [← Hq0.out]
      have HB2 := Lib.hid hb2
      have kk1 : w2.cell? ⟨w.heap.size + 1, 1, none⟩ = some (.int .i64 o) := (HK.out.below hb2 HK.out.lt).cell 1
      have kk2 : w2.cell? ⟨w.heap.size + 1, 2, none⟩ = some (.int .i64 m) := (HK.out.below hb2 HK.out.lt).cell 2
      have kk3 : w2.cell? ⟨w.heap.size + 1, 3, none⟩ = some (.string (bs s)) := (HK.out.below hb2 HK.out.lt).cell 3
      have kk4 : w2.cell? ⟨w.heap.size + 1, 4, none⟩ = some (.slice A n c) := (HK.out.below hb2 HK.out.lt).cell 4
      have u4 : w2.cell? ⟨w.heap.size, 4, none⟩ = some (.slice S1 m1 k1) := (HKT.out.below hb2 HKT.out.lt).cell 4
      have u5 : w2.cell? ⟨w.heap.size, 5, none⟩ = some (.int .i64 fl) := (HKT.out.below hb2 HKT.out.lt).cell 5
      have u6 : w2.cell? ⟨w.heap.size, 6, none⟩ = some (.slice S2 m2 k2) := (HKT.out.below hb2 HKT.out.lt).cell 6
      have u7 : w2.cell? ⟨w.heap.size, 7, none⟩ = some (.slice S3 m3 k3) := (HKT.out.below hb2 HKT.out.lt).cell 7
      clear hb2
      cases q0 with
      | false =>
        go_wp2_with fail
        go_meet
        case rel => exact ⟨by rw [HE1.out] <;> rfl, HB2.out⟩
      | true =>
        by_cases g1 : 0 ≤ m
        · have hq1 : q1 = true := by rw [Hq1.out]; exact decide_eq_true g1
          by_cases g2 : m < loc
          · have hq2 : q2 = true := by rw [Hq2.out]; exact decide_eq_true g2
            go_wp2_with fail
            go_meet
            case rel => exact ⟨by rw [HE1.out, hq1, hq2] <;> rfl, HB2.out⟩
          · have hq2 : q2 = false := by rw [Hq2.out]; exact decide_eq_false g2
            have f2 : decide (m < loc) = false := by rw [decide_eq_false_iff_not]; exact g2
            clear g2
            go_wp2_with fail
            go_meet
            case rel => exact ⟨by rw [HE1.out, hq1, hq2] <;> rfl, HB2.out⟩
        · have hq1 : q1 = false := by rw [Hq1.out]; exact decide_eq_false g1
          have f1 : decide (0 ≤ m) = false := by rw [decide_eq_false_iff_not]; exact g1
          clear g1
          go_wp2_with fail
          go_meet
          case rel => exact ⟨by rw [HE1.out, hq1] <;> rfl, HB2.out⟩
    by_cases h19 : k = 19
    · subst h19
      obtain ⟨q1, hq1⟩ : ∃ q, q = bareE (.mk 19 o m s A n c es) 0 false true false := ⟨_, rfl⟩
      obtain ⟨q2, hq2⟩ : ∃ q, q = amongB m 0 ((m1 : Int) - 1) := ⟨_, rfl⟩
      have e1 : okB (TB.mk m1 fl m2 m3 m8 fs ps) loc said (.mk 19 o m s A n c es) = (said && q1 && q2) := by
        rw [hq1, hq2]
        exact (if_neg (by show ¬ ((19 : Int) = 1); decide)).trans ((if_neg (by show ¬ ((19 : Int) = 14); decide)).trans ((if_neg (by show ¬ ((19 : Int) = 15); decide)).trans ((if_pos (by show (19 : Int) = 19; decide)).trans rfl)))
      have Hq1 := Lib.hid hq1
      have Hq2 := Lib.hid hq2
      have HE1 := Lib.hid e1
      clear e1 hq1 hq2
      cases said with
      | false =>
        go_wp2_with fail
        go_meet
        case rel => exact ⟨by rw [HE1.out] <;> rfl, HB0.out⟩
      | true =>
        go_wp2_with (refine wpList_load_row rfl 24 _ rfl (w.heap.size + 1) rfl 24 #[.int .i64 19, .int .i64 o, .int .i64 m, .string (bs s), .slice A n c] (0, 0) _ HK.out Try.underlying24 rfl expr_size ?_)
        refine (HCB.out 0 false true false W HBW.out).mono ?_
        rintro f w2 ⟨rfl, hb2⟩
        rw [← Hq1.out]
        have HB2 := Lib.hid hb2
        have kk1 : w2.cell? ⟨w.heap.size + 1, 1, none⟩ = some (.int .i64 o) := (HK.out.below hb2 HK.out.lt).cell 1
        have kk2 : w2.cell? ⟨w.heap.size + 1, 2, none⟩ = some (.int .i64 m) := (HK.out.below hb2 HK.out.lt).cell 2
        have kk3 : w2.cell? ⟨w.heap.size + 1, 3, none⟩ = some (.string (bs s)) := (HK.out.below hb2 HK.out.lt).cell 3
        have kk4 : w2.cell? ⟨w.heap.size + 1, 4, none⟩ = some (.slice A n c) := (HK.out.below hb2 HK.out.lt).cell 4
        have u4 : w2.cell? ⟨w.heap.size, 4, none⟩ = some (.slice S1 m1 k1) := (HKT.out.below hb2 HKT.out.lt).cell 4
        have u5 : w2.cell? ⟨w.heap.size, 5, none⟩ = some (.int .i64 fl) := (HKT.out.below hb2 HKT.out.lt).cell 5
        have u6 : w2.cell? ⟨w.heap.size, 6, none⟩ = some (.slice S2 m2 k2) := (HKT.out.below hb2 HKT.out.lt).cell 6
        have u7 : w2.cell? ⟨w.heap.size, 7, none⟩ = some (.slice S3 m3 k3) := (HKT.out.below hb2 HKT.out.lt).cell 7
        clear hb2
        cases q1 with
        | false =>
          go_wp2_with fail
          go_meet
          case rel => exact ⟨by rw [HE1.out] <;> rfl, HB2.out⟩
        | true =>
          go_wp2_with fail
          refine (r10among_any w2 m 0 ((m1 : Int) - 1)).mono ?_
          rintro f w3 ⟨rfl, rfl⟩
          rw [← Hq2.out]
          go_wp2_with fail
          go_meet
          case rel => exact ⟨by rw [HE1.out] <;> rfl, HB2.out⟩
    by_cases h4 : k = 4
    · subst h4
      obtain ⟨q0, hq0⟩ : ∃ q, q = bareE (.mk 4 o m s A n c es) 1 false false false := ⟨_, rfl⟩
      have e1 : okB (TB.mk m1 fl m2 m3 m8 fs ps) loc said (.mk 4 o m s A n c es) = (q0) := by
        rw [hq0]
        exact (if_neg (by show ¬ ((4 : Int) = 1); decide)).trans ((if_neg (by show ¬ ((4 : Int) = 14); decide)).trans ((if_neg (by show ¬ ((4 : Int) = 15); decide)).trans ((if_neg (by show ¬ ((4 : Int) = 19); decide)).trans ((if_pos (by show (4 : Int) = 4 ∨ (4 : Int) = 5 ∨ (4 : Int) = 11; decide)).trans rfl))))
      have Hq0 := Lib.hid hq0
      have HE1 := Lib.hid e1
      clear e1 hq0
      go_wp2_with (refine wpList_load_row rfl 24 _ rfl (w.heap.size + 1) rfl 24 #[.int .i64 4, .int .i64 o, .int .i64 m, .string (bs s), .slice A n c] (0, 0) _ HK.out Try.underlying24 rfl expr_size ?_)
      refine (HCB.out 1 false false false W HBW.out).mono ?_
      rintro f w2 ⟨rfl, hb2⟩
      rw [← Hq0.out]
      have HB2 := Lib.hid hb2
      have kk1 : w2.cell? ⟨w.heap.size + 1, 1, none⟩ = some (.int .i64 o) := (HK.out.below hb2 HK.out.lt).cell 1
      have kk2 : w2.cell? ⟨w.heap.size + 1, 2, none⟩ = some (.int .i64 m) := (HK.out.below hb2 HK.out.lt).cell 2
      have kk3 : w2.cell? ⟨w.heap.size + 1, 3, none⟩ = some (.string (bs s)) := (HK.out.below hb2 HK.out.lt).cell 3
      have kk4 : w2.cell? ⟨w.heap.size + 1, 4, none⟩ = some (.slice A n c) := (HK.out.below hb2 HK.out.lt).cell 4
      have u4 : w2.cell? ⟨w.heap.size, 4, none⟩ = some (.slice S1 m1 k1) := (HKT.out.below hb2 HKT.out.lt).cell 4
      have u5 : w2.cell? ⟨w.heap.size, 5, none⟩ = some (.int .i64 fl) := (HKT.out.below hb2 HKT.out.lt).cell 5
      have u6 : w2.cell? ⟨w.heap.size, 6, none⟩ = some (.slice S2 m2 k2) := (HKT.out.below hb2 HKT.out.lt).cell 6
      have u7 : w2.cell? ⟨w.heap.size, 7, none⟩ = some (.slice S3 m3 k3) := (HKT.out.below hb2 HKT.out.lt).cell 7
      clear hb2
      go_wp2_with fail
      go_meet
      case rel => exact ⟨by rw [HE1.out] <;> rfl, HB2.out⟩
    by_cases h5 : k = 5
    · subst h5
      obtain ⟨q0, hq0⟩ : ∃ q, q = bareE (.mk 5 o m s A n c es) 1 false false false := ⟨_, rfl⟩
      have e1 : okB (TB.mk m1 fl m2 m3 m8 fs ps) loc said (.mk 5 o m s A n c es) = (q0) := by
        rw [hq0]
        exact (if_neg (by show ¬ ((5 : Int) = 1); decide)).trans ((if_neg (by show ¬ ((5 : Int) = 14); decide)).trans ((if_neg (by show ¬ ((5 : Int) = 15); decide)).trans ((if_neg (by show ¬ ((5 : Int) = 19); decide)).trans ((if_pos (by show (5 : Int) = 4 ∨ (5 : Int) = 5 ∨ (5 : Int) = 11; decide)).trans rfl))))
      have Hq0 := Lib.hid hq0
      have HE1 := Lib.hid e1
      clear e1 hq0
      go_wp2_with (refine wpList_load_row rfl 24 _ rfl (w.heap.size + 1) rfl 24 #[.int .i64 5, .int .i64 o, .int .i64 m, .string (bs s), .slice A n c] (0, 0) _ HK.out Try.underlying24 rfl expr_size ?_)
      refine (HCB.out 1 false false false W HBW.out).mono ?_
      rintro f w2 ⟨rfl, hb2⟩
      rw [← Hq0.out]
      have HB2 := Lib.hid hb2
      have kk1 : w2.cell? ⟨w.heap.size + 1, 1, none⟩ = some (.int .i64 o) := (HK.out.below hb2 HK.out.lt).cell 1
      have kk2 : w2.cell? ⟨w.heap.size + 1, 2, none⟩ = some (.int .i64 m) := (HK.out.below hb2 HK.out.lt).cell 2
      have kk3 : w2.cell? ⟨w.heap.size + 1, 3, none⟩ = some (.string (bs s)) := (HK.out.below hb2 HK.out.lt).cell 3
      have kk4 : w2.cell? ⟨w.heap.size + 1, 4, none⟩ = some (.slice A n c) := (HK.out.below hb2 HK.out.lt).cell 4
      have u4 : w2.cell? ⟨w.heap.size, 4, none⟩ = some (.slice S1 m1 k1) := (HKT.out.below hb2 HKT.out.lt).cell 4
      have u5 : w2.cell? ⟨w.heap.size, 5, none⟩ = some (.int .i64 fl) := (HKT.out.below hb2 HKT.out.lt).cell 5
      have u6 : w2.cell? ⟨w.heap.size, 6, none⟩ = some (.slice S2 m2 k2) := (HKT.out.below hb2 HKT.out.lt).cell 6
      have u7 : w2.cell? ⟨w.heap.size, 7, none⟩ = some (.slice S3 m3 k3) := (HKT.out.below hb2 HKT.out.lt).cell 7
      clear hb2
      go_wp2_with fail
      go_meet
      case rel => exact ⟨by rw [HE1.out] <;> rfl, HB2.out⟩
    by_cases h11 : k = 11
    · subst h11
      obtain ⟨q0, hq0⟩ : ∃ q, q = bareE (.mk 11 o m s A n c es) 1 false false false := ⟨_, rfl⟩
      have e1 : okB (TB.mk m1 fl m2 m3 m8 fs ps) loc said (.mk 11 o m s A n c es) = (q0) := by
        rw [hq0]
        exact (if_neg (by show ¬ ((11 : Int) = 1); decide)).trans ((if_neg (by show ¬ ((11 : Int) = 14); decide)).trans ((if_neg (by show ¬ ((11 : Int) = 15); decide)).trans ((if_neg (by show ¬ ((11 : Int) = 19); decide)).trans ((if_pos (by show (11 : Int) = 4 ∨ (11 : Int) = 5 ∨ (11 : Int) = 11; decide)).trans rfl))))
      have Hq0 := Lib.hid hq0
      have HE1 := Lib.hid e1
      clear e1 hq0
      go_wp2_with (refine wpList_load_row rfl 24 _ rfl (w.heap.size + 1) rfl 24 #[.int .i64 11, .int .i64 o, .int .i64 m, .string (bs s), .slice A n c] (0, 0) _ HK.out Try.underlying24 rfl expr_size ?_)
      refine (HCB.out 1 false false false W HBW.out).mono ?_
      rintro f w2 ⟨rfl, hb2⟩
      rw [← Hq0.out]
      have HB2 := Lib.hid hb2
      have kk1 : w2.cell? ⟨w.heap.size + 1, 1, none⟩ = some (.int .i64 o) := (HK.out.below hb2 HK.out.lt).cell 1
      have kk2 : w2.cell? ⟨w.heap.size + 1, 2, none⟩ = some (.int .i64 m) := (HK.out.below hb2 HK.out.lt).cell 2
      have kk3 : w2.cell? ⟨w.heap.size + 1, 3, none⟩ = some (.string (bs s)) := (HK.out.below hb2 HK.out.lt).cell 3
      have kk4 : w2.cell? ⟨w.heap.size + 1, 4, none⟩ = some (.slice A n c) := (HK.out.below hb2 HK.out.lt).cell 4
      have u4 : w2.cell? ⟨w.heap.size, 4, none⟩ = some (.slice S1 m1 k1) := (HKT.out.below hb2 HKT.out.lt).cell 4
      have u5 : w2.cell? ⟨w.heap.size, 5, none⟩ = some (.int .i64 fl) := (HKT.out.below hb2 HKT.out.lt).cell 5
      have u6 : w2.cell? ⟨w.heap.size, 6, none⟩ = some (.slice S2 m2 k2) := (HKT.out.below hb2 HKT.out.lt).cell 6
      have u7 : w2.cell? ⟨w.heap.size, 7, none⟩ = some (.slice S3 m3 k3) := (HKT.out.below hb2 HKT.out.lt).cell 7
      clear hb2
      go_wp2_with fail
      go_meet
      case rel => exact ⟨by rw [HE1.out] <;> rfl, HB2.out⟩
    by_cases h13 : k = 13
    · subst h13
      obtain ⟨q1, hq1⟩ : ∃ q, q = bareE (.mk 13 o m s A n c es) 1 false false false := ⟨_, rfl⟩
      have e1 : okB (TB.mk m1 fl m2 m3 m8 fs ps) loc said (.mk 13 o m s A n c es) = (said && q1) := by
        rw [hq1]
        exact (if_neg (by show ¬ ((13 : Int) = 1); decide)).trans ((if_neg (by show ¬ ((13 : Int) = 14); decide)).trans ((if_neg (by show ¬ ((13 : Int) = 15); decide)).trans ((if_neg (by show ¬ ((13 : Int) = 19); decide)).trans ((if_neg (by show ¬ ((13 : Int) = 4 ∨ (13 : Int) = 5 ∨ (13 : Int) = 11); decide)).trans ((if_pos (by show (13 : Int) = 13; decide)).trans rfl)))))
      have Hq1 := Lib.hid hq1
      have HE1 := Lib.hid e1
      clear e1 hq1
      cases said with
      | false =>
        go_wp2_with fail
        go_meet
        case rel => exact ⟨by rw [HE1.out] <;> rfl, HB0.out⟩
      | true =>
        go_wp2_with (refine wpList_load_row rfl 24 _ rfl (w.heap.size + 1) rfl 24 #[.int .i64 13, .int .i64 o, .int .i64 m, .string (bs s), .slice A n c] (0, 0) _ HK.out Try.underlying24 rfl expr_size ?_)
        refine (HCB.out 1 false false false W HBW.out).mono ?_
        rintro f w2 ⟨rfl, hb2⟩
        rw [← Hq1.out]
        have HB2 := Lib.hid hb2
        have kk1 : w2.cell? ⟨w.heap.size + 1, 1, none⟩ = some (.int .i64 o) := (HK.out.below hb2 HK.out.lt).cell 1
        have kk2 : w2.cell? ⟨w.heap.size + 1, 2, none⟩ = some (.int .i64 m) := (HK.out.below hb2 HK.out.lt).cell 2
        have kk3 : w2.cell? ⟨w.heap.size + 1, 3, none⟩ = some (.string (bs s)) := (HK.out.below hb2 HK.out.lt).cell 3
        have kk4 : w2.cell? ⟨w.heap.size + 1, 4, none⟩ = some (.slice A n c) := (HK.out.below hb2 HK.out.lt).cell 4
        have u4 : w2.cell? ⟨w.heap.size, 4, none⟩ = some (.slice S1 m1 k1) := (HKT.out.below hb2 HKT.out.lt).cell 4
        have u5 : w2.cell? ⟨w.heap.size, 5, none⟩ = some (.int .i64 fl) := (HKT.out.below hb2 HKT.out.lt).cell 5
        have u6 : w2.cell? ⟨w.heap.size, 6, none⟩ = some (.slice S2 m2 k2) := (HKT.out.below hb2 HKT.out.lt).cell 6
        have u7 : w2.cell? ⟨w.heap.size, 7, none⟩ = some (.slice S3 m3 k3) := (HKT.out.below hb2 HKT.out.lt).cell 7
        clear hb2
        go_wp2_with fail
        go_meet
        case rel => exact ⟨by rw [HE1.out] <;> rfl, HB2.out⟩
    by_cases h6 : k = 6
    · subst h6
      obtain ⟨q0, hq0⟩ : ∃ q, q = bareE (.mk 6 o m s A n c es) 2 true false false := ⟨_, rfl⟩
      obtain ⟨q1, hq1⟩ : ∃ q, q = amongB o 1 14 := ⟨_, rfl⟩
      have e1 : okB (TB.mk m1 fl m2 m3 m8 fs ps) loc said (.mk 6 o m s A n c es) = (q0 && q1) := by
        rw [hq0, hq1]
        exact (if_neg (by show ¬ ((6 : Int) = 1); decide)).trans ((if_neg (by show ¬ ((6 : Int) = 14); decide)).trans ((if_neg (by show ¬ ((6 : Int) = 15); decide)).trans ((if_neg (by show ¬ ((6 : Int) = 19); decide)).trans ((if_neg (by show ¬ ((6 : Int) = 4 ∨ (6 : Int) = 5 ∨ (6 : Int) = 11); decide)).trans ((if_neg (by show ¬ ((6 : Int) = 13); decide)).trans ((if_pos (by show (6 : Int) = 6; decide)).trans rfl))))))
      have Hq0 := Lib.hid hq0
      have Hq1 := Lib.hid hq1
      have HE1 := Lib.hid e1
      clear e1 hq0 hq1
      go_wp2_with (refine wpList_load_row rfl 24 _ rfl (w.heap.size + 1) rfl 24 #[.int .i64 6, .int .i64 o, .int .i64 m, .string (bs s), .slice A n c] (0, 0) _ HK.out Try.underlying24 rfl expr_size ?_)
      refine (HCB.out 2 true false false W HBW.out).mono ?_
      rintro f w2 ⟨rfl, hb2⟩
      rw [← Hq0.out]
      have HB2 := Lib.hid hb2
      have kk1 : w2.cell? ⟨w.heap.size + 1, 1, none⟩ = some (.int .i64 o) := (HK.out.below hb2 HK.out.lt).cell 1
      have kk2 : w2.cell? ⟨w.heap.size + 1, 2, none⟩ = some (.int .i64 m) := (HK.out.below hb2 HK.out.lt).cell 2
      have kk3 : w2.cell? ⟨w.heap.size + 1, 3, none⟩ = some (.string (bs s)) := (HK.out.below hb2 HK.out.lt).cell 3
      have kk4 : w2.cell? ⟨w.heap.size + 1, 4, none⟩ = some (.slice A n c) := (HK.out.below hb2 HK.out.lt).cell 4
      have u4 : w2.cell? ⟨w.heap.size, 4, none⟩ = some (.slice S1 m1 k1) := (HKT.out.below hb2 HKT.out.lt).cell 4
      have u5 : w2.cell? ⟨w.heap.size, 5, none⟩ = some (.int .i64 fl) := (HKT.out.below hb2 HKT.out.lt).cell 5
      have u6 : w2.cell? ⟨w.heap.size, 6, none⟩ = some (.slice S2 m2 k2) := (HKT.out.below hb2 HKT.out.lt).cell 6
      have u7 : w2.cell? ⟨w.heap.size, 7, none⟩ = some (.slice S3 m3 k3) := (HKT.out.below hb2 HKT.out.lt).cell 7
      clear hb2
      cases q0 with
      | false =>
        go_wp2_with fail
        go_meet
        case rel => exact ⟨by rw [HE1.out] <;> rfl, HB2.out⟩
      | true =>
        go_wp2_with fail
        refine (r10among_any w2 o 1 14).mono ?_
        rintro f w3 ⟨rfl, rfl⟩
        rw [← Hq1.out]
        go_wp2_with fail
        go_meet
        case rel => exact ⟨by rw [HE1.out] <;> rfl, HB2.out⟩
    by_cases h16 : k = 16
    · subst h16
      obtain ⟨q0, hq0⟩ : ∃ q, q = bareE (.mk 16 o m s A n c es) 1 false true false := ⟨_, rfl⟩
      obtain ⟨q1, hq1⟩ : ∃ q, q = decide (0 ≤ m) := ⟨_, rfl⟩
      obtain ⟨q2, hq2⟩ : ∃ q, q = decide (m < fl) := ⟨_, rfl⟩
      have e1 : okB (TB.mk m1 fl m2 m3 m8 fs ps) loc said (.mk 16 o m s A n c es) = (q0 && q1 && q2) := by
        rw [hq0, hq1, hq2]
        exact (if_neg (by show ¬ ((16 : Int) = 1); decide)).trans ((if_neg (by show ¬ ((16 : Int) = 14); decide)).trans ((if_neg (by show ¬ ((16 : Int) = 15); decide)).trans ((if_neg (by show ¬ ((16 : Int) = 19); decide)).trans ((if_neg (by show ¬ ((16 : Int) = 4 ∨ (16 : Int) = 5 ∨ (16 : Int) = 11); decide)).trans ((if_neg (by show ¬ ((16 : Int) = 13); decide)).trans ((if_neg (by show ¬ ((16 : Int) = 6); decide)).trans ((if_pos (by show (16 : Int) = 16; decide)).trans rfl)))))))
      have Hq0 := Lib.hid hq0
      have Hq1 := Lib.hid hq1
      have Hq2 := Lib.hid hq2
      have HE1 := Lib.hid e1
      clear e1 hq0 hq1 hq2
      go_wp2_with (refine wpList_load_row rfl 24 _ rfl (w.heap.size + 1) rfl 24 #[.int .i64 16, .int .i64 o, .int .i64 m, .string (bs s), .slice A n c] (0, 0) _ HK.out Try.underlying24 rfl expr_size ?_)
      refine (HCB.out 1 false true false W HBW.out).mono ?_
      rintro f w2 ⟨rfl, hb2⟩
      rw [← Hq0.out]
      have HB2 := Lib.hid hb2
      have kk1 : w2.cell? ⟨w.heap.size + 1, 1, none⟩ = some (.int .i64 o) := (HK.out.below hb2 HK.out.lt).cell 1
      have kk2 : w2.cell? ⟨w.heap.size + 1, 2, none⟩ = some (.int .i64 m) := (HK.out.below hb2 HK.out.lt).cell 2
      have kk3 : w2.cell? ⟨w.heap.size + 1, 3, none⟩ = some (.string (bs s)) := (HK.out.below hb2 HK.out.lt).cell 3
      have kk4 : w2.cell? ⟨w.heap.size + 1, 4, none⟩ = some (.slice A n c) := (HK.out.below hb2 HK.out.lt).cell 4
      have u4 : w2.cell? ⟨w.heap.size, 4, none⟩ = some (.slice S1 m1 k1) := (HKT.out.below hb2 HKT.out.lt).cell 4
      have u5 : w2.cell? ⟨w.heap.size, 5, none⟩ = some (.int .i64 fl) := (HKT.out.below hb2 HKT.out.lt).cell 5
      have u6 : w2.cell? ⟨w.heap.size, 6, none⟩ = some (.slice S2 m2 k2) := (HKT.out.below hb2 HKT.out.lt).cell 6
      have u7 : w2.cell? ⟨w.heap.size, 7, none⟩ = some (.slice S3 m3 k3) := (HKT.out.below hb2 HKT.out.lt).cell 7
      clear hb2
      cases q0 with
      | false =>
        go_wp2_with fail
        go_meet
        case rel => exact ⟨by rw [HE1.out] <;> rfl, HB2.out⟩
      | true =>
        by_cases g1 : 0 ≤ m
        · have hq1 : q1 = true := by rw [Hq1.out]; exact decide_eq_true g1
          by_cases g2 : m < fl
          · have hq2 : q2 = true := by rw [Hq2.out]; exact decide_eq_true g2
            go_wp2_with fail
            go_meet
            case rel => exact ⟨by rw [HE1.out, hq1, hq2] <;> rfl, HB2.out⟩
          · have hq2 : q2 = false := by rw [Hq2.out]; exact decide_eq_false g2
            have f2 : decide (m < fl) = false := by rw [decide_eq_false_iff_not]; exact g2
            clear g2
            go_wp2_with fail
            go_meet
            case rel => exact ⟨by rw [HE1.out, hq1, hq2] <;> rfl, HB2.out⟩
        · have hq1 : q1 = false := by rw [Hq1.out]; exact decide_eq_false g1
          have f1 : decide (0 ≤ m) = false := by rw [decide_eq_false_iff_not]; exact g1
          clear g1
          go_wp2_with fail
          go_meet
          case rel => exact ⟨by rw [HE1.out, hq1] <;> rfl, HB2.out⟩
    by_cases h17 : k = 17
    · subst h17
      obtain ⟨q0, hq0⟩ : ∃ q, q = bareE (.mk 17 o m s A n c es) 1 false true false := ⟨_, rfl⟩
      obtain ⟨q1, hq1⟩ : ∃ q, q = amongB m 0 ((m2 : Int) - 1) := ⟨_, rfl⟩
      have e1 : okB (TB.mk m1 fl m2 m3 m8 fs ps) loc said (.mk 17 o m s A n c es) = (q0 && q1) := by
        rw [hq0, hq1]
        exact (if_neg (by show ¬ ((17 : Int) = 1); decide)).trans ((if_neg (by show ¬ ((17 : Int) = 14); decide)).trans ((if_neg (by show ¬ ((17 : Int) = 15); decide)).trans ((if_neg (by show ¬ ((17 : Int) = 19); decide)).trans ((if_neg (by show ¬ ((17 : Int) = 4 ∨ (17 : Int) = 5 ∨ (17 : Int) = 11); decide)).trans ((if_neg (by show ¬ ((17 : Int) = 13); decide)).trans ((if_neg (by show ¬ ((17 : Int) = 6); decide)).trans ((if_neg (by show ¬ ((17 : Int) = 16); decide)).trans ((if_pos (by show (17 : Int) = 17; decide)).trans rfl))))))))
      have Hq0 := Lib.hid hq0
      have Hq1 := Lib.hid hq1
      have HE1 := Lib.hid e1
      clear e1 hq0 hq1
      go_wp2_with (refine wpList_load_row rfl 24 _ rfl (w.heap.size + 1) rfl 24 #[.int .i64 17, .int .i64 o, .int .i64 m, .string (bs s), .slice A n c] (0, 0) _ HK.out Try.underlying24 rfl expr_size ?_)
      refine (HCB.out 1 false true false W HBW.out).mono ?_
      rintro f w2 ⟨rfl, hb2⟩
      rw [← Hq0.out]
      have HB2 := Lib.hid hb2
      have kk1 : w2.cell? ⟨w.heap.size + 1, 1, none⟩ = some (.int .i64 o) := (HK.out.below hb2 HK.out.lt).cell 1
      have kk2 : w2.cell? ⟨w.heap.size + 1, 2, none⟩ = some (.int .i64 m) := (HK.out.below hb2 HK.out.lt).cell 2
      have kk3 : w2.cell? ⟨w.heap.size + 1, 3, none⟩ = some (.string (bs s)) := (HK.out.below hb2 HK.out.lt).cell 3
      have kk4 : w2.cell? ⟨w.heap.size + 1, 4, none⟩ = some (.slice A n c) := (HK.out.below hb2 HK.out.lt).cell 4
      have u4 : w2.cell? ⟨w.heap.size, 4, none⟩ = some (.slice S1 m1 k1) := (HKT.out.below hb2 HKT.out.lt).cell 4
      have u5 : w2.cell? ⟨w.heap.size, 5, none⟩ = some (.int .i64 fl) := (HKT.out.below hb2 HKT.out.lt).cell 5
      have u6 : w2.cell? ⟨w.heap.size, 6, none⟩ = some (.slice S2 m2 k2) := (HKT.out.below hb2 HKT.out.lt).cell 6
      have u7 : w2.cell? ⟨w.heap.size, 7, none⟩ = some (.slice S3 m3 k3) := (HKT.out.below hb2 HKT.out.lt).cell 7
      clear hb2
      cases q0 with
      | false =>
        go_wp2_with fail
        go_meet
        case rel => exact ⟨by rw [HE1.out] <;> rfl, HB2.out⟩
      | true =>
        go_wp2_with fail
        refine (r10among_any w2 m 0 ((m2 : Int) - 1)).mono ?_
        rintro f w3 ⟨rfl, rfl⟩
        rw [← Hq1.out]
        go_wp2_with fail
        go_meet
        case rel => exact ⟨by rw [HE1.out] <;> rfl, HB2.out⟩
    by_cases h18 : k = 18
    · subst h18
      obtain ⟨q0, hq0'⟩ : ∃ q, q = bareE (.mk 18 o m s A n c es) n false true false := ⟨_, rfl⟩
      have hq0 : q0 = bareE (.mk 18 o m s A n c es) es.length false true false := by rw [hq0', HL.out]
      obtain ⟨q1, hq1⟩ : ∃ q, q = decide (paramsT (TB.mk m1 fl m2 m3 m8 fs ps) m = (es.length : Int)) := ⟨_, rfl⟩
      have e1 : okB (TB.mk m1 fl m2 m3 m8 fs ps) loc said (.mk 18 o m s A n c es) = (q0 && q1) := by
        rw [hq0, hq1]
        exact (if_neg (by show ¬ ((18 : Int) = 1); decide)).trans ((if_neg (by show ¬ ((18 : Int) = 14); decide)).trans ((if_neg (by show ¬ ((18 : Int) = 15); decide)).trans ((if_neg (by show ¬ ((18 : Int) = 19); decide)).trans ((if_neg (by show ¬ ((18 : Int) = 4 ∨ (18 : Int) = 5 ∨ (18 : Int) = 11); decide)).trans ((if_neg (by show ¬ ((18 : Int) = 13); decide)).trans ((if_neg (by show ¬ ((18 : Int) = 6); decide)).trans ((if_neg (by show ¬ ((18 : Int) = 16); decide)).trans ((if_neg (by show ¬ ((18 : Int) = 17); decide)).trans ((if_pos (by show (18 : Int) = 18; decide)).trans rfl)))))))))
      have Hq0 := Lib.hid hq0'
      have Hq1 := Lib.hid hq1
      obtain ⟨p, hp⟩ : ∃ p, p = paramsT (TB.mk m1 fl m2 m3 m8 fs ps) m := ⟨_, rfl⟩
      have HP := Lib.hid hp
      have tq : (p == (n : Int)) = q1 := by rw [hp, hq1, HL.out, beqX]
      clear hp
      have HE1 := Lib.hid e1
      clear e1 hq0 hq1 hq0'
      have hce : Hid (∀ u : World, Below W.heap.size W u → u.cell? ⟨w.heap.size + 1, 0, none⟩ = some (.int .i64 18) ∧ u.cell? ⟨w.heap.size + 1, 1, none⟩ = some (.int .i64 o) ∧ u.cell? ⟨w.heap.size + 1, 2, none⟩ = some (.int .i64 m) ∧ u.cell? ⟨w.heap.size + 1, 3, none⟩ = some (.string (bs s)) ∧ u.cell? ⟨w.heap.size + 1, 4, none⟩ = some (.slice A n c)) := Lib.hid (fun u hb => by
        have hk2 := HK.out.below hb HK.out.lt
        exact ⟨hk2.cell 0, hk2.cell 1, hk2.cell 2, hk2.cell 3, hk2.cell 4⟩)
      have hct : Hid (∀ u : World, Below W.heap.size W u → u.cell? ⟨w.heap.size, 0, none⟩ = some (.int .i64 t1) ∧ u.cell? ⟨w.heap.size, 1, none⟩ = some (.int .i64 t2) ∧ u.cell? ⟨w.heap.size, 2, none⟩ = some (.int .i64 t3) ∧ u.cell? ⟨w.heap.size, 3, none⟩ = some (.int .i64 t4) ∧ u.cell? ⟨w.heap.size, 4, none⟩ = some (.slice S1 m1 k1) ∧ u.cell? ⟨w.heap.size, 5, none⟩ = some (.int .i64 fl) ∧ u.cell? ⟨w.heap.size, 6, none⟩ = some (.slice S2 m2 k2) ∧ u.cell? ⟨w.heap.size, 7, none⟩ = some (.slice S3 m3 k3) ∧ u.cell? ⟨w.heap.size, 8, none⟩ = some (.slice S4 m4 k4) ∧ u.cell? ⟨w.heap.size, 9, none⟩ = some (.slice S5 m5 k5) ∧ u.cell? ⟨w.heap.size, 10, none⟩ = some (.slice S6 m6 k6) ∧ u.cell? ⟨w.heap.size, 11, none⟩ = some (.slice S7 m7 k7) ∧ u.cell? ⟨w.heap.size, 12, none⟩ = some (.slice S8 m8 k8) ∧ u.cell? ⟨w.heap.size, 13, none⟩ = some (.slice S9 m9 k9) ∧ u.cell? ⟨w.heap.size, 14, none⟩ = some (.slice S10 m10 k10)) := Lib.hid (fun u hb => by
        have hk2 := HKT.out.below hb HKT.out.lt
        exact ⟨hk2.cell 0, hk2.cell 1, hk2.cell 2, hk2.cell 3, hk2.cell 4, hk2.cell 5, hk2.cell 6, hk2.cell 7, hk2.cell 8, hk2.cell 9, hk2.cell 10, hk2.cell 11, hk2.cell 12, hk2.cell 13, hk2.cell 14⟩)
      clear kk0 kk1 kk2 kk3 kk4
      cases q0 with
      | false =>
        go_wp2_with fail
        refine wp_region_held_drew (S := Below W.heap.size W) (by kernel_rfl) (Below.refl _ _).drew (fun hHeld => ?_)
        refine held_take (i := 0) (fuel := 15) (v := ?_) (by rw [List.getElem?_toArray]; rfl) (by kernel_rfl) (by kernel_rfl) (by kernel_rfl) hHeld ?_ ?_ ?_ ?_
        rotate_left
        · intro u hSw
          obtain ⟨c0, c1, c2, c3, c4⟩ := hce.out u hSw
          go_simp
          try with_reducible rfl
        · rfl
        · exact fun _ _ _ h => h
        try simp only [Act.put, List.setIfInBounds_toArray, List.set_cons_zero, List.set_cons_succ]
        refine held_take (i := 1) (fuel := 14) (v := ?_) (by rw [List.getElem?_toArray]; rfl) (by kernel_rfl) (by kernel_rfl) (by kernel_rfl) hHeld ?_ ?_ ?_ ?_
        rotate_left
        · intro u hSw
          go_simp
          try with_reducible rfl
        · rfl
        · exact fun _ _ _ h => h
        try simp only [Act.put, List.setIfInBounds_toArray, List.set_cons_zero, List.set_cons_succ]
        refine held_take (i := 2) (fuel := 13) (v := ?_) (by rw [List.getElem?_toArray]; rfl) (by kernel_rfl) (by kernel_rfl) (by kernel_rfl) hHeld ?_ ?_ ?_ ?_
        rotate_left
        · intro u hSw
          obtain ⟨c0, c1, c2, c3, c4⟩ := hce.out u hSw
          go_simp
          try with_reducible rfl
        · rfl
        · exact fun _ _ _ h => h
        try simp only [Act.put, List.setIfInBounds_toArray, List.set_cons_zero, List.set_cons_succ]
        refine held_take (i := 3) (fuel := 12) (v := ?_) (by rw [List.getElem?_toArray]; rfl) (by kernel_rfl) (by kernel_rfl) (by kernel_rfl) hHeld ?_ ?_ ?_ ?_
        rotate_left
        · intro u hSw
          go_simp
          try with_reducible rfl
        · rfl
        · exact fun _ _ _ h => h
        try simp only [Act.put, List.setIfInBounds_toArray, List.set_cons_zero, List.set_cons_succ]
        refine held_one (i := 4) (fuel := 11) (by kernel_rfl) (by rw [List.getElem?_toArray]; rfl) (fun K hK => ?_)
        go_simp
        refine (HCB.out n false true false _ (HBW.out.trans (hHeld.mono HBW.out.size))).mono ?_
        rintro f w3 ⟨rfl, hb3⟩
        rw [← Hq0.out]
        refine hK.out _ _ ?_ (fun hHeld => ?_)
        · exact hHeld.trans (hb3.mono hHeld.size)
        clear hK K
        try simp only [Act.put, List.setIfInBounds_toArray, List.set_cons_zero, List.set_cons_succ]
        refine held_take (i := 5) (fuel := 10) (v := ?_) (by rw [List.getElem?_toArray]; rfl) (by kernel_rfl) (by kernel_rfl) (by kernel_rfl) hHeld ?_ ?_ ?_ ?_
        rotate_left
        · intro u hSw
          go_simp
          try with_reducible rfl
        · rfl
        · exact fun _ _ _ h => h
        try simp only [Act.put, List.setIfInBounds_toArray, List.set_cons_zero, List.set_cons_succ]
        refine held_skip (i := 6) (fuel := 9) (by rw [List.getElem?_toArray]; rfl) (by kernel_rfl) (by kernel_rfl) (by kernel_rfl) hHeld ?_ ?_ ?_
        · rfl
        · exact fun _ _ _ h => h
        try simp only [Act.put, List.setIfInBounds_toArray, List.set_cons_zero, List.set_cons_succ]
        refine held_skip (i := 7) (fuel := 8) (by rw [List.getElem?_toArray]; rfl) (by kernel_rfl) (by kernel_rfl) (by kernel_rfl) hHeld ?_ ?_ ?_
        · rfl
        · exact fun _ _ _ h => h
        try simp only [Act.put, List.setIfInBounds_toArray, List.set_cons_zero, List.set_cons_succ]
        refine held_skip (i := 8) (fuel := 7) (by rw [List.getElem?_toArray]; rfl) (by kernel_rfl) (by kernel_rfl) (by kernel_rfl) hHeld ?_ ?_ ?_
        · rfl
        · exact fun _ _ _ h => h
        try simp only [Act.put, List.setIfInBounds_toArray, List.set_cons_zero, List.set_cons_succ]
        refine held_skip (i := 9) (fuel := 6) (by rw [List.getElem?_toArray]; rfl) (by kernel_rfl) (by kernel_rfl) (by kernel_rfl) hHeld ?_ ?_ ?_
        · rfl
        · exact fun _ _ _ h => h
        try simp only [Act.put, List.setIfInBounds_toArray, List.set_cons_zero, List.set_cons_succ]
        refine held_skip (i := 10) (fuel := 5) (by rw [List.getElem?_toArray]; rfl) (by kernel_rfl) (by kernel_rfl) (by kernel_rfl) hHeld ?_ ?_ ?_
        · rfl
        · exact fun _ _ _ h => h
        try simp only [Act.put, List.setIfInBounds_toArray, List.set_cons_zero, List.set_cons_succ]
        refine held_skip (i := 11) (fuel := 4) (by rw [List.getElem?_toArray]; rfl) (by kernel_rfl) (by kernel_rfl) (by kernel_rfl) hHeld ?_ ?_ ?_
        · rfl
        · exact fun _ _ _ h => h
        try simp only [Act.put, List.setIfInBounds_toArray, List.set_cons_zero, List.set_cons_succ]
        refine held_skip (i := 12) (fuel := 3) (by rw [List.getElem?_toArray]; rfl) (by kernel_rfl) (by kernel_rfl) (by kernel_rfl) hHeld ?_ ?_ ?_
        · rfl
        · exact fun _ _ _ h => h
        try simp only [Act.put, List.setIfInBounds_toArray, List.set_cons_zero, List.set_cons_succ]
        refine held_skip (i := 13) (fuel := 2) (by rw [List.getElem?_toArray]; rfl) (by kernel_rfl) (by kernel_rfl) (by kernel_rfl) hHeld ?_ ?_ ?_
        · rfl
        · exact fun _ _ _ h => h
        try simp only [Act.put, List.setIfInBounds_toArray, List.set_cons_zero, List.set_cons_succ]
        refine held_take (i := 14) (fuel := 1) (v := ?_) (by rw [List.getElem?_toArray]; rfl) (by kernel_rfl) (by kernel_rfl) (by kernel_rfl) hHeld ?_ ?_ ?_ ?_
        rotate_left
        · intro u hSw
          go_simp
          try with_reducible rfl
        · rfl
        · exact fun _ _ _ h => h
        try simp only [Act.put, List.setIfInBounds_toArray, List.set_cons_zero, List.set_cons_succ]
        refine held_take (i := 15) (fuel := 0) (v := ?_) (by rw [List.getElem?_toArray]; rfl) (by kernel_rfl) (by kernel_rfl) (by kernel_rfl) hHeld ?_ ?_ ?_ ?_
        rotate_left
        · intro u hSw
          go_simp
          try with_reducible rfl
        · rfl
        · exact fun _ _ _ h => h
        try simp only [Act.put, List.setIfInBounds_toArray, List.set_cons_zero, List.set_cons_succ]
        refine wpAnyH_done (by kernel_rfl) ?_ _
        have HF := Lib.hid hHeld
        clear hHeld
        go_wp2_with fail
        go_meet
        case rel => exact ⟨by rw [HE1.out] <;> rfl, HF.out⟩
      | true =>
        go_wp2_with fail
        refine wp_region_held_drew (S := Below W.heap.size W) (by kernel_rfl) (Below.refl _ _).drew (fun hHeld => ?_)
        refine held_take (i := 0) (fuel := 15) (v := ?_) (by rw [List.getElem?_toArray]; rfl) (by kernel_rfl) (by kernel_rfl) (by kernel_rfl) hHeld ?_ ?_ ?_ ?_
        rotate_left
        · intro u hSw
          obtain ⟨c0, c1, c2, c3, c4⟩ := hce.out u hSw
          go_simp
          try with_reducible rfl
        · rfl
        · exact fun _ _ _ h => h
        try simp only [Act.put, List.setIfInBounds_toArray, List.set_cons_zero, List.set_cons_succ]
        refine held_take (i := 1) (fuel := 14) (v := ?_) (by rw [List.getElem?_toArray]; rfl) (by kernel_rfl) (by kernel_rfl) (by kernel_rfl) hHeld ?_ ?_ ?_ ?_
        rotate_left
        · intro u hSw
          go_simp
          try with_reducible rfl
        · rfl
        · exact fun _ _ _ h => h
        try simp only [Act.put, List.setIfInBounds_toArray, List.set_cons_zero, List.set_cons_succ]
        refine held_take (i := 2) (fuel := 13) (v := ?_) (by rw [List.getElem?_toArray]; rfl) (by kernel_rfl) (by kernel_rfl) (by kernel_rfl) hHeld ?_ ?_ ?_ ?_
        rotate_left
        · intro u hSw
          obtain ⟨c0, c1, c2, c3, c4⟩ := hce.out u hSw
          go_simp
          try with_reducible rfl
        · rfl
        · exact fun _ _ _ h => h
        try simp only [Act.put, List.setIfInBounds_toArray, List.set_cons_zero, List.set_cons_succ]
        refine held_take (i := 3) (fuel := 12) (v := ?_) (by rw [List.getElem?_toArray]; rfl) (by kernel_rfl) (by kernel_rfl) (by kernel_rfl) hHeld ?_ ?_ ?_ ?_
        rotate_left
        · intro u hSw
          go_simp
          try with_reducible rfl
        · rfl
        · exact fun _ _ _ h => h
        try simp only [Act.put, List.setIfInBounds_toArray, List.set_cons_zero, List.set_cons_succ]
        refine held_one (i := 4) (fuel := 11) (by kernel_rfl) (by rw [List.getElem?_toArray]; rfl) (fun K hK => ?_)
        go_simp
        refine (HCB.out n false true false _ (HBW.out.trans (hHeld.mono HBW.out.size))).mono ?_
        rintro f w3 ⟨rfl, hb3⟩
        rw [← Hq0.out]
        refine hK.out _ _ ?_ (fun hHeld => ?_)
        · exact hHeld.trans (hb3.mono hHeld.size)
        clear hK K
        try simp only [Act.put, List.setIfInBounds_toArray, List.set_cons_zero, List.set_cons_succ]
        refine held_take (i := 5) (fuel := 10) (v := ?_) (by rw [List.getElem?_toArray]; rfl) (by kernel_rfl) (by kernel_rfl) (by kernel_rfl) hHeld ?_ ?_ ?_ ?_
        rotate_left
        · intro u hSw
          go_simp
          try with_reducible rfl
        · rfl
        · exact fun _ _ _ h => h
        try simp only [Act.put, List.setIfInBounds_toArray, List.set_cons_zero, List.set_cons_succ]
        refine held_take (i := 6) (fuel := 9) (v := ?_) (by rw [List.getElem?_toArray]; rfl) (by kernel_rfl) (by kernel_rfl) (by kernel_rfl) hHeld ?_ ?_ ?_ ?_
        rotate_left
        · intro u hSw
          obtain ⟨c0, c1, c2, c3, c4, c5, c6, c7, c8, c9, c10, c11, c12, c13, c14⟩ := hct.out u hSw
          go_simp
          try with_reducible rfl
        · rfl
        · exact fun _ _ _ h => h
        try simp only [Act.put, List.setIfInBounds_toArray, List.set_cons_zero, List.set_cons_succ]
        refine held_take (i := 7) (fuel := 8) (v := ?_) (by rw [List.getElem?_toArray]; rfl) (by kernel_rfl) (by kernel_rfl) (by kernel_rfl) hHeld ?_ ?_ ?_ ?_
        rotate_left
        · intro u hSw
          go_simp
          try with_reducible rfl
        · rfl
        · exact fun _ _ _ h => h
        try simp only [Act.put, List.setIfInBounds_toArray, List.set_cons_zero, List.set_cons_succ]
        refine held_take (i := 8) (fuel := 7) (v := ?_) (by rw [List.getElem?_toArray]; rfl) (by kernel_rfl) (by kernel_rfl) (by kernel_rfl) hHeld ?_ ?_ ?_ ?_
        rotate_left
        · intro u hSw
          obtain ⟨c0, c1, c2, c3, c4⟩ := hce.out u hSw
          go_simp
          try with_reducible rfl
        · rfl
        · exact fun _ _ _ h => h
        try simp only [Act.put, List.setIfInBounds_toArray, List.set_cons_zero, List.set_cons_succ]
        refine held_take (i := 10) (fuel := 6) (v := ?_) (by rw [List.getElem?_toArray]; rfl) (by kernel_rfl) (by kernel_rfl) (by kernel_rfl) hHeld ?_ ?_ ?_ ?_
        rotate_left
        · intro u hSw
          go_simp
          try with_reducible rfl
        · rfl
        · exact fun _ _ _ h => h
        try simp only [Act.put, List.setIfInBounds_toArray, List.set_cons_zero, List.set_cons_succ]
        refine held_take (i := 11) (fuel := 5) (v := ?_) (by rw [List.getElem?_toArray]; rfl) (by kernel_rfl) (by kernel_rfl) (by kernel_rfl) hHeld ?_ ?_ ?_ ?_
        rotate_left
        · intro u hSw
          obtain ⟨c0, c1, c2, c3, c4⟩ := hce.out u hSw
          go_simp
          try with_reducible rfl
        · rfl
        · exact fun _ _ _ h => h
        try simp only [Act.put, List.setIfInBounds_toArray, List.set_cons_zero, List.set_cons_succ]
        refine held_take (i := 12) (fuel := 4) (v := ?_) (by rw [List.getElem?_toArray]; rfl) (by kernel_rfl) (by kernel_rfl) (by kernel_rfl) hHeld ?_ ?_ ?_ ?_
        rotate_left
        · intro u hSw
          go_simp
          try with_reducible rfl
        · rfl
        · exact fun _ _ _ h => h
        try simp only [Act.put, List.setIfInBounds_toArray, List.set_cons_zero, List.set_cons_succ]
        refine held_one (i := 9) (fuel := 3) (by kernel_rfl) (by rw [List.getElem?_toArray]; rfl) (fun K hK => ?_)
        go_simp
        refine (HPR.out _ (HBW.out.trans (hHeld.mono HBW.out.size))).mono ?_
        rintro f w4 ⟨rfl, hb4⟩
        rw [← HP.out]
        refine hK.out _ _ ?_ (fun hHeld => ?_)
        · exact hHeld.trans (hb4.mono hHeld.size)
        clear hK K
        try simp only [Act.put, List.setIfInBounds_toArray, List.set_cons_zero, List.set_cons_succ]
        refine held_take (i := 13) (fuel := 2) (v := ?_) (by rw [List.getElem?_toArray]; rfl) (by kernel_rfl) (by kernel_rfl) (by kernel_rfl) hHeld ?_ ?_ ?_ ?_
        rotate_left
        · intro u hSw
          go_simp
          try with_reducible rfl
        · rfl
        · exact fun _ _ _ h => h
        try simp only [Act.put, List.setIfInBounds_toArray, List.set_cons_zero, List.set_cons_succ]
        refine held_take (i := 14) (fuel := 1) (v := ?_) (by rw [List.getElem?_toArray]; rfl) (by kernel_rfl) (by kernel_rfl) (by kernel_rfl) hHeld ?_ ?_ ?_ ?_
        rotate_left
        · intro u hSw
          go_simp
          try with_reducible rfl
        · rfl
        · exact fun _ _ _ h => h
        try simp only [Act.put, List.setIfInBounds_toArray, List.set_cons_zero, List.set_cons_succ]
        refine held_take (i := 15) (fuel := 0) (v := ?_) (by rw [List.getElem?_toArray]; rfl) (by kernel_rfl) (by kernel_rfl) (by kernel_rfl) hHeld ?_ ?_ ?_ ?_
        rotate_left
        · intro u hSw
          go_simp
          try with_reducible rfl
        · rfl
        · exact fun _ _ _ h => h
        try simp only [Act.put, List.setIfInBounds_toArray, List.set_cons_zero, List.set_cons_succ]
        refine wpAnyH_done (by kernel_rfl) ?_ _
        have HF := Lib.hid hHeld
        clear hHeld
        go_wp2_with fail
        go_meet
        case rel => exact ⟨by rw [HE1.out] <;> rfl, HF.out⟩
    by_cases h10 : k = 10
    · subst h10
      obtain ⟨q0, hq0⟩ : ∃ q, q = bareE (.mk 10 o m s A n c es) 1 true false false := ⟨_, rfl⟩
      obtain ⟨q1, hq1⟩ : ∃ q, q = amongB o 1 3 := ⟨_, rfl⟩
      have e1 : okB (TB.mk m1 fl m2 m3 m8 fs ps) loc said (.mk 10 o m s A n c es) = (q0 && q1) := by
        rw [hq0, hq1]
        exact (if_neg (by show ¬ ((10 : Int) = 1); decide)).trans ((if_neg (by show ¬ ((10 : Int) = 14); decide)).trans ((if_neg (by show ¬ ((10 : Int) = 15); decide)).trans ((if_neg (by show ¬ ((10 : Int) = 19); decide)).trans ((if_neg (by show ¬ ((10 : Int) = 4 ∨ (10 : Int) = 5 ∨ (10 : Int) = 11); decide)).trans ((if_neg (by show ¬ ((10 : Int) = 13); decide)).trans ((if_neg (by show ¬ ((10 : Int) = 6); decide)).trans ((if_neg (by show ¬ ((10 : Int) = 16); decide)).trans ((if_neg (by show ¬ ((10 : Int) = 17); decide)).trans ((if_neg (by show ¬ ((10 : Int) = 18); decide)).trans ((if_pos (by show (10 : Int) = 10; decide)).trans rfl))))))))))
      have Hq0 := Lib.hid hq0
      have Hq1 := Lib.hid hq1
      have HE1 := Lib.hid e1
      clear e1 hq0 hq1
      go_wp2_with (refine wpList_load_row rfl 24 _ rfl (w.heap.size + 1) rfl 24 #[.int .i64 10, .int .i64 o, .int .i64 m, .string (bs s), .slice A n c] (0, 0) _ HK.out Try.underlying24 rfl expr_size ?_)
      refine (HCB.out 1 true false false W HBW.out).mono ?_
      rintro f w2 ⟨rfl, hb2⟩
      rw [← Hq0.out]
      have HB2 := Lib.hid hb2
      have kk1 : w2.cell? ⟨w.heap.size + 1, 1, none⟩ = some (.int .i64 o) := (HK.out.below hb2 HK.out.lt).cell 1
      have kk2 : w2.cell? ⟨w.heap.size + 1, 2, none⟩ = some (.int .i64 m) := (HK.out.below hb2 HK.out.lt).cell 2
      have kk3 : w2.cell? ⟨w.heap.size + 1, 3, none⟩ = some (.string (bs s)) := (HK.out.below hb2 HK.out.lt).cell 3
      have kk4 : w2.cell? ⟨w.heap.size + 1, 4, none⟩ = some (.slice A n c) := (HK.out.below hb2 HK.out.lt).cell 4
      have u4 : w2.cell? ⟨w.heap.size, 4, none⟩ = some (.slice S1 m1 k1) := (HKT.out.below hb2 HKT.out.lt).cell 4
      have u5 : w2.cell? ⟨w.heap.size, 5, none⟩ = some (.int .i64 fl) := (HKT.out.below hb2 HKT.out.lt).cell 5
      have u6 : w2.cell? ⟨w.heap.size, 6, none⟩ = some (.slice S2 m2 k2) := (HKT.out.below hb2 HKT.out.lt).cell 6
      have u7 : w2.cell? ⟨w.heap.size, 7, none⟩ = some (.slice S3 m3 k3) := (HKT.out.below hb2 HKT.out.lt).cell 7
      clear hb2
      cases q0 with
      | false =>
        go_wp2_with fail
        go_meet
        case rel => exact ⟨by rw [HE1.out] <;> rfl, HB2.out⟩
      | true =>
        go_wp2_with fail
        refine (r10among_any w2 o 1 3).mono ?_
        rintro f w3 ⟨rfl, rfl⟩
        rw [← Hq1.out]
        go_wp2_with fail
        go_meet
        case rel => exact ⟨by rw [HE1.out] <;> rfl, HB2.out⟩
    by_cases h12 : k = 12
    · subst h12
      obtain ⟨q0, hq0⟩ : ∃ q, q = bareE (.mk 12 o m s A n c es) 0 true false false := ⟨_, rfl⟩
      obtain ⟨q1, hq1⟩ : ∃ q, q = amongB o 1 6 := ⟨_, rfl⟩
      have e1 : okB (TB.mk m1 fl m2 m3 m8 fs ps) loc said (.mk 12 o m s A n c es) = (q0 && q1) := by
        rw [hq0, hq1]
        exact (if_neg (by show ¬ ((12 : Int) = 1); decide)).trans ((if_neg (by show ¬ ((12 : Int) = 14); decide)).trans ((if_neg (by show ¬ ((12 : Int) = 15); decide)).trans ((if_neg (by show ¬ ((12 : Int) = 19); decide)).trans ((if_neg (by show ¬ ((12 : Int) = 4 ∨ (12 : Int) = 5 ∨ (12 : Int) = 11); decide)).trans ((if_neg (by show ¬ ((12 : Int) = 13); decide)).trans ((if_neg (by show ¬ ((12 : Int) = 6); decide)).trans ((if_neg (by show ¬ ((12 : Int) = 16); decide)).trans ((if_neg (by show ¬ ((12 : Int) = 17); decide)).trans ((if_neg (by show ¬ ((12 : Int) = 18); decide)).trans ((if_neg (by show ¬ ((12 : Int) = 10); decide)).trans ((if_pos (by show (12 : Int) = 12; decide)).trans rfl)))))))))))
      have Hq0 := Lib.hid hq0
      have Hq1 := Lib.hid hq1
      have HE1 := Lib.hid e1
      clear e1 hq0 hq1
      go_wp2_with (refine wpList_load_row rfl 24 _ rfl (w.heap.size + 1) rfl 24 #[.int .i64 12, .int .i64 o, .int .i64 m, .string (bs s), .slice A n c] (0, 0) _ HK.out Try.underlying24 rfl expr_size ?_)
      refine (HCB.out 0 true false false W HBW.out).mono ?_
      rintro f w2 ⟨rfl, hb2⟩
      rw [← Hq0.out]
      have HB2 := Lib.hid hb2
      have kk1 : w2.cell? ⟨w.heap.size + 1, 1, none⟩ = some (.int .i64 o) := (HK.out.below hb2 HK.out.lt).cell 1
      have kk2 : w2.cell? ⟨w.heap.size + 1, 2, none⟩ = some (.int .i64 m) := (HK.out.below hb2 HK.out.lt).cell 2
      have kk3 : w2.cell? ⟨w.heap.size + 1, 3, none⟩ = some (.string (bs s)) := (HK.out.below hb2 HK.out.lt).cell 3
      have kk4 : w2.cell? ⟨w.heap.size + 1, 4, none⟩ = some (.slice A n c) := (HK.out.below hb2 HK.out.lt).cell 4
      have u4 : w2.cell? ⟨w.heap.size, 4, none⟩ = some (.slice S1 m1 k1) := (HKT.out.below hb2 HKT.out.lt).cell 4
      have u5 : w2.cell? ⟨w.heap.size, 5, none⟩ = some (.int .i64 fl) := (HKT.out.below hb2 HKT.out.lt).cell 5
      have u6 : w2.cell? ⟨w.heap.size, 6, none⟩ = some (.slice S2 m2 k2) := (HKT.out.below hb2 HKT.out.lt).cell 6
      have u7 : w2.cell? ⟨w.heap.size, 7, none⟩ = some (.slice S3 m3 k3) := (HKT.out.below hb2 HKT.out.lt).cell 7
      clear hb2
      cases q0 with
      | false =>
        go_wp2_with fail
        go_meet
        case rel => exact ⟨by rw [HE1.out] <;> rfl, HB2.out⟩
      | true =>
        go_wp2_with fail
        refine (r10among_any w2 o 1 6).mono ?_
        rintro f w3 ⟨rfl, rfl⟩
        rw [← Hq1.out]
        go_wp2_with fail
        go_meet
        case rel => exact ⟨by rw [HE1.out] <;> rfl, HB2.out⟩
    have e1 : okB (TB.mk m1 fl m2 m3 m8 fs ps) loc said (.mk k o m s A n c es) = false := (if_neg (by show ¬ (k = 1); omega)).trans ((if_neg (by show ¬ (k = 14); omega)).trans ((if_neg (by show ¬ (k = 15); omega)).trans ((if_neg (by show ¬ (k = 19); omega)).trans ((if_neg (by show ¬ (k = 4 ∨ k = 5 ∨ k = 11); omega)).trans ((if_neg (by show ¬ (k = 13); omega)).trans ((if_neg (by show ¬ (k = 6); omega)).trans ((if_neg (by show ¬ (k = 16); omega)).trans ((if_neg (by show ¬ (k = 17); omega)).trans ((if_neg (by show ¬ (k = 18); omega)).trans ((if_neg (by show ¬ (k = 10); omega)).trans ((if_neg (by show ¬ (k = 12); omega)).trans (rfl))))))))))))
    have t1e : (k == 1) = false := by rw [beq_eq_false_iff_ne]; exact h1
    have t14e : (k == 14) = false := by rw [beq_eq_false_iff_ne]; exact h14
    have t15e : (k == 15) = false := by rw [beq_eq_false_iff_ne]; exact h15
    have t19e : (k == 19) = false := by rw [beq_eq_false_iff_ne]; exact h19
    have t4e : (k == 4) = false := by rw [beq_eq_false_iff_ne]; exact h4
    have t5e : (k == 5) = false := by rw [beq_eq_false_iff_ne]; exact h5
    have t11e : (k == 11) = false := by rw [beq_eq_false_iff_ne]; exact h11
    have t13e : (k == 13) = false := by rw [beq_eq_false_iff_ne]; exact h13
    have t6e : (k == 6) = false := by rw [beq_eq_false_iff_ne]; exact h6
    have t16e : (k == 16) = false := by rw [beq_eq_false_iff_ne]; exact h16
    have t17e : (k == 17) = false := by rw [beq_eq_false_iff_ne]; exact h17
    have t18e : (k == 18) = false := by rw [beq_eq_false_iff_ne]; exact h18
    have t10e : (k == 10) = false := by rw [beq_eq_false_iff_ne]; exact h10
    have t12e : (k == 12) = false := by rw [beq_eq_false_iff_ne]; exact h12
    have HE1 := Lib.hid e1
    clear e1 h1 h14 h15 h19 h4 h5 h11 h13 h6 h16 h17 h18 h10 h12
    go_wp2_with fail
    go_meet
    case rel => exact ⟨by rw [HE1.out], HB0.out⟩
  case rest =>
    obtain ⟨rfl, hbc⟩ := hcut
    obtain ⟨ok, hok⟩ : ∃ ok, ok = okB (TB.mk m1 fl m2 m3 m8 fs ps) loc said (.mk k o m s A n c es) := ⟨_, rfl⟩
    rw [← hok]
    have HBC := Lib.hid hbc
    have HOK := Lib.hid hok
    have kk4 : wc.cell? ⟨w.heap.size + 1, 4, none⟩ = some (.slice A n c) := (HK.out.below HBC.out HK.out.lt).cell 4
    have HBC0 := Lib.hid (HBW.out.trans (HBC.out.mono HBW.out.size))
    clear hbc hok
    go_wp2_with fail
    go_loopw [9, 156] (fun vb vi wr => ∃ (j : Nat) (b : Bool), j ≤ n ∧ vi = .int .i64 j ∧ vb = .bool b ∧ Hid (b = (ok && (es.take j).all (boundE (TB.mk m1 fl m2 m3 m8 fs ps) loc false))) ∧ Hid (Below wc.heap.size wc wr)) (fun _ vi _ => n - (intOf vi).toNat)
    case atStart => exact ⟨0, ok, Nat.zero_le _, rfl, rfl, Lib.hid (by rw [List.take_zero, List.all_nil, Bool.and_true]), Lib.hid (Below.refl _ _)⟩
    case round =>
      obtain ⟨j, b, hj, rfl, rfl, HV, HB⟩ := hrel
      have HBR := Lib.hid (HBC0.out.trans (HB.out.mono HBC0.out.size))
      by_cases hlt : j < n
      · have hst := all_take (p := boundE (TB.mk m1 fl m2 m3 m8 fs ps) loc false) (l := es) (j := j) (d := nilE) (by rw [HL.out]; exact hlt)
        have hxjl : j < es.length := by rw [HL.out]; exact hlt
        obtain ⟨xad, rfl, xab, xc⟩ := row_at (HR.out.below HBR.out) hlt
        have hx := HA.out.at hxjl
        have hxmem : (es[j]?.getD nilE) ∈ es := by rw [List.getElem?_eq_getElem hxjl]; exact List.getElem_mem _
        obtain ⟨x, hxe⟩ : ∃ x, x = es[j]?.getD nilE := ⟨_, rfl⟩
        obtain ⟨a0, a1, a2, a3, a4⟩ := xc x hxe
        rw [← hxe] at hx hxmem
        have HXx := Lib.hid hx
        have HEx := Lib.hid hxe
        have HMx := Lib.hid hxmem
        rw [← hxe] at hst
        have HC := Lib.hid (IH.out _ hxmem)
        obtain ⟨xk, xo, xm, xs, xA, xn, xc', xes⟩ := x
        change wr.cell? (xad.add (j * 5)) = some (.int .i64 xk) at a0
        change wr.cell? ⟨(xad.add (j * 5)).block, (xad.add (j * 5)).off + 1, none⟩ = some (.int .i64 xo) at a1
        change wr.cell? ⟨(xad.add (j * 5)).block, (xad.add (j * 5)).off + 2, none⟩ = some (.int .i64 xm) at a2
        change wr.cell? ⟨(xad.add (j * 5)).block, (xad.add (j * 5)).off + 3, none⟩ = some (.string (bs xs)) at a3
        change wr.cell? ⟨(xad.add (j * 5)).block, (xad.add (j * 5)).off + 4, none⟩ = some (.slice xA xn xc') at a4
        clear xc hxe hx hxmem hxjl
        have HST := Lib.hid hst
        obtain ⟨q, hq⟩ : ∃ q, q = boundE (TB.mk m1 fl m2 m3 m8 fs ps) loc false (.mk xk xo xm xs xA xn xc' xes) := ⟨_, rfl⟩
        have HN : Hid ((b && q) = (ok && (es.take (j + 1)).all (boundE (TB.mk m1 fl m2 m3 m8 fs ps) loc false))) := Lib.hid (by rw [HST.out, HV.out, hq, Bool.and_assoc])
        have HQ := Lib.hid hq
        clear hst hq
        cases b with
        | false =>
          go_wp2_with (refine wpList_store_row rfl 24 _ _ rfl wr.heap.size #[.int .i64 xk, .int .i64 xo, .int .i64 xm, .string (bs xs), .slice xA xn xc'] rfl rfl _ _ (Blk.new wr _ _) expr_size rfl (expr_one _ _ _ _ _ _ _) ?_; obtain ⟨V, hV⟩ : ∃ V0, V0 = (wr.alloc (.cells #[.int .i64 0, .int .i64 0, .int .i64 0, .string ⟨#[]⟩, .slice none 0 0] 24)).setRow wr.heap.size #[.int .i64 xk, .int .i64 xo, .int .i64 xm, .string (bs xs), .slice xA xn xc'] := ⟨_, rfl⟩; rw [← hV]; obtain ⟨hkV, hbV⟩ := put_row hV; have HKV := Lib.hid hkV; have HBV := Lib.hid hbV; clear hV hkV hbV)
          have HB2 := Lib.hid (HB.out.trans (HBV.out.mono HB.out.size))
          go_roundw
          case rel => exact ⟨j + 1, false, by omega, by go_num, rfl, HN, HB2⟩
          case measure => simp [intOf]; omega
        | true =>
          go_wp2_with (refine wpList_store_row rfl 24 _ _ rfl wr.heap.size #[.int .i64 xk, .int .i64 xo, .int .i64 xm, .string (bs xs), .slice xA xn xc'] rfl rfl _ _ (Blk.new wr _ _) expr_size rfl (expr_one _ _ _ _ _ _ _) ?_; obtain ⟨V, hV⟩ : ∃ V0, V0 = (wr.alloc (.cells #[.int .i64 0, .int .i64 0, .int .i64 0, .string ⟨#[]⟩, .slice none 0 0] 24)).setRow wr.heap.size #[.int .i64 xk, .int .i64 xo, .int .i64 xm, .string (bs xs), .slice xA xn xc'] := ⟨_, rfl⟩; rw [← hV]; obtain ⟨hkV, hbV⟩ := put_row hV; have HKV := Lib.hid hkV; have HBV := Lib.hid hbV; clear hV hkV hbV; have v0 : V.cell? ⟨wr.heap.size, 0, none⟩ = some (.int .i64 xk) := HKV.out.cell 0; have v1 : V.cell? ⟨wr.heap.size, 1, none⟩ = some (.int .i64 xo) := HKV.out.cell 1; have v2 : V.cell? ⟨wr.heap.size, 2, none⟩ = some (.int .i64 xm) := HKV.out.cell 2; have v3 : V.cell? ⟨wr.heap.size, 3, none⟩ = some (.string (bs xs)) := HKV.out.cell 3; have v4 : V.cell? ⟨wr.heap.size, 4, none⟩ = some (.slice xA xn xc') := HKV.out.cell 4; have HTV := Lib.hid (HKT.out.below (HBC.out.trans ((HB.out.trans (HBV.out.mono HB.out.size)).mono HBC.out.size)) HKT.out.lt); have y0 : V.cell? ⟨w.heap.size, 0, none⟩ = some (.int .i64 t1) := HTV.out.cell 0; have y1 : V.cell? ⟨w.heap.size, 1, none⟩ = some (.int .i64 t2) := HTV.out.cell 1; have y2 : V.cell? ⟨w.heap.size, 2, none⟩ = some (.int .i64 t3) := HTV.out.cell 2; have y3 : V.cell? ⟨w.heap.size, 3, none⟩ = some (.int .i64 t4) := HTV.out.cell 3; have y4 : V.cell? ⟨w.heap.size, 4, none⟩ = some (.slice S1 m1 k1) := HTV.out.cell 4; have y5 : V.cell? ⟨w.heap.size, 5, none⟩ = some (.int .i64 fl) := HTV.out.cell 5; have y6 : V.cell? ⟨w.heap.size, 6, none⟩ = some (.slice S2 m2 k2) := HTV.out.cell 6; have y7 : V.cell? ⟨w.heap.size, 7, none⟩ = some (.slice S3 m3 k3) := HTV.out.cell 7; have y8 : V.cell? ⟨w.heap.size, 8, none⟩ = some (.slice S4 m4 k4) := HTV.out.cell 8; have y9 : V.cell? ⟨w.heap.size, 9, none⟩ = some (.slice S5 m5 k5) := HTV.out.cell 9; have y10 : V.cell? ⟨w.heap.size, 10, none⟩ = some (.slice S6 m6 k6) := HTV.out.cell 10; have y11 : V.cell? ⟨w.heap.size, 11, none⟩ = some (.slice S7 m7 k7) := HTV.out.cell 11; have y12 : V.cell? ⟨w.heap.size, 12, none⟩ = some (.slice S8 m8 k8) := HTV.out.cell 12; have y13 : V.cell? ⟨w.heap.size, 13, none⟩ = some (.slice S9 m9 k9) := HTV.out.cell 13; have y14 : V.cell? ⟨w.heap.size, 14, none⟩ = some (.slice S10 m10 k10) := HTV.out.cell 14)
          clear v0 v1 v2 v3 v4 y0 y1 y2 y3 y4 y5 y6 y7 y8 y9 y10 y11 y12 y13 y14
          have HBV2 := Lib.hid (HBR.out.trans (HBV.out.mono HBR.out.size))
          refine (HC.out V HBV2.out (EL.In.more HBV2.out.size (HXx.out.below HBV2.out))).mono ?_
          rintro f w2 ⟨rfl, hb2⟩
          rw [← HQ.out]
          have HB2 := Lib.hid (HB.out.trans ((HBV.out.trans (hb2.mono HBV.out.size)).mono HB.out.size))
          clear hb2
          go_wp2_with fail
          go_roundw
          case rel => exact ⟨j + 1, q, by omega, by go_num, rfl, by have := HN; rwa [Bool.true_and] at this, HB2⟩
          case measure => simp [intOf]; omega
      · obtain rfl : j = n := by omega
        have HE : Hid (es.take j = es) := Lib.hid (List.take_of_length_le (by rw [HL.out]; exact Nat.le_refl _))
        go_wp2_with fail
        go_ret
        rw [HV.out, HE.out, HOK.out]
        exact ⟨rfl, HBR.out⟩

end Go.Proofs.Ytdmpadonnobeaaa
