/- TreeRight, TreeBound: which expressions a source, a book may have. -/
import Derived.Test.YtdmpadonnobeaaaAll10
import Derived.Test.YtdmpadonnobeaaaRegion
namespace Go.Proofs.Ytdmpadonnobeaaa
open Go.RowKit
set_option linter.unusedVariables false

set_option maxRecDepth 100000 in
set_option maxHeartbeats 6400000 in
theorem treeRight_any (e : EL) (w : World) (hin : e.In w w.heap.size) :
    Calls Try.prog 3 #[eVal e] w fun f w' => f = .returned (.bool true) ∧ Below w.heap.size w w' := by
  obtain ⟨ev, hev⟩ : ∃ v, v = eVal e := ⟨_, rfl⟩
  have hE : ∀ W : World, Below w.heap.size w W → e.In W W.heap.size := fun W hb => EL.In.more hb.size (hin.below hb)
  obtain ⟨b, hb⟩ : ∃ b, b = rightB nmB e := ⟨_, rfl⟩
  have hf : ∀ W : World, Below w.heap.size w W → Calls Try.prog 9 #[ev, .int .i64 400] W (FewOut (sizeE e) 400 W) := fun W h => by rw [hev]; exact few_any e 400 (by decide) (by decide) W (hE W h)
  have h1 : ∀ W : World, Below w.heap.size w W → Calls Try.prog 11 #[ev] W fun f w' => f = .returned (.bool b) ∧ Below W.heap.size W w' := fun W h => by rw [hb, hev]; exact tRight_any e W (hE W h)
  have h2 : ∀ W : World, Below w.heap.size w W → Calls Try.prog 12 #[ev] W fun f w' => f = .returned (.bool b) ∧ Below W.heap.size W w' := fun W h => by rw [hb, hev]; exact r10Right_any e W (hE W h)
  have hbel : b = true → ∀ x ∈ e.args, rightB nmB x = true := fun h x hx => rightB_below (hb ▸ h) hx
  have hrow := hin.row
  have hargs := hin.args
  have HFEW := Lib.hid hf
  have H1 := Lib.hid h1
  have H2 := Lib.hid h2
  rw [← hev]
  clear hin hE hb h1 h2 hf
  obtain ⟨k, o, m, s, A, n, c, es⟩ := e
  have hev2 : ev = .agg #[.int .i64 k, .int .i64 o, .int .i64 m, .string (bs s), .slice A n c] := hev
  clear hev
  subst hev2
  have hn : es.length = n := hrow.1
  have hn9 : (n : Int) ≤ 9223372036854775807 := hrow.2.1
  have HL := Lib.hid hn
  have HR : Hid (RowE w w.heap.size A n es) := Lib.hid hrow
  have HA : Hid (EL.Ins w w.heap.size es) := Lib.hid hargs
  have HBE : Hid (b = true → ∀ x ∈ es, rightB nmB x = true) := Lib.hid hbel
  clear hn hrow hargs hbel
  obtain ⟨W, hW⟩ : ∃ W, W = w.alloc (.cells #[.int .i64 k, .int .i64 o, .int .i64 m, .string (bs s), .slice A n c] 24) := ⟨_, rfl⟩
  have HBW : Hid (Below w.heap.size w W) := Lib.hid (by rw [hW]; exact (Below.refl _ _).alloc (Nat.le_refl _) _)
  have HK : Hid (Blk W w.heap.size 24 #[.int .i64 k, .int .i64 o, .int .i64 m, .string (bs s), .slice A n c]) := Lib.hid (by rw [hW]; exact Blk.new w _ _)
  have hce : Hid (∀ u : World, Below W.heap.size W u → u.cell? ⟨w.heap.size, 0, none⟩ = some (.int .i64 k) ∧ u.cell? ⟨w.heap.size, 1, none⟩ = some (.int .i64 o) ∧ u.cell? ⟨w.heap.size, 2, none⟩ = some (.int .i64 m) ∧ u.cell? ⟨w.heap.size, 3, none⟩ = some (.string (bs s)) ∧ u.cell? ⟨w.heap.size, 4, none⟩ = some (.slice A n c)) := Lib.hid (fun u hb => by
    have hk : Blk W (w.heap.size) 24 #[.int .i64 k, .int .i64 o, .int .i64 m, .string (bs s), .slice A n c] := HK.out
    have hk2 := hk.below hb hk.lt
    exact ⟨hk2.cell 0, hk2.cell 1, hk2.cell 2, hk2.cell 3, hk2.cell 4⟩)
  go_enter Try.func3, Try.ntmps3
  go_wp2_with fail
  rw [← hW]
  clear hW
  refine (HFEW.out W HBW.out).mono ?_
  rintro f w1 ⟨r1, rfl, hr1, hb1⟩
  have HX1 := Lib.hid (HBW.out.trans (hb1.mono HBW.out.size))
  have HW1 := Lib.hid hb1
  clear hb1 hr1
  by_cases g1 : r1 < 0
  · go_wp2_with fail
    refine (awake_any _).mono ?_
    rintro f wa ⟨rfl, hba⟩
    go_wp2_with fail
    go_ret
    exact ⟨rfl, HX1.out.trans (hba.mono HX1.out.size)⟩
  · have g1' : decide (r1 < 0) = false := by rw [decide_eq_false_iff_not]; exact g1
    clear g1
    obtain ⟨q0, q1, q2, q3, q4⟩ := hce.out w1 HW1.out
    go_wp2_with fail
    clear q0 q1 q2 q3 q4
    refine (H1.out w1 HX1.out).mono ?_
    rintro f w2 ⟨rfl, hb2⟩
    have HX2 := Lib.hid (HX1.out.trans (hb2.mono HX1.out.size))
    have HW2 := Lib.hid (HW1.out.trans (hb2.mono HW1.out.size))
    clear hb2
    obtain ⟨q0, q1, q2, q3, q4⟩ := hce.out w2 HW2.out
    go_wp2_with fail
    clear q0 q1 q2 q3 q4
    refine (H2.out w2 HX2.out).mono ?_
    rintro f w3 ⟨rfl, hb3⟩
    have HX3 := Lib.hid (HX2.out.trans (hb3.mono HX2.out.size))
    have HW3 := Lib.hid (HW2.out.trans (hb3.mono HW2.out.size))
    clear hb3
    have tb : (b != b) = false := by simp
    obtain ⟨q0, q1, q2, q3, q4⟩ := hce.out w3 HW3.out
    go_wp2_with fail
    clear q0 q1 q2 q3 q4
    go_loopw [19] (fun vi wr => ∃ j : Nat, j ≤ n ∧ vi = .int .i64 j ∧ Hid (Below w3.heap.size w3 wr)) (fun vi _ => n - (intOf vi).toNat)
    case atStart => exact ⟨0, Nat.zero_le _, rfl, Lib.hid (Below.refl _ _)⟩
    case round =>
      obtain ⟨j, hj, rfl, HB⟩ := hrel
      have HBR := Lib.hid (HX3.out.trans (HB.out.mono HX3.out.size))
      by_cases hlt : j < n
      ·
        have hxjl : j < es.length := by rw [HL.out]; exact hlt
        obtain ⟨xad, rfl, xab, xc⟩ := row_at (HR.out.below HBR.out) hlt
        have hx := HA.out.at hxjl
        have hxmem : (es[j]?.getD nilE) ∈ es := by rw [List.getElem?_eq_getElem hxjl]; exact List.getElem_mem _
        obtain ⟨x, hxe⟩ : ∃ x, x = es[j]?.getD nilE := ⟨_, rfl⟩
        obtain ⟨a0, a1, a2, a3, a4⟩ := xc x hxe
        rw [← hxe] at hx hxmem
        have HXx := Lib.hid hx
        have HEx := Lib.hid hxe
        have HMx := Lib.hid hxmem
        obtain ⟨xk, xo, xm, xs, xA, xn, xc', xes⟩ := x
        change wr.cell? (xad.add (j * 5)) = some (.int .i64 xk) at a0
        change wr.cell? ⟨(xad.add (j * 5)).block, (xad.add (j * 5)).off + 1, none⟩ = some (.int .i64 xo) at a1
        change wr.cell? ⟨(xad.add (j * 5)).block, (xad.add (j * 5)).off + 2, none⟩ = some (.int .i64 xm) at a2
        change wr.cell? ⟨(xad.add (j * 5)).block, (xad.add (j * 5)).off + 3, none⟩ = some (.string (bs xs)) at a3
        change wr.cell? ⟨(xad.add (j * 5)).block, (xad.add (j * 5)).off + 4, none⟩ = some (.slice xA xn xc') at a4
        clear xc hxe hx hxmem hxjl

        have hc := tRight_any (.mk xk xo xm xs xA xn xc' xes)
        have hy : b = true → rightB nmB (.mk xk xo xm xs xA xn xc' xes) = true := fun h => HBE.out h _ HMx.out
        have HC := Lib.hid hc
        have HY := Lib.hid hy
        clear hc hy
        cases b with
        | false =>
          go_wp2_with (refine wpList_store_row rfl 24 _ _ rfl wr.heap.size #[.int .i64 xk, .int .i64 xo, .int .i64 xm, .string (bs xs), .slice xA xn xc'] rfl rfl _ _ (Blk.new wr _ _) expr_size rfl (expr_one _ _ _ _ _ _ _) ?_; obtain ⟨V, hV⟩ : ∃ V0, V0 = (wr.alloc (.cells #[.int .i64 0, .int .i64 0, .int .i64 0, .string ⟨#[]⟩, .slice none 0 0] 24)).setRow wr.heap.size #[.int .i64 xk, .int .i64 xo, .int .i64 xm, .string (bs xs), .slice xA xn xc'] := ⟨_, rfl⟩; rw [← hV]; obtain ⟨hkV, hbV⟩ := put_row hV; have HKV := Lib.hid hkV; have HBV := Lib.hid hbV; clear hV hkV hbV)
          have HB2 := Lib.hid (HB.out.trans (HBV.out.mono HB.out.size))
          go_roundw
          case rel => exact ⟨j + 1, by omega, by go_num, HB2⟩
          case measure => simp [intOf]; omega
        | true =>
          have HY2 : Hid (rightB nmB (.mk xk xo xm xs xA xn xc' xes) = true) := Lib.hid (HY.out (by first | rfl | trivial))
          go_wp2_with (refine wpList_store_row rfl 24 _ _ rfl wr.heap.size #[.int .i64 xk, .int .i64 xo, .int .i64 xm, .string (bs xs), .slice xA xn xc'] rfl rfl _ _ (Blk.new wr _ _) expr_size rfl (expr_one _ _ _ _ _ _ _) ?_; obtain ⟨V, hV⟩ : ∃ V0, V0 = (wr.alloc (.cells #[.int .i64 0, .int .i64 0, .int .i64 0, .string ⟨#[]⟩, .slice none 0 0] 24)).setRow wr.heap.size #[.int .i64 xk, .int .i64 xo, .int .i64 xm, .string (bs xs), .slice xA xn xc'] := ⟨_, rfl⟩; rw [← hV]; obtain ⟨hkV, hbV⟩ := put_row hV; have HKV := Lib.hid hkV; have HBV := Lib.hid hbV; clear hV hkV hbV; have v0 : V.cell? ⟨wr.heap.size, 0, none⟩ = some (.int .i64 xk) := HKV.out.cell 0; have v1 : V.cell? ⟨wr.heap.size, 1, none⟩ = some (.int .i64 xo) := HKV.out.cell 1; have v2 : V.cell? ⟨wr.heap.size, 2, none⟩ = some (.int .i64 xm) := HKV.out.cell 2; have v3 : V.cell? ⟨wr.heap.size, 3, none⟩ = some (.string (bs xs)) := HKV.out.cell 3; have v4 : V.cell? ⟨wr.heap.size, 4, none⟩ = some (.slice xA xn xc') := HKV.out.cell 4)
          clear v0 v1 v2 v3 v4
          have HBV2 := Lib.hid (HBR.out.trans (HBV.out.mono HBR.out.size))
          refine (HC.out V (EL.In.more HBV2.out.size (HXx.out.below HBV2.out))).mono ?_
          rintro f w4 ⟨rfl, hb4⟩
          rw [HY2.out]
          have HB2 := Lib.hid (HB.out.trans ((HBV.out.trans (hb4.mono HBV.out.size)).mono HB.out.size))
          clear hb4
          go_wp2_with fail
          go_roundw
          case rel => exact ⟨j + 1, by omega, by go_num, HB2⟩
          case measure => simp [intOf]; omega
      · obtain rfl : j = n := by omega
        go_wp2_with fail
        refine (awake_any _).mono ?_
        rintro f wa ⟨rfl, hba⟩
        go_wp2_with fail
        go_ret
        exact ⟨rfl, HBR.out.trans (hba.mono HBR.out.size)⟩

set_option maxRecDepth 100000 in
set_option maxHeartbeats 6400000 in
theorem treeBound_any (T : TV) (loc : Int) (hloc : loc ≤ 9223372036854775807) (e : EL) (w : World) (hT : T.In w w.heap.size) (hin : e.In w w.heap.size) :
    Calls Try.prog 5 #[T.val, eVal e, .int .i64 loc] w fun f w' => f = .returned (.bool true) ∧ Below w.heap.size w w' := by
  obtain ⟨ev, hev⟩ : ∃ v, v = eVal e := ⟨_, rfl⟩
  obtain ⟨tv, htv⟩ : ∃ v, v = T.val := ⟨_, rfl⟩
  have hE : ∀ W : World, Below w.heap.size w W → T.In W W.heap.size ∧ e.In W W.heap.size := fun W hb => ⟨(hT.below hb).more hb.size, EL.In.more hb.size (hin.below hb)⟩
  obtain ⟨b, hb⟩ : ∃ b, b = boundB T.tb loc e := ⟨_, rfl⟩
  have hf : ∀ W : World, Below w.heap.size w W → Calls Try.prog 9 #[ev, .int .i64 400] W (FewOut (sizeE e) 400 W) := fun W h => by rw [hev]; exact few_any e 400 (by decide) (by decide) W (hE W h).2
  have h1 : ∀ W : World, Below w.heap.size w W → Calls Try.prog 16 #[tv, ev, .int .i64 loc] W fun f w' => f = .returned (.bool b) ∧ Below W.heap.size W w' := fun W h => by rw [hb, hev, htv]; exact tBound_any T loc hloc e W (hE W h).1 (hE W h).2
  have h2 : ∀ W : World, Below w.heap.size w W → Calls Try.prog 17 #[tv, ev, .int .i64 loc] W fun f w' => f = .returned (.bool b) ∧ Below W.heap.size W w' := fun W h => by rw [hb, hev, htv]; exact r10Bound_any T loc e W (hE W h).1 (hE W h).2
  have hnm : b = true → e.name = [] := fun h => boundB_name (hb ▸ h)
  have HFEW := Lib.hid hf
  have H1 := Lib.hid h1
  have H2 := Lib.hid h2
  rw [← hev, ← htv]
  clear hin hE hb h1 h2 hf hT hloc
  obtain ⟨k, o, m, s, A, n, c, es⟩ := e
  have hev2 : ev = .agg #[.int .i64 k, .int .i64 o, .int .i64 m, .string (bs s), .slice A n c] := hev
  clear hev
  subst hev2
  obtain ⟨t1, t2, t3, t4, S1, m1, k1, fl, S2, m2, k2, S3, m3, k3, S4, m4, k4, S5, m5, k5, S6, m6, k6, S7, m7, k7, S8, m8, k8, S9, m9, k9, S10, m10, k10, fs, ps⟩ := T
  have htv2 : tv = .agg #[.int .i64 t1, .int .i64 t2, .int .i64 t3, .int .i64 t4, .slice S1 m1 k1, .int .i64 fl, .slice S2 m2 k2, .slice S3 m3 k3, .slice S4 m4 k4, .slice S5 m5 k5, .slice S6 m6 k6, .slice S7 m7 k7, .slice S8 m8 k8, .slice S9 m9 k9, .slice S10 m10 k10] := htv
  clear htv
  subst htv2
  have HNM : Hid (b = true → s = []) := Lib.hid hnm
  clear hnm
  obtain ⟨W, hW⟩ : ∃ W, W = ((w.alloc (.cells #[.int .i64 t1, .int .i64 t2, .int .i64 t3, .int .i64 t4, .slice S1 m1 k1, .int .i64 fl, .slice S2 m2 k2, .slice S3 m3 k3, .slice S4 m4 k4, .slice S5 m5 k5, .slice S6 m6 k6, .slice S7 m7 k7, .slice S8 m8 k8, .slice S9 m9 k9, .slice S10 m10 k10] 37)).alloc (.cells #[.int .i64 k, .int .i64 o, .int .i64 m, .string (bs s), .slice A n c] 24)) := ⟨_, rfl⟩
  have HBW : Hid (Below w.heap.size w W) := Lib.hid (by rw [hW]; exact ((Below.refl _ _).alloc (Nat.le_refl _) _).alloc (by simp) _)
  have HKT : Hid (Blk W w.heap.size 37 #[.int .i64 t1, .int .i64 t2, .int .i64 t3, .int .i64 t4, .slice S1 m1 k1, .int .i64 fl, .slice S2 m2 k2, .slice S3 m3 k3, .slice S4 m4 k4, .slice S5 m5 k5, .slice S6 m6 k6, .slice S7 m7 k7, .slice S8 m8 k8, .slice S9 m9 k9, .slice S10 m10 k10]) := Lib.hid (by rw [hW]; exact (Blk.new w _ _).alloc _)
  have HK : Hid (Blk W (w.heap.size + 1) 24 #[.int .i64 k, .int .i64 o, .int .i64 m, .string (bs s), .slice A n c]) := Lib.hid (by rw [hW]; exact Blk.new_at _ _ _ _ (by simp))
  have hce : Hid (∀ u : World, Below W.heap.size W u → u.cell? ⟨w.heap.size + 1, 0, none⟩ = some (.int .i64 k) ∧ u.cell? ⟨w.heap.size + 1, 1, none⟩ = some (.int .i64 o) ∧ u.cell? ⟨w.heap.size + 1, 2, none⟩ = some (.int .i64 m) ∧ u.cell? ⟨w.heap.size + 1, 3, none⟩ = some (.string (bs s)) ∧ u.cell? ⟨w.heap.size + 1, 4, none⟩ = some (.slice A n c)) := Lib.hid (fun u hb => by
    have hk : Blk W (w.heap.size + 1) 24 #[.int .i64 k, .int .i64 o, .int .i64 m, .string (bs s), .slice A n c] := HK.out
    have hk2 := hk.below hb hk.lt
    exact ⟨hk2.cell 0, hk2.cell 1, hk2.cell 2, hk2.cell 3, hk2.cell 4⟩)
  have hct : Hid (∀ u : World, Below W.heap.size W u → u.cell? ⟨w.heap.size, 0, none⟩ = some (.int .i64 t1) ∧ u.cell? ⟨w.heap.size, 1, none⟩ = some (.int .i64 t2) ∧ u.cell? ⟨w.heap.size, 2, none⟩ = some (.int .i64 t3) ∧ u.cell? ⟨w.heap.size, 3, none⟩ = some (.int .i64 t4) ∧ u.cell? ⟨w.heap.size, 4, none⟩ = some (.slice S1 m1 k1) ∧ u.cell? ⟨w.heap.size, 5, none⟩ = some (.int .i64 fl) ∧ u.cell? ⟨w.heap.size, 6, none⟩ = some (.slice S2 m2 k2) ∧ u.cell? ⟨w.heap.size, 7, none⟩ = some (.slice S3 m3 k3) ∧ u.cell? ⟨w.heap.size, 8, none⟩ = some (.slice S4 m4 k4) ∧ u.cell? ⟨w.heap.size, 9, none⟩ = some (.slice S5 m5 k5) ∧ u.cell? ⟨w.heap.size, 10, none⟩ = some (.slice S6 m6 k6) ∧ u.cell? ⟨w.heap.size, 11, none⟩ = some (.slice S7 m7 k7) ∧ u.cell? ⟨w.heap.size, 12, none⟩ = some (.slice S8 m8 k8) ∧ u.cell? ⟨w.heap.size, 13, none⟩ = some (.slice S9 m9 k9) ∧ u.cell? ⟨w.heap.size, 14, none⟩ = some (.slice S10 m10 k10)) := Lib.hid (fun u hb => by
    have hk : Blk W (w.heap.size) 37 #[.int .i64 t1, .int .i64 t2, .int .i64 t3, .int .i64 t4, .slice S1 m1 k1, .int .i64 fl, .slice S2 m2 k2, .slice S3 m3 k3, .slice S4 m4 k4, .slice S5 m5 k5, .slice S6 m6 k6, .slice S7 m7 k7, .slice S8 m8 k8, .slice S9 m9 k9, .slice S10 m10 k10] := HKT.out
    have hk2 := hk.below hb hk.lt
    exact ⟨hk2.cell 0, hk2.cell 1, hk2.cell 2, hk2.cell 3, hk2.cell 4, hk2.cell 5, hk2.cell 6, hk2.cell 7, hk2.cell 8, hk2.cell 9, hk2.cell 10, hk2.cell 11, hk2.cell 12, hk2.cell 13, hk2.cell 14⟩)
  go_enter Try.func5, Try.ntmps5
  go_wp2_with fail
  rw [← hW]
  clear hW
  refine (HFEW.out W HBW.out).mono ?_
  rintro f w1 ⟨r1, rfl, hr1, hb1⟩
  have HX1 := Lib.hid (HBW.out.trans (hb1.mono HBW.out.size))
  have HW1 := Lib.hid hb1
  clear hb1 hr1
  by_cases g1 : r1 < 0
  · go_wp2_with fail
    refine (awake_any _).mono ?_
    rintro f wa ⟨rfl, hba⟩
    go_wp2_with fail
    go_ret
    exact ⟨rfl, HX1.out.trans (hba.mono HX1.out.size)⟩
  · have g1' : decide (r1 < 0) = false := by rw [decide_eq_false_iff_not]; exact g1
    clear g1
    obtain ⟨q0, q1, q2, q3, q4⟩ := hce.out w1 HW1.out
    obtain ⟨p0, p1, p2, p3, p4, p5, p6, p7, p8, p9, p10, p11, p12, p13, p14⟩ := hct.out w1 HW1.out
    go_wp2_with fail
    clear q0 q1 q2 q3 q4
    clear p0 p1 p2 p3 p4 p5 p6 p7 p8 p9 p10 p11 p12 p13 p14
    refine (H1.out w1 HX1.out).mono ?_
    rintro f w2 ⟨rfl, hb2⟩
    have HX2 := Lib.hid (HX1.out.trans (hb2.mono HX1.out.size))
    have HW2 := Lib.hid (HW1.out.trans (hb2.mono HW1.out.size))
    clear hb2
    obtain ⟨q0, q1, q2, q3, q4⟩ := hce.out w2 HW2.out
    obtain ⟨p0, p1, p2, p3, p4, p5, p6, p7, p8, p9, p10, p11, p12, p13, p14⟩ := hct.out w2 HW2.out
    go_wp2_with fail
    clear q0 q1 q2 q3 q4
    clear p0 p1 p2 p3 p4 p5 p6 p7 p8 p9 p10 p11 p12 p13 p14
    refine (H2.out w2 HX2.out).mono ?_
    rintro f w3 ⟨rfl, hb3⟩
    have HX3 := Lib.hid (HX2.out.trans (hb3.mono HX2.out.size))
    have HW3 := Lib.hid (HW2.out.trans (hb3.mono HW2.out.size))
    clear hb3
    obtain ⟨q0, q1, q2, q3, q4⟩ := hce.out w3 HW3.out
    cases b with
    | false =>
      go_wp2_with fail
      refine (awake_any _).mono ?_
      rintro f wa ⟨rfl, hba⟩
      go_wp2_with fail
      go_ret
      exact ⟨rfl, HX3.out.trans (hba.mono HX3.out.size)⟩
    | true =>
      have hs : s = [] := HNM.out (by first | rfl | trivial)
      have ts : (bs s).toList.isEmpty = true := bs_nil.2 hs
      clear hs
      go_wp2_with fail
      refine (awake_any _).mono ?_
      rintro f wa ⟨rfl, hba⟩
      go_wp2_with fail
      go_ret
      exact ⟨rfl, HX3.out.trans (hba.mono HX3.out.size)⟩

end Go.Proofs.Ytdmpadonnobeaaa
