/- The walk of the statement NamesBack. -/
import Derived.Test.YtgeglhgkibcpfaaDoorAwake15
import Derived.Test.YtgeglhgkibcpfaaDoorNamE
import Derived.Test.YtgeglhgkibcpfaaDoorLawA
import Derived.Test.YtgeglhgkibcpfaaDoorTells
import Derived.Test.YtgeglhgkibcpfaaDoorRegion
import Derived.RegionTactic
namespace Go.Proofs.YtgeglhgkibcpfaaDoor
open Go.RowKit
set_option linter.unusedVariables false

theorem gd_nms0 : ∀ x ∈ nms0, gdN x.name = true := by
  have h : (nms0.all fun x => gdN x.name) = true := by kernel_rfl
  exact List.all_eq_true.1 h
theorem makeN_empty {gd : List UInt8 → Bool} {d : Dl} (h : (makeN gd d).2.1 ≠ 0) : (makeN gd d).1 = [] := (makeF_bad h).1
theorem rises_at {t : List Nm} (h : Rises t) {i : Nat} (hi : i + 1 < t.length) : ltB (t[i]?.getD noNm).name (t[i + 1]?.getD noNm).name = true := by
  rw [ltB_iff, List.getElem?_eq_getElem hi, List.getElem?_eq_getElem (by omega : i < t.length)]
  exact (List.pairwise_iff_getElem.1 h) i (i + 1) (by omega) hi (by omega)

theorem nameB_len {s : List UInt8} (h : nameB s = true) : (s.length : Int) ≤ 9223372036854775807 := by
  unfold nameB at h
  cases s with
  | nil => decide
  | cons c r =>
    simp only [Bool.and_eq_true, decide_eq_true_eq] at h
    have := h.1.2
    omega

set_option maxRecDepth 100000 in
set_option maxHeartbeats 25600000 in
theorem nback_walk (X : Dcl) (w : World) (d : Dl) (hfl : Fl w) (h : X.Rd w w.heap.size d) (hbd : X.n0 ≤ 140737488355328 ∧ X.n1 ≤ 140737488355328 ∧ X.n2 ≤ 140737488355328 ∧ X.n3 ≤ 140737488355328 ∧ X.n4 ≤ 140737488355328 ∧ X.n5 ≤ 140737488355328 ∧ X.n6 ≤ 140737488355328) (hl : ∀ e ∈ allE d, (e.name.length : Int) ≤ 9223372036854775807) :
    Calls Tryd.prog 5 #[dclV X] w fun e w' => e = .returned (.bool true) ∧ Below w.heap.size w w' := by
  obtain ⟨A0, n0, c0, A1, n1, c1, A2, n2, c2, A3, n3, c3, A4, n4, c4, A5, n5, c5, A6, n6, c6⟩ := X
  have hcnt := h.cnt
  simp only at hcnt hbd
  have H := Lib.hid h
  have HL := Lib.hid hl
  have HFL := Lib.hid hfl
  clear hfl
  have HBD : Hid (n0 ≤ 140737488355328 ∧ n1 ≤ 140737488355328 ∧ n2 ≤ 140737488355328 ∧ n3 ≤ 140737488355328 ∧ n4 ≤ 140737488355328 ∧ n5 ≤ 140737488355328 ∧ n6 ≤ 140737488355328) := Lib.hid hbd
  obtain ⟨q, hq⟩ : ∃ q, q = n0 + n1 + n2 + n3 + n4 + n5 + n6 := ⟨_, rfl⟩
  have HQ := Lib.hid hq
  have HC : Hid (cntD d = q) := Lib.hid (by rw [hcnt, hq])
  clear h hl hcnt hbd hq
  show Calls Tryd.prog _ #[.agg #[.slice A0 n0 c0, .slice A1 n1 c1, .slice A2 n2 c2, .slice A3 n3 c3, .slice A4 n4 c4, .slice A5 n5 c5, .slice A6 n6 c6]] w _
  obtain ⟨W, hW⟩ : ∃ W, W = w.alloc (.cells #[.slice A0 n0 c0, .slice A1 n1 c1, .slice A2 n2 c2, .slice A3 n3 c3, .slice A4 n4 c4, .slice A5 n5 c5, .slice A6 n6 c6] 24) := ⟨_, rfl⟩
  have HB0 : Hid (Below w.heap.size w W) := Lib.hid (by rw [hW]; exact (Below.refl _ _).alloc (Nat.le_refl _) _)
  have HK0 : Hid (Blk W w.heap.size 24 #[.slice A0 n0 c0, .slice A1 n1 c1, .slice A2 n2 c2, .slice A3 n3 c3, .slice A4 n4 c4, .slice A5 n5 c5, .slice A6 n6 c6]) := Lib.hid (by rw [hW]; exact Blk.new _ _ _)
  by_cases hs : q ≤ 400
  · obtain ⟨⟨ts, fa, fb, fk, fs⟩, hR⟩ : ∃ R, R = makeN gdN d := ⟨_, rfl⟩
    have HR := Lib.hid hR
    clear hR
    go_enter Tryd.func5, Tryd.ntmps5
    go_wp2_with fail
    rw [← hW]
    clear hW
    go_wp2_with (refine wpList_load_row rfl 24 _ rfl w.heap.size rfl 24 #[.slice A0 n0 c0, .slice A1 n1 c1, .slice A2 n2 c2, .slice A3 n3 c3, .slice A4 n4 c4, .slice A5 n5 c5, .slice A6 n6 c6] (0, 0) _ HK0.out Tryd.underlying24 rfl dcl7_size ?_)
    refine (count_any ⟨A0, n0, c0, A1, n1, c1, A2, n2, c2, A3, n3, c3, A4, n4, c4, A5, n5, c5, A6, n6, c6⟩ W HBD.out).mono ?_
    rintro e w1 ⟨he, hb1⟩
    obtain rfl : e = .returned (.int .i64 (q : Int)) := by rw [he, HQ.out]
    have HB1 := Lib.hid (HB0.out.trans (hb1.mono HB0.out.size))
    have HK1 := Lib.hid (HK0.out.below hb1 HK0.out.lt)
    clear hb1 he
    go_wp2_with (refine wpList_load_row rfl 24 _ rfl w.heap.size rfl 24 #[.slice A0 n0 c0, .slice A1 n1 c1, .slice A2 n2 c2, .slice A3 n3 c3, .slice A4 n4 c4, .slice A5 n5 c5, .slice A6 n6 c6] (0, 0) _ HK1.out Tryd.underlying24 rfl dcl7_size ?_)
    refine (source_any ⟨A0, n0, c0, A1, n1, c1, A2, n2, c2, A3, n3, c3, A4, n4, c4, A5, n5, c5, A6, n6, c6⟩ w1 d ((H.out.below HB1.out).more HB1.out.size) (by rw [HC.out]; omega)).mono ?_
    rintro e w2 ⟨Y, rfl, hY, hb2⟩
    have HB2 := Lib.hid (HB1.out.trans (hb2.mono HB1.out.size))
    have HK2 := Lib.hid (HK1.out.below hb2 HK1.out.lt)
    clear hb2
    go_wp2_with fail
    refine (pMake_any Y w2 d (Fl.go HFL HB2) hY (by rw [HC.out]; omega) HL.out).mono ?_
    clear hY
    rintro e w3 ⟨At, nt, ct, he, ho, hb3⟩
    rw [← HR.out] at he ho
    have ho : w3.ownsRow w2.heap.size 45 3 (.slice At nt ct) nt (nmv ts) := ho
    obtain rfl : e = .returned (.tuple #[.slice At nt ct, .agg #[.int .i64 fa, .int .i64 fb, .int .i64 fk, .string (bs fs)]]) := he
    obtain ⟨V, hV⟩ : ∃ V, V = w3.alloc (.cells #[.int .i64 fa, .int .i64 fb, .int .i64 fk, .string (bs fs)] 30) := ⟨_, rfl⟩
    have HB3 := Lib.hid (HB2.out.trans (hb3.mono HB2.out.size))
    have HK3 := Lib.hid (HK2.out.below hb3 HK2.out.lt)
    have HBV : Hid (Below w.heap.size w V) := Lib.hid (by rw [hV]; exact HB3.out.alloc HB3.out.size _)
    have HKV : Hid (Blk V w.heap.size 24 #[.slice A0 n0 c0, .slice A1 n1 c1, .slice A2 n2 c2, .slice A3 n3 c3, .slice A4 n4 c4, .slice A5 n5 c5, .slice A6 n6 c6]) := Lib.hid (by rw [hV]; exact HK3.out.alloc _)
    have HFV : Hid (Blk V w3.heap.size 30 #[.int .i64 fa, .int .i64 fb, .int .i64 fk, .string (bs fs)]) := Lib.hid (by rw [hV]; exact Blk.new _ _ _)
    have HOV := Lib.hid (own_below ho (show Below w3.heap.size w3 V by rw [hV]; exact (Below.refl _ _).alloc (Nat.le_refl _) _))
    clear ho hb3
    have hz1 : (makeN gdN d).2.1 = fa := by rw [← HR.out]
    have hlv := ownN_len HOV.out
    by_cases h0 : fa = 0
    · subst h0
      have hzz2 : (makeN gdN d).2 = (0, 0, 0, []) := makeF_zero (gd := gdN) (l := allE d) (t := nms0) hz1
      obtain ⟨b1, b2, b3⟩ := makeN_back gd_nms0 hz1
      rw [← HR.out] at hzz2 b1 b2 b3
      simp only [Prod.mk.injEq] at hzz2
      obtain ⟨_, rfl, rfl, rfl⟩ := hzz2
      simp only at b1 b2 b3
      rw [HC.out] at b1
      have hnt : nt = q + 4 := by omega
      have HNT := Lib.hid hnt
      have hnt4 : nt ≤ 404 := by omega
      have HRI := Lib.hid b2
      have HAL := Lib.hid b3
      have HLV := Lib.hid hlv
      clear hz1 b1 b2 b3 hlv hnt
      have p0 : (w3.alloc (.cells #[.int .i64 0, .int .i64 0, .int .i64 0, .string (bs [])] 30)).cell? ⟨w3.heap.size, 0, none⟩ = some (.int .i64 0) := by rw [← hV]; exact HFV.out.cell 0
      have p1 : (w3.alloc (.cells #[.int .i64 0, .int .i64 0, .int .i64 0, .string (bs [])] 30)).cell? ⟨w3.heap.size, 1, none⟩ = some (.int .i64 0) := by rw [← hV]; exact HFV.out.cell 1
      have p2 : (w3.alloc (.cells #[.int .i64 0, .int .i64 0, .int .i64 0, .string (bs [])] 30)).cell? ⟨w3.heap.size, 2, none⟩ = some (.int .i64 0) := by rw [← hV]; exact HFV.out.cell 2
      have p3 : (w3.alloc (.cells #[.int .i64 0, .int .i64 0, .int .i64 0, .string (bs [])] 30)).cell? ⟨w3.heap.size, 3, none⟩ = some (.string ⟨#[]⟩) := by rw [← hV]; exact HFV.out.cell 3
      have e0 : ∀ (x y : Operand) (W : World), (eqGuard .neq 30 x y (.agg #[.int .i64 0, .int .i64 0, .int .i64 0, .string ⟨#[]⟩]) (.agg #[.int .i64 0, .int .i64 0, .int .i64 0, .string ⟨#[]⟩])).run Tryd.prog W = .ok () W := fun x y W => guard_fau .neq x y (0, 0, 0, []) (0, 0, 0, []) W
      have f0 : ∀ W : World, (binOp .neq 30 (.agg #[.int .i64 0, .int .i64 0, .int .i64 0, .string ⟨#[]⟩]) (.agg #[.int .i64 0, .int .i64 0, .int .i64 0, .string ⟨#[]⟩])).run Tryd.prog W = .ok (.bool false) W := fun W => (run_neq_fau (0, 0, 0, []) (0, 0, 0, []) W).trans (by simp)
      go_wp2_with fail
      rw [← hV]
      have HAV : Hid (RdN V V.heap.size At nt ts) := Lib.hid (RdN.of_own HOV.out)
      clear hV p0 p1 p2 p3 HOV HFV
      go_loopw [32] (fun vi wr => ∃ j : Nat, j ≤ nt ∧ vi = .int .i64 j ∧ Hid (Below V.heap.size V wr)) (fun vi _ => nt - (intOf vi).toNat)
      case atStart => exact ⟨0, Nat.zero_le _, rfl, Lib.hid (Below.refl _ _)⟩
      case round =>
        obtain ⟨j, hj, rfl, HB⟩ := hrel
        have HBr := Lib.hid (HBV.out.trans (HB.out.mono HBV.out.size))
        by_cases hlt : j < nt
        · obtain ⟨ad, rfl, hadb⟩ := nm_addr HAV.out (by omega)
          obtain ⟨a0, a1, a2⟩ := nm_cells (HAV.out.below HB.out) hlt
          obtain ⟨x, hx⟩ : ∃ x, x = ts[j]?.getD noNm := ⟨_, rfl⟩
          have HJX := Lib.hid hx
          have hmem : x ∈ ts := by
            have hj2 : j < ts.length := by rw [HLV.out]; exact hlt
            rw [hx, List.getElem?_eq_getElem hj2]
            exact List.getElem_mem hj2
          obtain ⟨x1, x2, x3, x4⟩ := HAL.out x hmem
          have HXF := Lib.hid x1
          have HXO := Lib.hid x2
          have HTX := Lib.hid x3
          have hx4 : nameB x.name = true ∧ keyB x.name = false := by unfold gdN at x4; simpa using x4
          have HNB := Lib.hid hx4.1
          have HKB := Lib.hid hx4.2
          have HXL : Hid ((x.name.length : Int) ≤ 9223372036854775807) := Lib.hid (nameB_len hx4.1)
          rw [← hx] at a0 a1 a2
          clear hx hmem x1 x2 x3 x4 hx4
          obtain ⟨R, hR⟩ : ∃ R, R = wr.alloc (.cells #[.string (bs x.name), .int .i64 x.kind, .int .i64 x.num] 45) := ⟨_, rfl⟩
          have HBR : Hid (Below V.heap.size V R) := Lib.hid (by rw [hR]; exact HB.out.alloc HB.out.size _)
          have HXR : Hid (Blk R wr.heap.size 45 #[.string (bs x.name), .int .i64 x.kind, .int .i64 x.num]) := Lib.hid (by rw [hR]; exact Blk.new _ _ _)
          have n0' : (wr.alloc (.cells #[.string (bs x.name), .int .i64 x.kind, .int .i64 x.num] 45)).cell? ⟨wr.heap.size, 0, none⟩ = some (.string (bs x.name)) := (Blk.new wr 45 #[.string (bs x.name), .int .i64 x.kind, .int .i64 x.num]).cell 0
          obtain ⟨b6, hb6e⟩ : ∃ b, b = wr.heap.size := ⟨_, rfl⟩
          go_wp2_with fail
          rw [← hR]
          clear hR n0' a0 a1 a2
          refine (pFind_any R (some ad) nt ct ts (bs x.name) ((HAV.out.below HBR.out).more HBR.out.size) (by omega) (rise_of HRI.out)).mono ?_
          rintro e w10 ⟨he, hb10⟩
          obtain rfl : e = .returned (.tuple #[.agg #[.string (bs x.name), .int .i64 x.kind, .int .i64 x.num], .bool true]) := he.trans (by rw [show (bs x.name).data.toList = x.name from rfl, HXF.out]; rfl)
          have HB10 := Lib.hid (HBR.out.trans (hb10.mono HBR.out.size))
          have HX10 := Lib.hid (HXR.out.below hb10 HXR.out.lt)
          clear hb10 he
          obtain ⟨S1, hS1⟩ : ∃ R, R = w10.alloc (.cells #[.string (bs x.name), .int .i64 x.kind, .int .i64 x.num] 45) := ⟨_, rfl⟩
          have HB11 : Hid (Below V.heap.size V S1) := Lib.hid (by rw [hS1]; exact HB10.out.alloc HB10.out.size _)
          have HY11 : Hid (Blk S1 wr.heap.size 45 #[.string (bs x.name), .int .i64 x.kind, .int .i64 x.num]) := Lib.hid (by rw [hS1]; exact HX10.out.alloc _)
          have HZ11 : Hid (Blk S1 w10.heap.size 45 #[.string (bs x.name), .int .i64 x.kind, .int .i64 x.num]) := Lib.hid (by rw [hS1]; exact Blk.new _ _ _)
          have u0' : (w10.alloc (.cells #[.string (bs x.name), .int .i64 x.kind, .int .i64 x.num] 45)).cell? ⟨wr.heap.size, 0, none⟩ = some (.string (bs x.name)) := (HX10.out.alloc _).cell 0
          have u1' : (w10.alloc (.cells #[.string (bs x.name), .int .i64 x.kind, .int .i64 x.num] 45)).cell? ⟨wr.heap.size, 1, none⟩ = some (.int .i64 x.kind) := (HX10.out.alloc _).cell 1
          go_wp2_with fail
          rw [← hS1]
          clear hS1 u0' u1'
          refine (pOf_any S1 (some ad) nt ct ts x.kind (bs x.name) ((HAV.out.below HB11.out).more HB11.out.size) (by omega) (rise_of HRI.out)).mono ?_
          rintro e D ⟨he, hbD⟩
          rw [show (bs x.name).data.toList = x.name from rfl, HXO.out] at he
          obtain rfl : e = .returned (.tuple #[.int .i64 x.num, .int .i64 0]) := he
          have HTD := Lib.hid (HB11.out.trans (hbD.mono HB11.out.size))
          have HBD := Lib.hid (HBV.out.trans (HTD.out.mono HBV.out.size))
          have HRD := Lib.hid ((HAV.out.below HTD.out).more HTD.out.size)
          have HYD := Lib.hid (HY11.out.below hbD HY11.out.lt)
          have HZD := Lib.hid (HZ11.out.below hbD HZ11.out.lt)
          obtain ⟨b7, hb7e⟩ : ∃ b, b = w10.heap.size := ⟨_, rfl⟩
          rw [← hb6e, ← hb7e]
          rw [← hb6e] at HYD
          rw [← hb7e] at HZD
          have hb6 : b6 < D.heap.size := HYD.out.lt
          have hb7 : b7 < D.heap.size := HZD.out.lt
          have hbad : ∀ k : Nat, (ad.add k).block < D.heap.size := fun k => by rw [blk_add]; have := HTD.out.size; omega
          have c0 : D.cell? ⟨b6, 0, none⟩ = some (.string (bs x.name)) := HYD.out.cell 0
          have c1 : D.cell? ⟨b6, 1, none⟩ = some (.int .i64 x.kind) := HYD.out.cell 1
          have c2 : D.cell? ⟨b6, 2, none⟩ = some (.int .i64 x.num) := HYD.out.cell 2
          have d0 : D.cell? ⟨b7, 0, none⟩ = some (.string (bs x.name)) := HZD.out.cell 0
          have d1 : D.cell? ⟨b7, 1, none⟩ = some (.int .i64 x.kind) := HZD.out.cell 1
          have d2 : D.cell? ⟨b7, 2, none⟩ = some (.int .i64 x.num) := HZD.out.cell 2
          have g1 : ∀ (x' y : Operand) (W : World), (eqGuard .neq 45 x' y (.agg #[.string (bs x.name), .int .i64 x.kind, .int .i64 x.num]) (.agg #[.string (bs x.name), .int .i64 x.kind, .int .i64 x.num])).run Tryd.prog W = .ok () W := fun x' y W => guard_nm .neq x' y x x W
          have g2 : ∀ W : World, (binOp .neq 45 (.agg #[.string (bs x.name), .int .i64 x.kind, .int .i64 x.num]) (.agg #[.string (bs x.name), .int .i64 x.kind, .int .i64 x.num])).run Tryd.prog W = .ok (.bool false) W := fun W => (run_neq_nm x x W).trans (by simp)
          have m1 : (x.num != x.num) = false := by simp
          have m2 : ((bs x.name).toList == (bs x.name).toList) = true := by simp
          clear hbD hb6e hb7e HY11 HZ11 HX10 HXR HYD HZD HB11 HB10 HBR HAL
          cases j with
          | zero =>
            go_wp2_with fail
            refine wp_region_held_drew (S := fun w' => Below D.heap.size D w') (by kernel_rfl) (Below.refl _ _).drew (fun hHeld => ?_)
            refine held_take (i := 0) (fuel := 42) (v := ?_) (by rw [List.getElem?_toArray]; rfl) (by kernel_rfl) (by kernel_rfl) (by kernel_rfl) hHeld ?_ ?_ ?_ ?_
            rotate_left
            · intro u hSw
              have y0 := (hSw.cell (p := ⟨b6, 0, none⟩) hb6).trans c0
              have y1 := (hSw.cell (p := ⟨b6, 1, none⟩) hb6).trans c1
              have y2 := (hSw.cell (p := ⟨b6, 2, none⟩) hb6).trans c2
              have y3 := (hSw.cell (p := ⟨b7, 0, none⟩) hb7).trans d0
              have y4 := (hSw.cell (p := ⟨b7, 1, none⟩) hb7).trans d1
              have y5 := (hSw.cell (p := ⟨b7, 2, none⟩) hb7).trans d2
              go_simp
              try with_reducible rfl
            · rfl
            · exact fun _ _ _ h => h
            try simp only [Act.put, List.setIfInBounds_toArray, List.set_cons_zero, List.set_cons_succ]
            refine held_take (i := 1) (fuel := 41) (v := ?_) (by rw [List.getElem?_toArray]; rfl) (by kernel_rfl) (by kernel_rfl) (by kernel_rfl) hHeld ?_ ?_ ?_ ?_
            rotate_left
            · intro u hSw
              have y0 := (hSw.cell (p := ⟨b6, 0, none⟩) hb6).trans c0
              have y1 := (hSw.cell (p := ⟨b6, 1, none⟩) hb6).trans c1
              have y2 := (hSw.cell (p := ⟨b6, 2, none⟩) hb6).trans c2
              have y3 := (hSw.cell (p := ⟨b7, 0, none⟩) hb7).trans d0
              have y4 := (hSw.cell (p := ⟨b7, 1, none⟩) hb7).trans d1
              have y5 := (hSw.cell (p := ⟨b7, 2, none⟩) hb7).trans d2
              go_simp
              try with_reducible rfl
            · rfl
            · exact fun _ _ _ h => h
            try simp only [Act.put, List.setIfInBounds_toArray, List.set_cons_zero, List.set_cons_succ]
            refine held_take (i := 2) (fuel := 40) (v := ?_) (by rw [List.getElem?_toArray]; rfl) (by kernel_rfl) (by kernel_rfl) (by kernel_rfl) hHeld ?_ ?_ ?_ ?_
            rotate_left
            · intro u hSw
              go_simp
              try with_reducible rfl
            · rfl
            · exact fun _ _ _ h => h
            try simp only [Act.put, List.setIfInBounds_toArray, List.set_cons_zero, List.set_cons_succ]
            refine held_take (i := 3) (fuel := 39) (v := ?_) (by rw [List.getElem?_toArray]; rfl) (by kernel_rfl) (by kernel_rfl) (by kernel_rfl) hHeld ?_ ?_ ?_ ?_
            rotate_left
            · intro u hSw
              go_simp
              try with_reducible rfl
            · rfl
            · exact fun _ _ _ h => h
            try simp only [Act.put, List.setIfInBounds_toArray, List.set_cons_zero, List.set_cons_succ]
            refine held_take (i := 4) (fuel := 38) (v := ?_) (by rw [List.getElem?_toArray]; rfl) (by kernel_rfl) (by kernel_rfl) (by kernel_rfl) hHeld ?_ ?_ ?_ ?_
            rotate_left
            · intro u hSw
              go_simp
              try with_reducible rfl
            · rfl
            · exact fun _ _ _ h => h
            try simp only [Act.put, List.setIfInBounds_toArray, List.set_cons_zero, List.set_cons_succ]
            refine held_take (i := 5) (fuel := 37) (v := ?_) (by rw [List.getElem?_toArray]; rfl) (by kernel_rfl) (by kernel_rfl) (by kernel_rfl) hHeld ?_ ?_ ?_ ?_
            rotate_left
            · intro u hSw
              go_simp
              try with_reducible rfl
            · rfl
            · exact fun _ _ _ h => h
            try simp only [Act.put, List.setIfInBounds_toArray, List.set_cons_zero, List.set_cons_succ]
            refine held_take (i := 6) (fuel := 36) (v := ?_) (by rw [List.getElem?_toArray]; rfl) (by kernel_rfl) (by kernel_rfl) (by kernel_rfl) hHeld ?_ ?_ ?_ ?_
            rotate_left
            · intro u hSw
              go_simp
              try with_reducible rfl
            · rfl
            · exact fun _ _ _ h => h
            try simp only [Act.put, List.setIfInBounds_toArray, List.set_cons_zero, List.set_cons_succ]
            refine held_take (i := 7) (fuel := 35) (v := ?_) (by rw [List.getElem?_toArray]; rfl) (by kernel_rfl) (by kernel_rfl) (by kernel_rfl) hHeld ?_ ?_ ?_ ?_
            rotate_left
            · intro u hSw
              go_simp
              try with_reducible rfl
            · rfl
            · exact fun _ _ _ h => h
            try simp only [Act.put, List.setIfInBounds_toArray, List.set_cons_zero, List.set_cons_succ]
            refine held_take (i := 8) (fuel := 34) (v := ?_) (by rw [List.getElem?_toArray]; rfl) (by kernel_rfl) (by kernel_rfl) (by kernel_rfl) hHeld ?_ ?_ ?_ ?_
            rotate_left
            · intro u hSw
              go_simp
              try with_reducible rfl
            · rfl
            · exact fun _ _ _ h => h
            try simp only [Act.put, List.setIfInBounds_toArray, List.set_cons_zero, List.set_cons_succ]
            refine held_take (i := 9) (fuel := 33) (v := ?_) (by rw [List.getElem?_toArray]; rfl) (by kernel_rfl) (by kernel_rfl) (by kernel_rfl) hHeld ?_ ?_ ?_ ?_
            rotate_left
            · intro u hSw
              go_simp
              try with_reducible rfl
            · rfl
            · exact fun _ _ _ h => h
            try simp only [Act.put, List.setIfInBounds_toArray, List.set_cons_zero, List.set_cons_succ]
            refine held_take (i := 10) (fuel := 32) (v := ?_) (by rw [List.getElem?_toArray]; rfl) (by kernel_rfl) (by kernel_rfl) (by kernel_rfl) hHeld ?_ ?_ ?_ ?_
            rotate_left
            · intro u hSw
              have y0 := (hSw.cell (p := ⟨b6, 0, none⟩) hb6).trans c0
              have y1 := (hSw.cell (p := ⟨b6, 1, none⟩) hb6).trans c1
              have y2 := (hSw.cell (p := ⟨b6, 2, none⟩) hb6).trans c2
              have y3 := (hSw.cell (p := ⟨b7, 0, none⟩) hb7).trans d0
              have y4 := (hSw.cell (p := ⟨b7, 1, none⟩) hb7).trans d1
              have y5 := (hSw.cell (p := ⟨b7, 2, none⟩) hb7).trans d2
              go_simp
              try with_reducible rfl
            · rfl
            · exact fun _ _ _ h => h
            try simp only [Act.put, List.setIfInBounds_toArray, List.set_cons_zero, List.set_cons_succ]
            refine held_take (i := 11) (fuel := 31) (v := ?_) (by rw [List.getElem?_toArray]; rfl) (by kernel_rfl) (by kernel_rfl) (by kernel_rfl) hHeld ?_ ?_ ?_ ?_
            rotate_left
            · intro u hSw
              go_simp
              try with_reducible rfl
            · rfl
            · exact fun _ _ _ h => h
            try simp only [Act.put, List.setIfInBounds_toArray, List.set_cons_zero, List.set_cons_succ]
            refine held_take (i := 12) (fuel := 30) (v := ?_) (by rw [List.getElem?_toArray]; rfl) (by kernel_rfl) (by kernel_rfl) (by kernel_rfl) hHeld ?_ ?_ ?_ ?_
            rotate_left
            · intro u hSw
              go_simp
              try with_reducible rfl
            · rfl
            · exact fun _ _ _ h => h
            try simp only [Act.put, List.setIfInBounds_toArray, List.set_cons_zero, List.set_cons_succ]
            refine held_take (i := 13) (fuel := 29) (v := ?_) (by rw [List.getElem?_toArray]; rfl) (by kernel_rfl) (by kernel_rfl) (by kernel_rfl) hHeld ?_ ?_ ?_ ?_
            rotate_left
            · intro u hSw
              go_simp
              try with_reducible rfl
            · rfl
            · exact fun _ _ _ h => h
            try simp only [Act.put, List.setIfInBounds_toArray, List.set_cons_zero, List.set_cons_succ]
            refine held_take (i := 14) (fuel := 28) (v := ?_) (by rw [List.getElem?_toArray]; rfl) (by kernel_rfl) (by kernel_rfl) (by kernel_rfl) hHeld ?_ ?_ ?_ ?_
            rotate_left
            · intro u hSw
              go_simp
              try with_reducible rfl
            · rfl
            · exact fun _ _ _ h => h
            try simp only [Act.put, List.setIfInBounds_toArray, List.set_cons_zero, List.set_cons_succ]
            refine held_take (i := 15) (fuel := 27) (v := ?_) (by rw [List.getElem?_toArray]; rfl) (by kernel_rfl) (by kernel_rfl) (by kernel_rfl) hHeld ?_ ?_ ?_ ?_
            rotate_left
            · intro u hSw
              go_simp
              try with_reducible rfl
            · rfl
            · exact fun _ _ _ h => h
            try simp only [Act.put, List.setIfInBounds_toArray, List.set_cons_zero, List.set_cons_succ]
            refine held_take (i := 16) (fuel := 26) (v := ?_) (by rw [List.getElem?_toArray]; rfl) (by kernel_rfl) (by kernel_rfl) (by kernel_rfl) hHeld ?_ ?_ ?_ ?_
            rotate_left
            · intro u hSw
              go_simp
              try with_reducible rfl
            · rfl
            · exact fun _ _ _ h => h
            try simp only [Act.put, List.setIfInBounds_toArray, List.set_cons_zero, List.set_cons_succ]
            refine held_take (i := 17) (fuel := 25) (v := ?_) (by rw [List.getElem?_toArray]; rfl) (by kernel_rfl) (by kernel_rfl) (by kernel_rfl) hHeld ?_ ?_ ?_ ?_
            rotate_left
            · intro u hSw
              go_simp
              try with_reducible rfl
            · rfl
            · exact fun _ _ _ h => h
            try simp only [Act.put, List.setIfInBounds_toArray, List.set_cons_zero, List.set_cons_succ]
            refine held_take (i := 18) (fuel := 24) (v := ?_) (by rw [List.getElem?_toArray]; rfl) (by kernel_rfl) (by kernel_rfl) (by kernel_rfl) hHeld ?_ ?_ ?_ ?_
            rotate_left
            · intro u hSw
              go_simp
              try with_reducible rfl
            · rfl
            · exact fun _ _ _ h => h
            try simp only [Act.put, List.setIfInBounds_toArray, List.set_cons_zero, List.set_cons_succ]
            refine held_take (i := 19) (fuel := 23) (v := ?_) (by rw [List.getElem?_toArray]; rfl) (by kernel_rfl) (by kernel_rfl) (by kernel_rfl) hHeld ?_ ?_ ?_ ?_
            rotate_left
            · intro u hSw
              go_simp
              try with_reducible rfl
            · rfl
            · exact fun _ _ _ h => h
            try simp only [Act.put, List.setIfInBounds_toArray, List.set_cons_zero, List.set_cons_succ]
            refine held_take (i := 20) (fuel := 22) (v := ?_) (by rw [List.getElem?_toArray]; rfl) (by kernel_rfl) (by kernel_rfl) (by kernel_rfl) hHeld ?_ ?_ ?_ ?_
            rotate_left
            · intro u hSw
              have y0 := (hSw.cell (p := ⟨b6, 0, none⟩) hb6).trans c0
              have y1 := (hSw.cell (p := ⟨b6, 1, none⟩) hb6).trans c1
              have y2 := (hSw.cell (p := ⟨b6, 2, none⟩) hb6).trans c2
              have y3 := (hSw.cell (p := ⟨b7, 0, none⟩) hb7).trans d0
              have y4 := (hSw.cell (p := ⟨b7, 1, none⟩) hb7).trans d1
              have y5 := (hSw.cell (p := ⟨b7, 2, none⟩) hb7).trans d2
              go_simp
              try with_reducible rfl
            · rfl
            · exact fun _ _ _ h => h
            try simp only [Act.put, List.setIfInBounds_toArray, List.set_cons_zero, List.set_cons_succ]
            refine held_take (i := 21) (fuel := 21) (v := ?_) (by rw [List.getElem?_toArray]; rfl) (by kernel_rfl) (by kernel_rfl) (by kernel_rfl) hHeld ?_ ?_ ?_ ?_
            rotate_left
            · intro u hSw
              go_simp
              try with_reducible rfl
            · rfl
            · exact fun _ _ _ h => h
            try simp only [Act.put, List.setIfInBounds_toArray, List.set_cons_zero, List.set_cons_succ]
            refine held_take (i := 22) (fuel := 20) (v := ?_) (by rw [List.getElem?_toArray]; rfl) (by kernel_rfl) (by kernel_rfl) (by kernel_rfl) hHeld ?_ ?_ ?_ ?_
            rotate_left
            · intro u hSw
              have y0 := (hSw.cell (p := ⟨b6, 0, none⟩) hb6).trans c0
              have y1 := (hSw.cell (p := ⟨b6, 1, none⟩) hb6).trans c1
              have y2 := (hSw.cell (p := ⟨b6, 2, none⟩) hb6).trans c2
              have y3 := (hSw.cell (p := ⟨b7, 0, none⟩) hb7).trans d0
              have y4 := (hSw.cell (p := ⟨b7, 1, none⟩) hb7).trans d1
              have y5 := (hSw.cell (p := ⟨b7, 2, none⟩) hb7).trans d2
              go_simp
              try with_reducible rfl
            · rfl
            · exact fun _ _ _ h => h
            try simp only [Act.put, List.setIfInBounds_toArray, List.set_cons_zero, List.set_cons_succ]
            refine held_take (i := 24) (fuel := 19) (v := ?_) (by rw [List.getElem?_toArray]; rfl) (by kernel_rfl) (by kernel_rfl) (by kernel_rfl) hHeld ?_ ?_ ?_ ?_
            rotate_left
            · intro u hSw
              go_simp
              try with_reducible rfl
            · rfl
            · exact fun _ _ _ h => h
            try simp only [Act.put, List.setIfInBounds_toArray, List.set_cons_zero, List.set_cons_succ]
            refine held_take (i := 25) (fuel := 18) (v := ?_) (by rw [List.getElem?_toArray]; rfl) (by kernel_rfl) (by kernel_rfl) (by kernel_rfl) hHeld ?_ ?_ ?_ ?_
            rotate_left
            · intro u hSw
              have y0 := (hSw.cell (p := ⟨b6, 0, none⟩) hb6).trans c0
              have y1 := (hSw.cell (p := ⟨b6, 1, none⟩) hb6).trans c1
              have y2 := (hSw.cell (p := ⟨b6, 2, none⟩) hb6).trans c2
              have y3 := (hSw.cell (p := ⟨b7, 0, none⟩) hb7).trans d0
              have y4 := (hSw.cell (p := ⟨b7, 1, none⟩) hb7).trans d1
              have y5 := (hSw.cell (p := ⟨b7, 2, none⟩) hb7).trans d2
              go_simp
              try with_reducible rfl
            · rfl
            · exact fun _ _ _ h => h
            try simp only [Act.put, List.setIfInBounds_toArray, List.set_cons_zero, List.set_cons_succ]
            refine held_one (i := 23) (fuel := 17) (by kernel_rfl) (by rw [List.getElem?_toArray]; rfl) (fun K hK => ?_)
            go_simp
            refine (pText_any _ (some ad) nt ct ts x.kind x.num ((HRD.out.below hHeld).more hHeld.size) (by omega)).mono ?_
            rintro e w12 ⟨he, hb12⟩
            rw [HTX.out] at he
            subst he
            refine hK.out _ _ ?_ (fun hHeld => ?_)
            · exact hHeld.trans (hb12.mono hHeld.size)
            clear hK K
            try simp only [Act.put, List.setIfInBounds_toArray, List.set_cons_zero, List.set_cons_succ]
            clear hb12
            refine held_take (i := 26) (fuel := 16) (v := ?_) (by rw [List.getElem?_toArray]; rfl) (by kernel_rfl) (by kernel_rfl) (by kernel_rfl) hHeld ?_ ?_ ?_ ?_
            rotate_left
            · intro u hSw
              go_simp
              try with_reducible rfl
            · rfl
            · exact fun _ _ _ h => h
            try simp only [Act.put, List.setIfInBounds_toArray, List.set_cons_zero, List.set_cons_succ]
            refine held_take (i := 27) (fuel := 15) (v := ?_) (by rw [List.getElem?_toArray]; rfl) (by kernel_rfl) (by kernel_rfl) (by kernel_rfl) hHeld ?_ ?_ ?_ ?_
            rotate_left
            · intro u hSw
              go_simp
              try with_reducible rfl
            · rfl
            · exact fun _ _ _ h => h
            try simp only [Act.put, List.setIfInBounds_toArray, List.set_cons_zero, List.set_cons_succ]
            refine held_take (i := 28) (fuel := 14) (v := ?_) (by rw [List.getElem?_toArray]; rfl) (by kernel_rfl) (by kernel_rfl) (by kernel_rfl) hHeld ?_ ?_ ?_ ?_
            rotate_left
            · intro u hSw
              go_simp
              try with_reducible rfl
            · rfl
            · exact fun _ _ _ h => h
            try simp only [Act.put, List.setIfInBounds_toArray, List.set_cons_zero, List.set_cons_succ]
            refine held_take (i := 29) (fuel := 13) (v := ?_) (by rw [List.getElem?_toArray]; rfl) (by kernel_rfl) (by kernel_rfl) (by kernel_rfl) hHeld ?_ ?_ ?_ ?_
            rotate_left
            · intro u hSw
              go_simp
              try with_reducible rfl
            · rfl
            · exact fun _ _ _ h => h
            try simp only [Act.put, List.setIfInBounds_toArray, List.set_cons_zero, List.set_cons_succ]
            refine held_take (i := 30) (fuel := 12) (v := ?_) (by rw [List.getElem?_toArray]; rfl) (by kernel_rfl) (by kernel_rfl) (by kernel_rfl) hHeld ?_ ?_ ?_ ?_
            rotate_left
            · intro u hSw
              go_simp
              try with_reducible rfl
            · rfl
            · exact fun _ _ _ h => h
            try simp only [Act.put, List.setIfInBounds_toArray, List.set_cons_zero, List.set_cons_succ]
            refine held_take (i := 31) (fuel := 11) (v := ?_) (by rw [List.getElem?_toArray]; rfl) (by kernel_rfl) (by kernel_rfl) (by kernel_rfl) hHeld ?_ ?_ ?_ ?_
            rotate_left
            · intro u hSw
              go_simp
              try with_reducible rfl
            · rfl
            · exact fun _ _ _ h => h
            try simp only [Act.put, List.setIfInBounds_toArray, List.set_cons_zero, List.set_cons_succ]
            refine held_skip (i := 32) (fuel := 10) (by rw [List.getElem?_toArray]; rfl) (by kernel_rfl) (by kernel_rfl) (by kernel_rfl) hHeld ?_ ?_ ?_
            · rfl
            · exact fun _ _ _ h => h
            try simp only [Act.put, List.setIfInBounds_toArray, List.set_cons_zero, List.set_cons_succ]
            refine held_skip (i := 33) (fuel := 9) (by rw [List.getElem?_toArray]; rfl) (by kernel_rfl) (by kernel_rfl) (by kernel_rfl) hHeld ?_ ?_ ?_
            · rfl
            · exact fun _ _ _ h => h
            try simp only [Act.put, List.setIfInBounds_toArray, List.set_cons_zero, List.set_cons_succ]
            refine held_skip (i := 34) (fuel := 8) (by rw [List.getElem?_toArray]; rfl) (by kernel_rfl) (by kernel_rfl) (by kernel_rfl) hHeld ?_ ?_ ?_
            · rfl
            · exact fun _ _ _ h => h
            try simp only [Act.put, List.setIfInBounds_toArray, List.set_cons_zero, List.set_cons_succ]
            refine held_skip (i := 35) (fuel := 7) (by rw [List.getElem?_toArray]; rfl) (by kernel_rfl) (by kernel_rfl) (by kernel_rfl) hHeld ?_ ?_ ?_
            · rfl
            · exact fun _ _ _ h => h
            try simp only [Act.put, List.setIfInBounds_toArray, List.set_cons_zero, List.set_cons_succ]
            refine held_skip (i := 36) (fuel := 6) (by rw [List.getElem?_toArray]; rfl) (by kernel_rfl) (by kernel_rfl) (by kernel_rfl) hHeld ?_ ?_ ?_
            · rfl
            · exact fun _ _ _ h => h
            try simp only [Act.put, List.setIfInBounds_toArray, List.set_cons_zero, List.set_cons_succ]
            refine held_skip (i := 37) (fuel := 5) (by rw [List.getElem?_toArray]; rfl) (by kernel_rfl) (by kernel_rfl) (by kernel_rfl) hHeld ?_ ?_ ?_
            · rfl
            · exact fun _ _ _ h => h
            try simp only [Act.put, List.setIfInBounds_toArray, List.set_cons_zero, List.set_cons_succ]
            refine held_skip (i := 38) (fuel := 4) (by rw [List.getElem?_toArray]; rfl) (by kernel_rfl) (by kernel_rfl) (by kernel_rfl) hHeld ?_ ?_ ?_
            · rfl
            · exact fun _ _ _ h => h
            try simp only [Act.put, List.setIfInBounds_toArray, List.set_cons_zero, List.set_cons_succ]
            refine held_skip (i := 39) (fuel := 3) (by rw [List.getElem?_toArray]; rfl) (by kernel_rfl) (by kernel_rfl) (by kernel_rfl) hHeld ?_ ?_ ?_
            · rfl
            · exact fun _ _ _ h => h
            try simp only [Act.put, List.setIfInBounds_toArray, List.set_cons_zero, List.set_cons_succ]
            refine held_skip (i := 40) (fuel := 2) (by rw [List.getElem?_toArray]; rfl) (by kernel_rfl) (by kernel_rfl) (by kernel_rfl) hHeld ?_ ?_ ?_
            · rfl
            · exact fun _ _ _ h => h
            try simp only [Act.put, List.setIfInBounds_toArray, List.set_cons_zero, List.set_cons_succ]
            refine held_take (i := 41) (fuel := 1) (v := ?_) (by rw [List.getElem?_toArray]; rfl) (by kernel_rfl) (by kernel_rfl) (by kernel_rfl) hHeld ?_ ?_ ?_ ?_
            rotate_left
            · intro u hSw
              go_simp
              try with_reducible rfl
            · rfl
            · exact fun _ _ _ h => h
            try simp only [Act.put, List.setIfInBounds_toArray, List.set_cons_zero, List.set_cons_succ]
            refine held_take (i := 42) (fuel := 0) (v := ?_) (by rw [List.getElem?_toArray]; rfl) (by kernel_rfl) (by kernel_rfl) (by kernel_rfl) hHeld ?_ ?_ ?_ ?_
            rotate_left
            · intro u hSw
              go_simp
              try with_reducible rfl
            · rfl
            · exact fun _ _ _ h => h
            try simp only [Act.put, List.setIfInBounds_toArray, List.set_cons_zero, List.set_cons_succ]
            refine wpAnyH_done (by kernel_rfl) ?_ _
            have HBX := Lib.hid (HBD.out.trans (hHeld.mono HBD.out.size))
            have HNX : Hid (Below D.heap.size D w12) := Lib.hid hHeld
            clear hHeld
            have z0 : w12.cell? ⟨b6, 0, none⟩ = some (.string (bs x.name)) := (HNX.out.cell (p := ⟨b6, 0, none⟩) hb6).trans c0
            have z1 : w12.cell? ⟨b6, 1, none⟩ = some (.int .i64 x.kind) := (HNX.out.cell (p := ⟨b6, 1, none⟩) hb6).trans c1
            have z2 : w12.cell? ⟨b6, 2, none⟩ = some (.int .i64 x.num) := (HNX.out.cell (p := ⟨b6, 2, none⟩) hb6).trans c2
            go_wp2_with fail
            refine (isName_any _ (bs x.name) (by rw [bs_size]; exact HXL.out)).mono ?_
            rintro e w13 ⟨he, hb13⟩
            obtain rfl : e = .returned (.bool true) := he.trans (by rw [show (bs x.name).data.toList = x.name from rfl, HNB.out])
            have z9 : w13.cell? ⟨b6, 0, none⟩ = some (.string (bs x.name)) := (hb13.cell (p := ⟨b6, 0, none⟩) (Nat.lt_of_lt_of_le hb6 HNX.out.size)).trans z0
            have HB13 := Lib.hid (HBX.out.trans (hb13.mono HBX.out.size))
            have HT13 := Lib.hid (HTD.out.trans ((HNX.out.trans (hb13.mono HNX.out.size)).mono HTD.out.size))
            clear hb13 he
            go_wp2_with fail
            refine (Key_any _ (bs x.name)).mono ?_
            rintro e w14 ⟨he, hb14⟩
            obtain rfl : e = .returned (.bool false) := he.trans (by rw [show (bs x.name).data.toList = x.name from rfl, HKB.out])
            have HT14 := Lib.hid (HT13.out.trans (hb14.mono HT13.out.size))
            clear hb14 he
            go_wp2_with fail
            go_roundw
            case rel => exact ⟨0 + 1, by omega, by go_num, HT14⟩
            case measure => simp [intOf]; omega
          | succ i =>
            have hlt' : i < nt := by omega
            obtain ⟨pv, hpv⟩ : ∃ x, x = ts[i]?.getD noNm := ⟨_, rfl⟩
            have ep := (nm_cells HRD.out hlt').1
            have hql := rises_at HRI.out (i := i) (by rw [HLV.out]; exact hlt)
            rw [← HJX.out, ← hpv] at hql
            have hqb := ltB_of hql
            rw [← hpv] at ep
            obtain ⟨j, hj0⟩ : ∃ j : Nat, j = i + 1 := ⟨_, rfl⟩
            rw [← hj0] at hj hlt ⊢
            have q0 : decide (0 < j) = true := by rw [hj0]; exact decide_eq_true (Nat.succ_pos _)
            have hj00 : 0 < j := by omega
            have hwr : IntKind.i64.wrap ((j : Int) - 1) = (i : Int) := by rw [IntKind.wrap_i64]; omega
            have hbad := hbad (i * 3)
            have hi0 : (0 : Int) ≤ (i : Int) ∧ (i : Int) < (nt : Int) := by omega
            have HJ0 := Lib.hid hj0
            clear hpv hql hj0
            go_wp2_with fail
            refine wp_region_held_drew (S := fun w' => Below D.heap.size D w') (by kernel_rfl) (Below.refl _ _).drew (fun hHeld => ?_)
            refine held_take (i := 0) (fuel := 42) (v := ?_) (by rw [List.getElem?_toArray]; rfl) (by kernel_rfl) (by kernel_rfl) (by kernel_rfl) hHeld ?_ ?_ ?_ ?_
            rotate_left
            · intro u hSw
              have y0 := (hSw.cell (p := ⟨b6, 0, none⟩) hb6).trans c0
              have y1 := (hSw.cell (p := ⟨b6, 1, none⟩) hb6).trans c1
              have y2 := (hSw.cell (p := ⟨b6, 2, none⟩) hb6).trans c2
              have y3 := (hSw.cell (p := ⟨b7, 0, none⟩) hb7).trans d0
              have y4 := (hSw.cell (p := ⟨b7, 1, none⟩) hb7).trans d1
              have y5 := (hSw.cell (p := ⟨b7, 2, none⟩) hb7).trans d2
              go_simp
              try with_reducible rfl
            · rfl
            · exact fun _ _ _ h => h
            try simp only [Act.put, List.setIfInBounds_toArray, List.set_cons_zero, List.set_cons_succ]
            refine held_take (i := 1) (fuel := 41) (v := ?_) (by rw [List.getElem?_toArray]; rfl) (by kernel_rfl) (by kernel_rfl) (by kernel_rfl) hHeld ?_ ?_ ?_ ?_
            rotate_left
            · intro u hSw
              have y0 := (hSw.cell (p := ⟨b6, 0, none⟩) hb6).trans c0
              have y1 := (hSw.cell (p := ⟨b6, 1, none⟩) hb6).trans c1
              have y2 := (hSw.cell (p := ⟨b6, 2, none⟩) hb6).trans c2
              have y3 := (hSw.cell (p := ⟨b7, 0, none⟩) hb7).trans d0
              have y4 := (hSw.cell (p := ⟨b7, 1, none⟩) hb7).trans d1
              have y5 := (hSw.cell (p := ⟨b7, 2, none⟩) hb7).trans d2
              go_simp
              try with_reducible rfl
            · rfl
            · exact fun _ _ _ h => h
            try simp only [Act.put, List.setIfInBounds_toArray, List.set_cons_zero, List.set_cons_succ]
            refine held_take (i := 2) (fuel := 40) (v := ?_) (by rw [List.getElem?_toArray]; rfl) (by kernel_rfl) (by kernel_rfl) (by kernel_rfl) hHeld ?_ ?_ ?_ ?_
            rotate_left
            · intro u hSw
              go_simp
              try with_reducible rfl
            · rfl
            · exact fun _ _ _ h => h
            try simp only [Act.put, List.setIfInBounds_toArray, List.set_cons_zero, List.set_cons_succ]
            refine held_take (i := 3) (fuel := 39) (v := ?_) (by rw [List.getElem?_toArray]; rfl) (by kernel_rfl) (by kernel_rfl) (by kernel_rfl) hHeld ?_ ?_ ?_ ?_
            rotate_left
            · intro u hSw
              go_simp
              try with_reducible rfl
            · rfl
            · exact fun _ _ _ h => h
            try simp only [Act.put, List.setIfInBounds_toArray, List.set_cons_zero, List.set_cons_succ]
            refine held_take (i := 4) (fuel := 38) (v := ?_) (by rw [List.getElem?_toArray]; rfl) (by kernel_rfl) (by kernel_rfl) (by kernel_rfl) hHeld ?_ ?_ ?_ ?_
            rotate_left
            · intro u hSw
              go_simp
              try with_reducible rfl
            · rfl
            · exact fun _ _ _ h => h
            try simp only [Act.put, List.setIfInBounds_toArray, List.set_cons_zero, List.set_cons_succ]
            refine held_take (i := 5) (fuel := 37) (v := ?_) (by rw [List.getElem?_toArray]; rfl) (by kernel_rfl) (by kernel_rfl) (by kernel_rfl) hHeld ?_ ?_ ?_ ?_
            rotate_left
            · intro u hSw
              go_simp
              try with_reducible rfl
            · rfl
            · exact fun _ _ _ h => h
            try simp only [Act.put, List.setIfInBounds_toArray, List.set_cons_zero, List.set_cons_succ]
            refine held_take (i := 6) (fuel := 36) (v := ?_) (by rw [List.getElem?_toArray]; rfl) (by kernel_rfl) (by kernel_rfl) (by kernel_rfl) hHeld ?_ ?_ ?_ ?_
            rotate_left
            · intro u hSw
              go_simp
              try with_reducible rfl
            · rfl
            · exact fun _ _ _ h => h
            try simp only [Act.put, List.setIfInBounds_toArray, List.set_cons_zero, List.set_cons_succ]
            refine held_take (i := 7) (fuel := 35) (v := ?_) (by rw [List.getElem?_toArray]; rfl) (by kernel_rfl) (by kernel_rfl) (by kernel_rfl) hHeld ?_ ?_ ?_ ?_
            rotate_left
            · intro u hSw
              go_simp
              try with_reducible rfl
            · rfl
            · exact fun _ _ _ h => h
            try simp only [Act.put, List.setIfInBounds_toArray, List.set_cons_zero, List.set_cons_succ]
            refine held_take (i := 8) (fuel := 34) (v := ?_) (by rw [List.getElem?_toArray]; rfl) (by kernel_rfl) (by kernel_rfl) (by kernel_rfl) hHeld ?_ ?_ ?_ ?_
            rotate_left
            · intro u hSw
              go_simp
              try with_reducible rfl
            · rfl
            · exact fun _ _ _ h => h
            try simp only [Act.put, List.setIfInBounds_toArray, List.set_cons_zero, List.set_cons_succ]
            refine held_take (i := 9) (fuel := 33) (v := ?_) (by rw [List.getElem?_toArray]; rfl) (by kernel_rfl) (by kernel_rfl) (by kernel_rfl) hHeld ?_ ?_ ?_ ?_
            rotate_left
            · intro u hSw
              go_simp
              try with_reducible rfl
            · rfl
            · exact fun _ _ _ h => h
            try simp only [Act.put, List.setIfInBounds_toArray, List.set_cons_zero, List.set_cons_succ]
            refine held_take (i := 10) (fuel := 32) (v := ?_) (by rw [List.getElem?_toArray]; rfl) (by kernel_rfl) (by kernel_rfl) (by kernel_rfl) hHeld ?_ ?_ ?_ ?_
            rotate_left
            · intro u hSw
              have y0 := (hSw.cell (p := ⟨b6, 0, none⟩) hb6).trans c0
              have y1 := (hSw.cell (p := ⟨b6, 1, none⟩) hb6).trans c1
              have y2 := (hSw.cell (p := ⟨b6, 2, none⟩) hb6).trans c2
              have y3 := (hSw.cell (p := ⟨b7, 0, none⟩) hb7).trans d0
              have y4 := (hSw.cell (p := ⟨b7, 1, none⟩) hb7).trans d1
              have y5 := (hSw.cell (p := ⟨b7, 2, none⟩) hb7).trans d2
              go_simp
              try with_reducible rfl
            · rfl
            · exact fun _ _ _ h => h
            try simp only [Act.put, List.setIfInBounds_toArray, List.set_cons_zero, List.set_cons_succ]
            refine held_take (i := 11) (fuel := 31) (v := ?_) (by rw [List.getElem?_toArray]; rfl) (by kernel_rfl) (by kernel_rfl) (by kernel_rfl) hHeld ?_ ?_ ?_ ?_
            rotate_left
            · intro u hSw
              go_simp
              try with_reducible rfl
            · rfl
            · exact fun _ _ _ h => h
            try simp only [Act.put, List.setIfInBounds_toArray, List.set_cons_zero, List.set_cons_succ]
            refine held_take (i := 12) (fuel := 30) (v := ?_) (by rw [List.getElem?_toArray]; rfl) (by kernel_rfl) (by kernel_rfl) (by kernel_rfl) hHeld ?_ ?_ ?_ ?_
            rotate_left
            · intro u hSw
              go_simp
              try with_reducible rfl
            · rfl
            · exact fun _ _ _ h => h
            try simp only [Act.put, List.setIfInBounds_toArray, List.set_cons_zero, List.set_cons_succ]
            refine held_take (i := 13) (fuel := 29) (v := ?_) (by rw [List.getElem?_toArray]; rfl) (by kernel_rfl) (by kernel_rfl) (by kernel_rfl) hHeld ?_ ?_ ?_ ?_
            rotate_left
            · intro u hSw
              go_simp
              try with_reducible rfl
            · rfl
            · exact fun _ _ _ h => h
            try simp only [Act.put, List.setIfInBounds_toArray, List.set_cons_zero, List.set_cons_succ]
            refine held_take (i := 14) (fuel := 28) (v := ?_) (by rw [List.getElem?_toArray]; rfl) (by kernel_rfl) (by kernel_rfl) (by kernel_rfl) hHeld ?_ ?_ ?_ ?_
            rotate_left
            · intro u hSw
              go_simp
              try with_reducible rfl
            · rfl
            · exact fun _ _ _ h => h
            try simp only [Act.put, List.setIfInBounds_toArray, List.set_cons_zero, List.set_cons_succ]
            refine held_take (i := 15) (fuel := 27) (v := ?_) (by rw [List.getElem?_toArray]; rfl) (by kernel_rfl) (by kernel_rfl) (by kernel_rfl) hHeld ?_ ?_ ?_ ?_
            rotate_left
            · intro u hSw
              go_simp
              try with_reducible rfl
            · rfl
            · exact fun _ _ _ h => h
            try simp only [Act.put, List.setIfInBounds_toArray, List.set_cons_zero, List.set_cons_succ]
            refine held_take (i := 16) (fuel := 26) (v := ?_) (by rw [List.getElem?_toArray]; rfl) (by kernel_rfl) (by kernel_rfl) (by kernel_rfl) hHeld ?_ ?_ ?_ ?_
            rotate_left
            · intro u hSw
              go_simp
              try with_reducible rfl
            · rfl
            · exact fun _ _ _ h => h
            try simp only [Act.put, List.setIfInBounds_toArray, List.set_cons_zero, List.set_cons_succ]
            refine held_take (i := 17) (fuel := 25) (v := ?_) (by rw [List.getElem?_toArray]; rfl) (by kernel_rfl) (by kernel_rfl) (by kernel_rfl) hHeld ?_ ?_ ?_ ?_
            rotate_left
            · intro u hSw
              go_simp
              try with_reducible rfl
            · rfl
            · exact fun _ _ _ h => h
            try simp only [Act.put, List.setIfInBounds_toArray, List.set_cons_zero, List.set_cons_succ]
            refine held_take (i := 18) (fuel := 24) (v := ?_) (by rw [List.getElem?_toArray]; rfl) (by kernel_rfl) (by kernel_rfl) (by kernel_rfl) hHeld ?_ ?_ ?_ ?_
            rotate_left
            · intro u hSw
              go_simp
              try with_reducible rfl
            · rfl
            · exact fun _ _ _ h => h
            try simp only [Act.put, List.setIfInBounds_toArray, List.set_cons_zero, List.set_cons_succ]
            refine held_take (i := 19) (fuel := 23) (v := ?_) (by rw [List.getElem?_toArray]; rfl) (by kernel_rfl) (by kernel_rfl) (by kernel_rfl) hHeld ?_ ?_ ?_ ?_
            rotate_left
            · intro u hSw
              go_simp
              try with_reducible rfl
            · rfl
            · exact fun _ _ _ h => h
            try simp only [Act.put, List.setIfInBounds_toArray, List.set_cons_zero, List.set_cons_succ]
            refine held_take (i := 20) (fuel := 22) (v := ?_) (by rw [List.getElem?_toArray]; rfl) (by kernel_rfl) (by kernel_rfl) (by kernel_rfl) hHeld ?_ ?_ ?_ ?_
            rotate_left
            · intro u hSw
              have y0 := (hSw.cell (p := ⟨b6, 0, none⟩) hb6).trans c0
              have y1 := (hSw.cell (p := ⟨b6, 1, none⟩) hb6).trans c1
              have y2 := (hSw.cell (p := ⟨b6, 2, none⟩) hb6).trans c2
              have y3 := (hSw.cell (p := ⟨b7, 0, none⟩) hb7).trans d0
              have y4 := (hSw.cell (p := ⟨b7, 1, none⟩) hb7).trans d1
              have y5 := (hSw.cell (p := ⟨b7, 2, none⟩) hb7).trans d2
              go_simp
              try with_reducible rfl
            · rfl
            · exact fun _ _ _ h => h
            try simp only [Act.put, List.setIfInBounds_toArray, List.set_cons_zero, List.set_cons_succ]
            refine held_take (i := 21) (fuel := 21) (v := ?_) (by rw [List.getElem?_toArray]; rfl) (by kernel_rfl) (by kernel_rfl) (by kernel_rfl) hHeld ?_ ?_ ?_ ?_
            rotate_left
            · intro u hSw
              go_simp
              try with_reducible rfl
            · rfl
            · exact fun _ _ _ h => h
            try simp only [Act.put, List.setIfInBounds_toArray, List.set_cons_zero, List.set_cons_succ]
            refine held_take (i := 22) (fuel := 20) (v := ?_) (by rw [List.getElem?_toArray]; rfl) (by kernel_rfl) (by kernel_rfl) (by kernel_rfl) hHeld ?_ ?_ ?_ ?_
            rotate_left
            · intro u hSw
              have y0 := (hSw.cell (p := ⟨b6, 0, none⟩) hb6).trans c0
              have y1 := (hSw.cell (p := ⟨b6, 1, none⟩) hb6).trans c1
              have y2 := (hSw.cell (p := ⟨b6, 2, none⟩) hb6).trans c2
              have y3 := (hSw.cell (p := ⟨b7, 0, none⟩) hb7).trans d0
              have y4 := (hSw.cell (p := ⟨b7, 1, none⟩) hb7).trans d1
              have y5 := (hSw.cell (p := ⟨b7, 2, none⟩) hb7).trans d2
              go_simp
              try with_reducible rfl
            · rfl
            · exact fun _ _ _ h => h
            try simp only [Act.put, List.setIfInBounds_toArray, List.set_cons_zero, List.set_cons_succ]
            refine held_take (i := 24) (fuel := 19) (v := ?_) (by rw [List.getElem?_toArray]; rfl) (by kernel_rfl) (by kernel_rfl) (by kernel_rfl) hHeld ?_ ?_ ?_ ?_
            rotate_left
            · intro u hSw
              go_simp
              try with_reducible rfl
            · rfl
            · exact fun _ _ _ h => h
            try simp only [Act.put, List.setIfInBounds_toArray, List.set_cons_zero, List.set_cons_succ]
            refine held_take (i := 25) (fuel := 18) (v := ?_) (by rw [List.getElem?_toArray]; rfl) (by kernel_rfl) (by kernel_rfl) (by kernel_rfl) hHeld ?_ ?_ ?_ ?_
            rotate_left
            · intro u hSw
              have y0 := (hSw.cell (p := ⟨b6, 0, none⟩) hb6).trans c0
              have y1 := (hSw.cell (p := ⟨b6, 1, none⟩) hb6).trans c1
              have y2 := (hSw.cell (p := ⟨b6, 2, none⟩) hb6).trans c2
              have y3 := (hSw.cell (p := ⟨b7, 0, none⟩) hb7).trans d0
              have y4 := (hSw.cell (p := ⟨b7, 1, none⟩) hb7).trans d1
              have y5 := (hSw.cell (p := ⟨b7, 2, none⟩) hb7).trans d2
              go_simp
              try with_reducible rfl
            · rfl
            · exact fun _ _ _ h => h
            try simp only [Act.put, List.setIfInBounds_toArray, List.set_cons_zero, List.set_cons_succ]
            refine held_one (i := 23) (fuel := 17) (by kernel_rfl) (by rw [List.getElem?_toArray]; rfl) (fun K hK => ?_)
            go_simp
            refine (pText_any _ (some ad) nt ct ts x.kind x.num ((HRD.out.below hHeld).more hHeld.size) (by omega)).mono ?_
            rintro e w12 ⟨he, hb12⟩
            rw [HTX.out] at he
            subst he
            refine hK.out _ _ ?_ (fun hHeld => ?_)
            · exact hHeld.trans (hb12.mono hHeld.size)
            clear hK K
            try simp only [Act.put, List.setIfInBounds_toArray, List.set_cons_zero, List.set_cons_succ]
            clear hb12
            refine held_take (i := 26) (fuel := 16) (v := ?_) (by rw [List.getElem?_toArray]; rfl) (by kernel_rfl) (by kernel_rfl) (by kernel_rfl) hHeld ?_ ?_ ?_ ?_
            rotate_left
            · intro u hSw
              go_simp
              try with_reducible rfl
            · rfl
            · exact fun _ _ _ h => h
            try simp only [Act.put, List.setIfInBounds_toArray, List.set_cons_zero, List.set_cons_succ]
            refine held_take (i := 27) (fuel := 15) (v := ?_) (by rw [List.getElem?_toArray]; rfl) (by kernel_rfl) (by kernel_rfl) (by kernel_rfl) hHeld ?_ ?_ ?_ ?_
            rotate_left
            · intro u hSw
              go_simp
              try with_reducible rfl
            · rfl
            · exact fun _ _ _ h => h
            try simp only [Act.put, List.setIfInBounds_toArray, List.set_cons_zero, List.set_cons_succ]
            refine held_take (i := 28) (fuel := 14) (v := ?_) (by rw [List.getElem?_toArray]; rfl) (by kernel_rfl) (by kernel_rfl) (by kernel_rfl) hHeld ?_ ?_ ?_ ?_
            rotate_left
            · intro u hSw
              go_simp
              try with_reducible rfl
            · rfl
            · exact fun _ _ _ h => h
            try simp only [Act.put, List.setIfInBounds_toArray, List.set_cons_zero, List.set_cons_succ]
            refine held_take (i := 29) (fuel := 13) (v := ?_) (by rw [List.getElem?_toArray]; rfl) (by kernel_rfl) (by kernel_rfl) (by kernel_rfl) hHeld ?_ ?_ ?_ ?_
            rotate_left
            · intro u hSw
              go_simp
              try with_reducible rfl
            · rfl
            · exact fun _ _ _ h => h
            try simp only [Act.put, List.setIfInBounds_toArray, List.set_cons_zero, List.set_cons_succ]
            refine held_take (i := 30) (fuel := 12) (v := ?_) (by rw [List.getElem?_toArray]; rfl) (by kernel_rfl) (by kernel_rfl) (by kernel_rfl) hHeld ?_ ?_ ?_ ?_
            rotate_left
            · intro u hSw
              go_simp
              try with_reducible rfl
            · rfl
            · exact fun _ _ _ h => h
            try simp only [Act.put, List.setIfInBounds_toArray, List.set_cons_zero, List.set_cons_succ]
            refine held_take (i := 31) (fuel := 11) (v := ?_) (by rw [List.getElem?_toArray]; rfl) (by kernel_rfl) (by kernel_rfl) (by kernel_rfl) hHeld ?_ ?_ ?_ ?_
            rotate_left
            · intro u hSw
              go_simp
              try with_reducible rfl
            · rfl
            · exact fun _ _ _ h => h
            try simp only [Act.put, List.setIfInBounds_toArray, List.set_cons_zero, List.set_cons_succ]
            refine held_take (i := 32) (fuel := 10) (v := ?_) (by rw [List.getElem?_toArray]; rfl) (by kernel_rfl) (by kernel_rfl) (by kernel_rfl) hHeld ?_ ?_ ?_ ?_
            rotate_left
            · intro u hSw
              go_simp
              try with_reducible rfl
            · rfl
            · exact fun _ _ _ h => h
            try simp only [Act.put, List.setIfInBounds_toArray, List.set_cons_zero, List.set_cons_succ]
            refine held_take (i := 33) (fuel := 9) (v := ?_) (by rw [List.getElem?_toArray]; rfl) (by kernel_rfl) (by kernel_rfl) (by kernel_rfl) hHeld ?_ ?_ ?_ ?_
            rotate_left
            · intro u hSw
              go_simp
              try with_reducible rfl
            · rfl
            · exact fun _ _ _ h => h
            try simp only [Act.put, List.setIfInBounds_toArray, List.set_cons_zero, List.set_cons_succ]
            refine held_take (i := 34) (fuel := 8) (v := ?_) (by rw [List.getElem?_toArray]; rfl) (by kernel_rfl) (by kernel_rfl) (by kernel_rfl) hHeld ?_ ?_ ?_ ?_
            rotate_left
            · intro u hSw
              go_simp
              try with_reducible rfl
            · rfl
            · exact fun _ _ _ h => h
            try simp only [Act.put, List.setIfInBounds_toArray, List.set_cons_zero, List.set_cons_succ]
            refine held_take (i := 35) (fuel := 7) (v := ?_) (by rw [List.getElem?_toArray]; rfl) (by kernel_rfl) (by kernel_rfl) (by kernel_rfl) hHeld ?_ ?_ ?_ ?_
            rotate_left
            · intro u hSw
              go_simp
              try with_reducible rfl
            · rfl
            · exact fun _ _ _ h => h
            try simp only [Act.put, List.setIfInBounds_toArray, List.set_cons_zero, List.set_cons_succ]
            refine held_take (i := 36) (fuel := 6) (v := ?_) (by rw [List.getElem?_toArray]; rfl) (by kernel_rfl) (by kernel_rfl) (by kernel_rfl) hHeld ?_ ?_ ?_ ?_
            rotate_left
            · intro u hSw
              go_simp
              try with_reducible rfl
            · rfl
            · exact fun _ _ _ h => h
            try simp only [Act.put, List.setIfInBounds_toArray, List.set_cons_zero, List.set_cons_succ]
            refine held_take (i := 37) (fuel := 5) (v := ?_) (by rw [List.getElem?_toArray]; rfl) (by kernel_rfl) (by kernel_rfl) (by kernel_rfl) hHeld ?_ ?_ ?_ ?_
            rotate_left
            · intro u hSw
              have y6 := (hSw.cell (p := ad.add (i * 3)) hbad).trans ep
              go_simp
              try with_reducible rfl
            · rfl
            · exact fun _ _ _ h => h
            try simp only [Act.put, List.setIfInBounds_toArray, List.set_cons_zero, List.set_cons_succ]
            refine held_take (i := 38) (fuel := 4) (v := ?_) (by rw [List.getElem?_toArray]; rfl) (by kernel_rfl) (by kernel_rfl) (by kernel_rfl) hHeld ?_ ?_ ?_ ?_
            rotate_left
            · intro u hSw
              go_simp
              try with_reducible rfl
            · rfl
            · exact fun _ _ _ h => h
            try simp only [Act.put, List.setIfInBounds_toArray, List.set_cons_zero, List.set_cons_succ]
            refine held_take (i := 39) (fuel := 3) (v := ?_) (by rw [List.getElem?_toArray]; rfl) (by kernel_rfl) (by kernel_rfl) (by kernel_rfl) hHeld ?_ ?_ ?_ ?_
            rotate_left
            · intro u hSw
              have y0 := (hSw.cell (p := ⟨b6, 0, none⟩) hb6).trans c0
              have y1 := (hSw.cell (p := ⟨b6, 1, none⟩) hb6).trans c1
              have y2 := (hSw.cell (p := ⟨b6, 2, none⟩) hb6).trans c2
              have y3 := (hSw.cell (p := ⟨b7, 0, none⟩) hb7).trans d0
              have y4 := (hSw.cell (p := ⟨b7, 1, none⟩) hb7).trans d1
              have y5 := (hSw.cell (p := ⟨b7, 2, none⟩) hb7).trans d2
              go_simp
              try with_reducible rfl
            · rfl
            · exact fun _ _ _ h => h
            try simp only [Act.put, List.setIfInBounds_toArray, List.set_cons_zero, List.set_cons_succ]
            refine held_take (i := 40) (fuel := 2) (v := ?_) (by rw [List.getElem?_toArray]; rfl) (by kernel_rfl) (by kernel_rfl) (by kernel_rfl) hHeld ?_ ?_ ?_ ?_
            rotate_left
            · intro u hSw
              go_simp
              try with_reducible rfl
            · rfl
            · exact fun _ _ _ h => h
            try simp only [Act.put, List.setIfInBounds_toArray, List.set_cons_zero, List.set_cons_succ]
            refine held_take (i := 41) (fuel := 1) (v := ?_) (by rw [List.getElem?_toArray]; rfl) (by kernel_rfl) (by kernel_rfl) (by kernel_rfl) hHeld ?_ ?_ ?_ ?_
            rotate_left
            · intro u hSw
              go_simp
              try with_reducible rfl
            · rfl
            · exact fun _ _ _ h => h
            try simp only [Act.put, List.setIfInBounds_toArray, List.set_cons_zero, List.set_cons_succ]
            refine held_take (i := 42) (fuel := 0) (v := ?_) (by rw [List.getElem?_toArray]; rfl) (by kernel_rfl) (by kernel_rfl) (by kernel_rfl) hHeld ?_ ?_ ?_ ?_
            rotate_left
            · intro u hSw
              go_simp
              try with_reducible rfl
            · rfl
            · exact fun _ _ _ h => h
            try simp only [Act.put, List.setIfInBounds_toArray, List.set_cons_zero, List.set_cons_succ]
            refine wpAnyH_done (by kernel_rfl) ?_ _
            have HBX := Lib.hid (HBD.out.trans (hHeld.mono HBD.out.size))
            have HNX : Hid (Below D.heap.size D w12) := Lib.hid hHeld
            clear hHeld
            have z0 : w12.cell? ⟨b6, 0, none⟩ = some (.string (bs x.name)) := (HNX.out.cell (p := ⟨b6, 0, none⟩) hb6).trans c0
            have z1 : w12.cell? ⟨b6, 1, none⟩ = some (.int .i64 x.kind) := (HNX.out.cell (p := ⟨b6, 1, none⟩) hb6).trans c1
            have z2 : w12.cell? ⟨b6, 2, none⟩ = some (.int .i64 x.num) := (HNX.out.cell (p := ⟨b6, 2, none⟩) hb6).trans c2
            go_wp2_with fail
            refine (isName_any _ (bs x.name) (by rw [bs_size]; exact HXL.out)).mono ?_
            rintro e w13 ⟨he, hb13⟩
            obtain rfl : e = .returned (.bool true) := he.trans (by rw [show (bs x.name).data.toList = x.name from rfl, HNB.out])
            have z9 : w13.cell? ⟨b6, 0, none⟩ = some (.string (bs x.name)) := (hb13.cell (p := ⟨b6, 0, none⟩) (Nat.lt_of_lt_of_le hb6 HNX.out.size)).trans z0
            have HB13 := Lib.hid (HBX.out.trans (hb13.mono HBX.out.size))
            have HT13 := Lib.hid (HTD.out.trans ((HNX.out.trans (hb13.mono HNX.out.size)).mono HTD.out.size))
            clear hb13 he
            go_wp2_with fail
            refine (Key_any _ (bs x.name)).mono ?_
            rintro e w14 ⟨he, hb14⟩
            obtain rfl : e = .returned (.bool false) := he.trans (by rw [show (bs x.name).data.toList = x.name from rfl, HKB.out])
            have HT14 := Lib.hid (HT13.out.trans (hb14.mono HT13.out.size))
            clear hb14 he
            go_wp2_with fail
            go_roundw
            case rel => exact ⟨j + 1, by omega, by go_num, HT14⟩
            case measure => have hjj := HJ0.out; simp [intOf]; omega
        · obtain rfl : nt = j := by omega
          have hnq := HNT.out
          have HKr := Lib.hid (HKV.out.below HB.out HKV.out.lt)
          go_wp2_with (refine wpList_load_row rfl 24 _ rfl w.heap.size rfl 24 #[.slice A0 n0 c0, .slice A1 n1 c1, .slice A2 n2 c2, .slice A3 n3 c3, .slice A4 n4 c4, .slice A5 n5 c5, .slice A6 n6 c6] (0, 0) _ HKr.out Tryd.underlying24 rfl dcl7_size ?_)
          refine (count_any ⟨A0, n0, c0, A1, n1, c1, A2, n2, c2, A3, n3, c3, A4, n4, c4, A5, n5, c5, A6, n6, c6⟩ wr HBD.out).mono ?_
          rintro e w15 ⟨he, hb15⟩
          obtain rfl : e = .returned (.int .i64 (q : Int)) := by rw [he, HQ.out]
          have HB15 := Lib.hid (HBr.out.trans (hb15.mono HBr.out.size))
          clear hb15 he
          have m1 : ((nt : Int) == ((q : Int) + 4)) = true := by rw [hnq]; simp
          go_wp2_with fail
          refine (awake15_any _ (HFL.out.below HB15.out (Nat.le_refl _))).mono ?_
          rintro e wz ⟨rfl, hbz⟩
          have HBZ := Lib.hid (HB15.out.trans (hbz.mono HB15.out.size))
          clear hbz
          go_wp2_with fail
          go_ret
          exact ⟨rfl, HBZ.out⟩
    · have hem := makeN_empty (gd := gdN) (d := d) (by rw [hz1]; exact h0)
      rw [← HR.out] at hem
      have hem : ts = [] := hem
      subst hem
      obtain rfl : nt = 0 := hlv.symm
      clear hz1 hlv
      have p0 : (w3.alloc (.cells #[.int .i64 fa, .int .i64 fb, .int .i64 fk, .string (bs fs)] 30)).cell? ⟨w3.heap.size, 0, none⟩ = some (.int .i64 fa) := by rw [← hV]; exact HFV.out.cell 0
      have p1 : (w3.alloc (.cells #[.int .i64 fa, .int .i64 fb, .int .i64 fk, .string (bs fs)] 30)).cell? ⟨w3.heap.size, 1, none⟩ = some (.int .i64 fb) := by rw [← hV]; exact HFV.out.cell 1
      have p2 : (w3.alloc (.cells #[.int .i64 fa, .int .i64 fb, .int .i64 fk, .string (bs fs)] 30)).cell? ⟨w3.heap.size, 2, none⟩ = some (.int .i64 fk) := by rw [← hV]; exact HFV.out.cell 2
      have p3 : (w3.alloc (.cells #[.int .i64 fa, .int .i64 fb, .int .i64 fk, .string (bs fs)] 30)).cell? ⟨w3.heap.size, 3, none⟩ = some (.string (bs fs)) := by rw [← hV]; exact HFV.out.cell 3
      have e0 : ∀ (x y : Operand) (W : World), (eqGuard .neq 30 x y (.agg #[.int .i64 fa, .int .i64 fb, .int .i64 fk, .string (bs fs)]) (.agg #[.int .i64 0, .int .i64 0, .int .i64 0, .string ⟨#[]⟩])).run Tryd.prog W = .ok () W := fun x y W => guard_fau .neq x y (fa, fb, fk, fs) (0, 0, 0, []) W
      have f0 : ∀ W : World, (binOp .neq 30 (.agg #[.int .i64 fa, .int .i64 fb, .int .i64 fk, .string (bs fs)]) (.agg #[.int .i64 0, .int .i64 0, .int .i64 0, .string ⟨#[]⟩])).run Tryd.prog W = .ok (.bool true) W := fun W => (run_neq_fau (fa, fb, fk, fs) (0, 0, 0, []) W).trans (by simp [h0])
      go_wp2_with fail
      rw [← hV]
      refine (awake15_any _ (HFL.out.below HBV.out (Nat.le_refl _))).mono ?_
      rintro e wz ⟨rfl, hbz⟩
      have HBZ := Lib.hid (HBV.out.trans (hbz.mono HBV.out.size))
      clear hbz
      go_wp2_with fail
      go_ret
      exact ⟨rfl, HBZ.out⟩
  · go_enter Tryd.func5, Tryd.ntmps5
    go_wp2_with fail
    rw [← hW]
    clear hW
    go_wp2_with (refine wpList_load_row rfl 24 _ rfl w.heap.size rfl 24 #[.slice A0 n0 c0, .slice A1 n1 c1, .slice A2 n2 c2, .slice A3 n3 c3, .slice A4 n4 c4, .slice A5 n5 c5, .slice A6 n6 c6] (0, 0) _ HK0.out Tryd.underlying24 rfl dcl7_size ?_)
    refine (count_any ⟨A0, n0, c0, A1, n1, c1, A2, n2, c2, A3, n3, c3, A4, n4, c4, A5, n5, c5, A6, n6, c6⟩ W HBD.out).mono ?_
    rintro e w1 ⟨he, hb1⟩
    obtain rfl : e = .returned (.int .i64 (q : Int)) := by rw [he, HQ.out]
    have HB1 := Lib.hid (HB0.out.trans (hb1.mono HB0.out.size))
    have HK1 := Lib.hid (HK0.out.below hb1 HK0.out.lt)
    clear hb1 he
    go_wp2_with fail
    refine (awake15_any _ (HFL.out.below HB1.out (Nat.le_refl _))).mono ?_
    rintro e wz ⟨rfl, hbz⟩
    have HBZ := Lib.hid (HB1.out.trans (hbz.mono HB1.out.size))
    clear hbz
    go_wp2_with fail
    go_ret
    exact ⟨rfl, HBZ.out⟩

end Go.Proofs.YtgeglhgkibcpfaaDoor
